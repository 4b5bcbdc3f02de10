import Derived.Test.YtkaaleeldpghoaaGreatZSK4
import Derived.Deep.Cut
namespace Go.Proofs.YtkaaleeldpghoaaGreat
open Go.RowKit Go.Shelf Go.Sort
set_option linter.unusedVariables false
set_option linter.unusedSimpArgs false
attribute [local go_sem] Oper.semAt_some

set_option maxRecDepth 100000 in
set_option maxHeartbeats 12800000 in
theorem w_sOfKinds (n : Int) (hn : 0 ≤ n ∧ n < 256) (w : World) : Calls Tryz.prog 5 #[.int .u8 n] w fun e w' => (∃ v, e = .returned v ∧ Hid (InT w' 2 (widT n) v)) ∧ Below w.heap.size w w' := by
  have C0 := Hid.mk (fun u (hc : u.cell? ⟨w.heap.size, 0, none⟩ = some (.int .u8 n)) => w_ofk0 n w.heap.size u hn hc)
  have C1 := Hid.mk (fun u (hc : u.cell? ⟨w.heap.size, 0, none⟩ = some (.int .u8 n)) => w_ofk1 n w.heap.size u hn hc)
  have C2 := Hid.mk (fun u (hc : u.cell? ⟨w.heap.size, 0, none⟩ = some (.int .u8 n)) => w_ofk2 n w.heap.size u hn hc)
  have C4 := Hid.mk (fun u (hc : u.cell? ⟨w.heap.size, 0, none⟩ = some (.int .u8 n)) => w_ofk4 n w.heap.size u hn hc)
  have C3 := Hid.mk (fun u (hc : u.cell? ⟨w.heap.size, 0, none⟩ = some (.int .u8 n)) => w_ofk3 n w.heap.size u hn hc)
  have C5 := Hid.mk (fun u (hc : u.cell? ⟨w.heap.size, 0, none⟩ = some (.int .u8 n)) => w_ofk5 n w.heap.size u hn hc)
  have C6 := Hid.mk (fun u (hc : u.cell? ⟨w.heap.size, 0, none⟩ = some (.int .u8 n)) => w_ofk6 n w.heap.size u hn hc)
  have hall := all_kbu8 hn
  have HWT : Hid (widT n = widB (kb n 0) (kb n 1) (kb n 2) (kb n 3) (kb n 4) (kb n 5) (kb n 6)) := rfl
  obtain ⟨WT, hWT⟩ : ∃ WT, widT n = WT := ⟨_, rfl⟩
  rw [hWT] at HWT ⊢
  clear hWT
  generalize kb n 0 = a0 at hall HWT C0
  generalize kb n 1 = a1 at hall HWT C1
  generalize kb n 2 = a2 at hall HWT C2
  generalize kb n 3 = a3 at hall HWT C3
  generalize kb n 4 = a4 at hall HWT C4
  generalize kb n 5 = a5 at hall HWT C5
  generalize kb n 6 = a6 at hall HWT C6
  obtain ⟨W0, hW0⟩ : ∃ W0, (w.alloc (.cells #[.int .u8 n] 5)).alloc (.cells #[.bool false, .bool false, .bool false, .bool false, .slice none 0 0, .bool false, .slice none 0 0, .slice none 0 0, .slice none 0 0] 27) = W0 := ⟨_, rfl⟩
  have HB0 : Hid (Below w.heap.size w W0) := by rw [← hW0]; exact ((Below.refl _ w).alloc (Nat.le_refl _) _).alloc (by simp) _
  have HR0 : Hid (W0.heap[w.heap.size + 1]? = some (.cells #[.bool false, .bool false, .bool false, .bool false, .slice none 0 0, .bool false, .slice none 0 0, .slice none 0 0, .slice none 0 0] 27 (0, 0))) := by
    show _ = _
    rw [← hW0]
    have h := World.alloc_heap_new (w.alloc (.cells #[.int .u8 n] 5)) (.cells #[.bool false, .bool false, .bool false, .bool false, .slice none 0 0, .bool false, .slice none 0 0, .slice none 0 0, .slice none 0 0] 27)
    rw [World.size_alloc] at h
    exact h
  have HK0 : Hid (W0.heap[w.heap.size]? = some (.cells #[.int .u8 n] 5 (0, 0))) := by
    show _ = _
    rw [← hW0]
    exact (Below.heap_alloc _ _ _ (by simp)).trans (World.alloc_heap_new w _)
  have p0 := cell_of_row _ _ 0 _ _ _ HK0.out
  obtain ⟨A, hA⟩ : ∃ A, all7 a0 a1 a2 a3 a4 a5 a6 = A := ⟨_, rfl⟩
  rw [hA] at hall
  have HW2 : Hid (WT = if A then ttEv else widL a0 a1 a2 a3 a4 a5 a6) := by show _ = _; rw [HWT.out, ← hA]; rfl
  clear HWT hA
  cases A with
  | true =>
    have HT : Hid (WT = ttEv) := HW2.out
    clear HW2
    go_enter Tryz.func5, Tryz.ntmps5
    go_wp2_with fail
    refine (w_sfEvery _).mono ?_
    rintro e w1 ⟨rfl, hq⟩
    have HB1 := Hid.mk (HB0.out.trans (hq.mono HB0.out.size))
    have HR1 : Hid (w1.heap[w.heap.size + 1]? = _) := (hq.block _ (lt_of_row HR0.out)).trans HR0.out
    clear hq hW0 p0
    have g0 := cell_of_row _ _ 0 _ _ _ HR1.out
    have f0 := frozen_row9 (j := 0) HR1.out
    have g1 := cell_of_row _ _ 1 _ _ _ HR1.out
    have f1 := frozen_row9 (j := 1) HR1.out
    have g2 := cell_of_row _ _ 2 _ _ _ HR1.out
    have f2 := frozen_row9 (j := 2) HR1.out
    have g3 := cell_of_row _ _ 3 _ _ _ HR1.out
    have f3 := frozen_row9 (j := 3) HR1.out
    have g4 := cell_of_row _ _ 4 _ _ _ HR1.out
    have f4 := frozen_row9 (j := 4) HR1.out
    have g5 := cell_of_row _ _ 5 _ _ _ HR1.out
    have f5 := frozen_row9 (j := 5) HR1.out
    have g6 := cell_of_row _ _ 6 _ _ _ HR1.out
    have f6 := frozen_row9 (j := 6) HR1.out
    have g7 := cell_of_row _ _ 7 _ _ _ HR1.out
    have f7 := frozen_row9 (j := 7) HR1.out
    have g8 := cell_of_row _ _ 8 _ _ _ HR1.out
    have f8 := frozen_row9 (j := 8) HR1.out
    go_wp2_with fail
    (try simp only [Exit.inBlock, Exit.then])
    generalize hz9 : ((((((((w1.setCell ⟨w.heap.size + 1, 0, none⟩ (.bool true)).setCell ⟨w.heap.size + 1, 1, none⟩ (.bool false)).setCell ⟨w.heap.size + 1, 2, none⟩ (.bool false)).setCell ⟨w.heap.size + 1, 3, none⟩ (.bool false)).setCell ⟨w.heap.size + 1, 4, none⟩ (.slice none 0 0)).setCell ⟨w.heap.size + 1, 5, none⟩ (.bool false)).setCell ⟨w.heap.size + 1, 6, none⟩ (.slice none 0 0)).setCell ⟨w.heap.size + 1, 7, none⟩ (.slice none 0 0)).setCell ⟨w.heap.size + 1, 8, none⟩ (.slice none 0 0) = wz
    obtain ⟨e7, k7, s7⟩ := rbox_set9 w1 _ _ _ _ _ _ _ _ _ _ _ _ _ _ _ _ _ _ _ _ (HR1.out) wz hz9.symm
    have d0 := cell_of_row _ _ 0 _ _ _ e7
    have d1 := cell_of_row _ _ 1 _ _ _ e7
    have d2 := cell_of_row _ _ 2 _ _ _ e7
    have d3 := cell_of_row _ _ 3 _ _ _ e7
    have d4 := cell_of_row _ _ 4 _ _ _ e7
    have d5 := cell_of_row _ _ 5 _ _ _ e7
    have d6 := cell_of_row _ _ 6 _ _ _ e7
    have d7 := cell_of_row _ _ 7 _ _ _ e7
    have d8 := cell_of_row _ _ 8 _ _ _ e7
    have hbz : Below w.heap.size w wz := by rw [← hz9]; exact (((((((((HB1.out.setCell (p := ⟨w.heap.size + 1, 0, none⟩) (by show w.heap.size ≤ w.heap.size + 1; omega) _).setCell (p := ⟨w.heap.size + 1, 1, none⟩) (by show w.heap.size ≤ w.heap.size + 1; omega) _).setCell (p := ⟨w.heap.size + 1, 2, none⟩) (by show w.heap.size ≤ w.heap.size + 1; omega) _).setCell (p := ⟨w.heap.size + 1, 3, none⟩) (by show w.heap.size ≤ w.heap.size + 1; omega) _).setCell (p := ⟨w.heap.size + 1, 4, none⟩) (by show w.heap.size ≤ w.heap.size + 1; omega) _).setCell (p := ⟨w.heap.size + 1, 5, none⟩) (by show w.heap.size ≤ w.heap.size + 1; omega) _).setCell (p := ⟨w.heap.size + 1, 6, none⟩) (by show w.heap.size ≤ w.heap.size + 1; omega) _).setCell (p := ⟨w.heap.size + 1, 7, none⟩) (by show w.heap.size ≤ w.heap.size + 1; omega) _).setCell (p := ⟨w.heap.size + 1, 8, none⟩) (by show w.heap.size ≤ w.heap.size + 1; omega) _)
    refine bodyPost_ret (v := .agg #[.bool true, .bool false, .bool false, .bool false, .slice none 0 0, .bool false, .slice none 0 0, .slice none 0 0, .slice none 0 0]) (by simp [results, Tryz.results5, go_sem, d0, d1, d2, d3, d4, d5, d6, d7, d8]) rfl ?_
    exact ⟨⟨_, rfl, by rw [HT.out]; exact Hid.mk (inT_evr wz 1)⟩, hbz⟩
  | false =>
    have HT : Hid (WT = widL a0 a1 a2 a3 a4 a5 a6) := HW2.out
    clear HW2
    go_enter Tryz.func5, Tryz.ntmps5
    go_wp2_with fail
    refine (C0.out _ p0).mono ?_
    rintro e w1 ⟨rfl, hq⟩
    have HB1 := Hid.mk (HB0.out.trans (hq.mono HB0.out.size))
    have HR1 : Hid (w1.heap[w.heap.size + 1]? = some (.cells #[.bool false, .bool false, .bool false, .bool false, .slice none 0 0, .bool false, .slice none 0 0, .slice none 0 0, .slice none 0 0] 27 (0, 0))) := (hq.block _ (lt_of_row HR0.out)).trans HR0.out
    have HK1 : Hid (w1.heap[w.heap.size]? = some (.cells #[.int .u8 n] 5 (0, 0))) := (hq.block _ (lt_of_row HK0.out)).trans HK0.out
    clear hq p0 hW0
    have p0 := cell_of_row _ _ 0 _ _ _ HK1.out
    go_wp2_with fail
    refine (C1.out _ p0).mono ?_
    rintro e w2 ⟨rfl, hq⟩
    have HB2 := Hid.mk (HB1.out.trans (hq.mono HB1.out.size))
    have HR2 : Hid (w2.heap[w.heap.size + 1]? = some (.cells #[.bool false, .bool false, .bool false, .bool false, .slice none 0 0, .bool false, .slice none 0 0, .slice none 0 0, .slice none 0 0] 27 (0, 0))) := (hq.block _ (lt_of_row HR1.out)).trans HR1.out
    have HK2 : Hid (w2.heap[w.heap.size]? = some (.cells #[.int .u8 n] 5 (0, 0))) := (hq.block _ (lt_of_row HK1.out)).trans HK1.out
    clear hq p0 
    have p0 := cell_of_row _ _ 0 _ _ _ HK2.out
    go_wp2_with fail
    refine (C2.out _ p0).mono ?_
    rintro e w3 ⟨rfl, hq⟩
    have HB3 := Hid.mk (HB2.out.trans (hq.mono HB2.out.size))
    have HR3 : Hid (w3.heap[w.heap.size + 1]? = some (.cells #[.bool false, .bool false, .bool false, .bool false, .slice none 0 0, .bool false, .slice none 0 0, .slice none 0 0, .slice none 0 0] 27 (0, 0))) := (hq.block _ (lt_of_row HR2.out)).trans HR2.out
    have HK3 : Hid (w3.heap[w.heap.size]? = some (.cells #[.int .u8 n] 5 (0, 0))) := (hq.block _ (lt_of_row HK2.out)).trans HK2.out
    clear hq p0 
    have p0 := cell_of_row _ _ 0 _ _ _ HK3.out
    go_wp2_with fail
    refine (C4.out _ p0).mono ?_
    rintro e w4 ⟨rfl, hq⟩
    have HB4 := Hid.mk (HB3.out.trans (hq.mono HB3.out.size))
    have HR4 : Hid (w4.heap[w.heap.size + 1]? = some (.cells #[.bool false, .bool false, .bool false, .bool false, .slice none 0 0, .bool false, .slice none 0 0, .slice none 0 0, .slice none 0 0] 27 (0, 0))) := (hq.block _ (lt_of_row HR3.out)).trans HR3.out
    have HK4 : Hid (w4.heap[w.heap.size]? = some (.cells #[.int .u8 n] 5 (0, 0))) := (hq.block _ (lt_of_row HK3.out)).trans HK3.out
    clear hq p0
    obtain ⟨W5, hW5⟩ : ∃ W5, w4.alloc (.cells #[.bool false, .bool a0, .bool a1, .bool a2, .slice none 0 0, .bool a4, .slice none 0 0, .slice none 0 0, .slice none 0 0] 27) = W5 := ⟨_, rfl⟩
    obtain ⟨B, hB⟩ : ∃ B, w4.heap.size = B := ⟨_, rfl⟩
    have HK : Hid (OKx w W5 w.heap.size #[.int .u8 n] 5 (w.heap.size + 1) B #[.bool false, .bool a0, .bool a1, .bool a2, .slice none 0 0, .bool a4, .slice none 0 0, .slice none 0 0, .slice none 0 0]) := by
      have hl1 := lt_of_row HK4.out
      have hl2 := lt_of_row HR4.out
      rw [← hW5, ← hB]
      exact ⟨HB4.out.trans ((below1 w4 _).mono HB4.out.size), (Below.heap_alloc _ _ _ hl1).trans HK4.out, (Below.heap_alloc _ _ _ hl2).trans HR4.out, World.alloc_heap_new w4 _, by omega, by omega, HB4.out.size, by omega⟩
    have p0 := cell_of_row _ _ 0 _ _ _ HK.out.kin
    have HWq := Hid.mk hW5
    have HBq := Hid.mk hB
    clear hW5 hB
    go_wp2_with fail
    try rw [HWq.out]
    try rw [HBq.out]
    clear HWq HBq
    refine (C3.out _ p0).mono ?_
    rintro e u3 ⟨rfl, hq⟩
    have HKn := Hid.mk (HK.out.keep hq)
    clear hq p0 HK
    go_upto_if 20 with fail
    go_cut [4] from 5 (fun sp wx => sp = .pointer (some ⟨B, 0, none⟩) ∧ ∃ (no : Option Addr) (nN nc : Nat), Hid (OKx w wx w.heap.size #[.int .u8 n] 5 (w.heap.size + 1) B #[.bool false, .bool a0, .bool a1, .bool a2, .slice no nN nc, .bool a4, .slice none 0 0, .slice none 0 0, .slice none 0 0]) ∧ Hid (WRow wx (w.heap.size + 1) B a3 no nN nc #[.string ⟨#[]⟩, .string ⟨#[]⟩] 47))
    case first =>
      cases a3 with
      | false =>
        go_wp2_with fail
        go_meet
        exact ⟨rfl, none, 0, 0, HKn, ⟨fun h => (by cases h), fun _ => ⟨rfl, rfl, rfl⟩⟩⟩
      | true =>
        obtain ⟨Wb, hWb⟩ : ∃ Wb, u3.alloc (.cells #[.string ⟨#[]⟩, .string ⟨#[]⟩] 47) = Wb := ⟨_, rfl⟩
        have HKb : Hid (OKx w Wb w.heap.size #[.int .u8 n] 5 (w.heap.size + 1) B #[.bool false, .bool a0, .bool a1, .bool a2, .slice none 0 0, .bool a4, .slice none 0 0, .slice none 0 0, .slice none 0 0]) := by show OKx _ _ _ _ _ _ _ _; rw [← hWb]; exact HKn.out.keep (below1 u3 _)
        have g := cell_of_row _ _ 4 _ _ _ HKb.out.out
        have fz := frozen_row9 (j := 4) HKb.out.out
        have hnb : Hid (u3.heap.size ≠ (w.heap.size + 1) ∧ u3.heap.size ≠ B) := ⟨by have := lt_of_row HKn.out.res; omega, by have := lt_of_row HKn.out.out; omega⟩
        have hrb : Hid (Wb.heap[u3.heap.size]? = some (.cells #[.string ⟨#[]⟩, .string ⟨#[]⟩] 47 (0, 0))) := by show _ = _; rw [← hWb]; exact World.alloc_heap_new u3 _
        go_wp2_with fail
        go_meet
        exact ⟨rfl, some ⟨u3.heap.size, 0, none⟩, 1, 1, Hid.mk (HKb.out.set 4 _), ⟨fun _ => ⟨u3.heap.size, rfl, rfl, rfl, hnb.out.1, hnb.out.2, (Below.heap_setCell _ _ _ _ hnb.out.2).trans hrb.out⟩, fun h => by cases h⟩⟩
    case rest =>
      obtain ⟨rfl, no, nN, nc, HKm, H3⟩ := hcut
      clear HKn
      have p0 := cell_of_row _ _ 0 _ _ _ HKm.out.kin
      go_wp2_with fail
      refine (C5.out _ p0).mono ?_
      rintro e u5 ⟨rfl, hq⟩
      have HKn := Hid.mk (HKm.out.keep hq)
      replace H3 := Hid.mk (H3.out.keep (fun b _ _ hl => hq.block b hl))
      clear hq p0 HKm
      go_upto_if 25 with fail
      go_cut [4] from 5 (fun sp wx => sp = .pointer (some ⟨B, 0, none⟩) ∧ ∃ (ao : Option Addr) (aN ac : Nat), Hid (OKx w wx w.heap.size #[.int .u8 n] 5 (w.heap.size + 1) B #[.bool false, .bool a0, .bool a1, .bool a2, .slice no nN nc, .bool a4, .slice none 0 0, .slice ao aN ac, .slice none 0 0]) ∧ Hid (WRow wx (w.heap.size + 1) B a3 no nN nc #[.string ⟨#[]⟩, .string ⟨#[]⟩] 47) ∧ Hid (WRow wx (w.heap.size + 1) B a5 ao aN ac #[.bool true, .bool false, .bool false, .bool false, .slice none 0 0, .bool false, .slice none 0 0, .slice none 0 0, .slice none 0 0, .int .i64 0, .int .i64 (-1)] 51))
      case first =>
        cases a5 with
        | false =>
          go_wp2_with fail
          go_meet
          exact ⟨rfl, none, 0, 0, HKn, H3, ⟨fun h => (by cases h), fun _ => ⟨rfl, rfl, rfl⟩⟩⟩
        | true =>
          go_wp2_with fail
          refine (w_sfEvery _).mono ?_
          rintro e v5 ⟨rfl, hq⟩
          have HKv := Hid.mk (HKn.out.keep hq)
          replace H3 := Hid.mk (H3.out.keep (fun b _ _ hl => hq.block b hl))
          clear hq
          obtain ⟨Wb, hWb⟩ : ∃ Wb, v5.alloc (.cells #[.bool true, .bool false, .bool false, .bool false, .slice none 0 0, .bool false, .slice none 0 0, .slice none 0 0, .slice none 0 0, .int .i64 0, .int .i64 (-1)] 51) = Wb := ⟨_, rfl⟩
          have HKb : Hid (OKx w Wb w.heap.size #[.int .u8 n] 5 (w.heap.size + 1) B #[.bool false, .bool a0, .bool a1, .bool a2, .slice no nN nc, .bool a4, .slice none 0 0, .slice none 0 0, .slice none 0 0]) := by show OKx _ _ _ _ _ _ _ _; rw [← hWb]; exact HKv.out.keep (below1 v5 _)
          have g := cell_of_row _ _ 7 _ _ _ HKb.out.out
          have fz := frozen_row9 (j := 7) HKb.out.out
          have hnb : Hid (v5.heap.size ≠ (w.heap.size + 1) ∧ v5.heap.size ≠ B) := ⟨by have := lt_of_row HKv.out.res; omega, by have := lt_of_row HKv.out.out; omega⟩
          have hrb : Hid (Wb.heap[v5.heap.size]? = some (.cells #[.bool true, .bool false, .bool false, .bool false, .slice none 0 0, .bool false, .slice none 0 0, .slice none 0 0, .slice none 0 0, .int .i64 0, .int .i64 (-1)] 51 (0, 0))) := by show _ = _; rw [← hWb]; exact World.alloc_heap_new v5 _
          go_wp2_with fail
          go_meet
          exact ⟨rfl, some ⟨v5.heap.size, 0, none⟩, 1, 1, Hid.mk (HKb.out.set 7 _), Hid.mk (H3.out.keep (fun b _ hb2 hl => (Below.heap_setCell _ _ _ _ hb2).trans (by rw [← hWb]; exact Below.heap_alloc _ _ _ hl))), ⟨fun _ => ⟨v5.heap.size, rfl, rfl, rfl, hnb.out.1, hnb.out.2, (Below.heap_setCell _ _ _ _ hnb.out.2).trans hrb.out⟩, fun h => by cases h⟩⟩
      case rest =>
        obtain ⟨rfl, ao, aN, ac, HKm, H3, H5⟩ := hcut
        clear HKn
        have p0 := cell_of_row _ _ 0 _ _ _ HKm.out.kin
        go_wp2_with fail
        refine (C6.out _ p0).mono ?_
        rintro e u6 ⟨rfl, hq⟩
        have HKn := Hid.mk (HKm.out.keep hq)
        replace H3 := Hid.mk (H3.out.keep (fun b _ _ hl => hq.block b hl))
        replace H5 := Hid.mk (H5.out.keep (fun b _ _ hl => hq.block b hl))
        clear hq p0 HKm
        go_upto_if 31 with fail
        go_cut [4] from 5 (fun sp wx => sp = .pointer (some ⟨B, 0, none⟩) ∧ ∃ (oo : Option Addr) (oN oc : Nat), Hid (OKx w wx w.heap.size #[.int .u8 n] 5 (w.heap.size + 1) B #[.bool false, .bool a0, .bool a1, .bool a2, .slice no nN nc, .bool a4, .slice none 0 0, .slice ao aN ac, .slice oo oN oc]) ∧ Hid (WRow wx (w.heap.size + 1) B a3 no nN nc #[.string ⟨#[]⟩, .string ⟨#[]⟩] 47) ∧ Hid (WRow wx (w.heap.size + 1) B a5 ao aN ac #[.bool true, .bool false, .bool false, .bool false, .slice none 0 0, .bool false, .slice none 0 0, .slice none 0 0, .slice none 0 0, .int .i64 0, .int .i64 (-1)] 51) ∧ Hid (WRow wx (w.heap.size + 1) B a6 oo oN oc #[.slice none 0 0, .slice none 0 0, .slice none 0 0, .bool true, .bool false, .bool false, .bool false, .slice none 0 0, .bool false, .slice none 0 0, .slice none 0 0, .slice none 0 0] 55))
        case first =>
          cases a6 with
          | false =>
            go_wp2_with fail
            go_meet
            exact ⟨rfl, none, 0, 0, HKn, H3, H5, ⟨fun h => (by cases h), fun _ => ⟨rfl, rfl, rfl⟩⟩⟩
          | true =>
            go_wp2_with fail
            refine (w_sfEvery _).mono ?_
            rintro e v6 ⟨rfl, hq⟩
            have HKv := Hid.mk (HKn.out.keep hq)
            replace H3 := Hid.mk (H3.out.keep (fun b _ _ hl => hq.block b hl))
            replace H5 := Hid.mk (H5.out.keep (fun b _ _ hl => hq.block b hl))
            clear hq
            obtain ⟨Wb, hWb⟩ : ∃ Wb, v6.alloc (.cells #[.slice none 0 0, .slice none 0 0, .slice none 0 0, .bool true, .bool false, .bool false, .bool false, .slice none 0 0, .bool false, .slice none 0 0, .slice none 0 0, .slice none 0 0] 55) = Wb := ⟨_, rfl⟩
            have HKb : Hid (OKx w Wb w.heap.size #[.int .u8 n] 5 (w.heap.size + 1) B #[.bool false, .bool a0, .bool a1, .bool a2, .slice no nN nc, .bool a4, .slice none 0 0, .slice ao aN ac, .slice none 0 0]) := by show OKx _ _ _ _ _ _ _ _; rw [← hWb]; exact HKv.out.keep (below1 v6 _)
            have g := cell_of_row _ _ 8 _ _ _ HKb.out.out
            have fz := frozen_row9 (j := 8) HKb.out.out
            have hnb : Hid (v6.heap.size ≠ (w.heap.size + 1) ∧ v6.heap.size ≠ B) := ⟨by have := lt_of_row HKv.out.res; omega, by have := lt_of_row HKv.out.out; omega⟩
            have hrb : Hid (Wb.heap[v6.heap.size]? = some (.cells #[.slice none 0 0, .slice none 0 0, .slice none 0 0, .bool true, .bool false, .bool false, .bool false, .slice none 0 0, .bool false, .slice none 0 0, .slice none 0 0, .slice none 0 0] 55 (0, 0))) := by show _ = _; rw [← hWb]; exact World.alloc_heap_new v6 _
            go_wp2_with fail
            go_meet
            exact ⟨rfl, some ⟨v6.heap.size, 0, none⟩, 1, 1, Hid.mk (HKb.out.set 8 _), Hid.mk (H3.out.keep (fun b _ hb2 hl => (Below.heap_setCell _ _ _ _ hb2).trans (by rw [← hWb]; exact Below.heap_alloc _ _ _ hl))), Hid.mk (H5.out.keep (fun b _ hb2 hl => (Below.heap_setCell _ _ _ _ hb2).trans (by rw [← hWb]; exact Below.heap_alloc _ _ _ hl))), ⟨fun _ => ⟨v6.heap.size, rfl, rfl, rfl, hnb.out.1, hnb.out.2, (Below.heap_setCell _ _ _ _ hnb.out.2).trans hrb.out⟩, fun h => by cases h⟩⟩
        case rest =>
          obtain ⟨rfl, oo, oN, oc, HKm, H3, H5, H6⟩ := hcut
          clear HKn
          have o0 := cell_of_row _ _ 0 _ _ _ HKm.out.out
          have o1 := cell_of_row _ _ 1 _ _ _ HKm.out.out
          have o2 := cell_of_row _ _ 2 _ _ _ HKm.out.out
          have o3 := cell_of_row _ _ 3 _ _ _ HKm.out.out
          have o4 := cell_of_row _ _ 4 _ _ _ HKm.out.out
          have o5 := cell_of_row _ _ 5 _ _ _ HKm.out.out
          have o6 := cell_of_row _ _ 6 _ _ _ HKm.out.out
          have o7 := cell_of_row _ _ 7 _ _ _ HKm.out.out
          have o8 := cell_of_row _ _ 8 _ _ _ HKm.out.out
          have g0 := cell_of_row _ _ 0 _ _ _ HKm.out.res
          have f0 := frozen_row9 (j := 0) HKm.out.res
          have g1 := cell_of_row _ _ 1 _ _ _ HKm.out.res
          have f1 := frozen_row9 (j := 1) HKm.out.res
          have g2 := cell_of_row _ _ 2 _ _ _ HKm.out.res
          have f2 := frozen_row9 (j := 2) HKm.out.res
          have g3 := cell_of_row _ _ 3 _ _ _ HKm.out.res
          have f3 := frozen_row9 (j := 3) HKm.out.res
          have g4 := cell_of_row _ _ 4 _ _ _ HKm.out.res
          have f4 := frozen_row9 (j := 4) HKm.out.res
          have g5 := cell_of_row _ _ 5 _ _ _ HKm.out.res
          have f5 := frozen_row9 (j := 5) HKm.out.res
          have g6 := cell_of_row _ _ 6 _ _ _ HKm.out.res
          have f6 := frozen_row9 (j := 6) HKm.out.res
          have g7 := cell_of_row _ _ 7 _ _ _ HKm.out.res
          have f7 := frozen_row9 (j := 7) HKm.out.res
          have g8 := cell_of_row _ _ 8 _ _ _ HKm.out.res
          have f8 := frozen_row9 (j := 8) HKm.out.res
          go_wp2_with fail
          (try simp only [Exit.inBlock, Exit.then])
          generalize hz9 : ((((((((wc.setCell ⟨w.heap.size + 1, 0, none⟩ (.bool false)).setCell ⟨w.heap.size + 1, 1, none⟩ (.bool a0)).setCell ⟨w.heap.size + 1, 2, none⟩ (.bool a1)).setCell ⟨w.heap.size + 1, 3, none⟩ (.bool a2)).setCell ⟨w.heap.size + 1, 4, none⟩ (.slice no nN nc)).setCell ⟨w.heap.size + 1, 5, none⟩ (.bool a4)).setCell ⟨w.heap.size + 1, 6, none⟩ (.slice none 0 0)).setCell ⟨w.heap.size + 1, 7, none⟩ (.slice ao aN ac)).setCell ⟨w.heap.size + 1, 8, none⟩ (.slice oo oN oc) = wz
          obtain ⟨e7, k7, s7⟩ := rbox_set9 wc _ _ _ _ _ _ _ _ _ _ _ _ _ _ _ _ _ _ _ _ (HKm.out.res) wz hz9.symm
          have d0 := cell_of_row _ _ 0 _ _ _ e7
          have d1 := cell_of_row _ _ 1 _ _ _ e7
          have d2 := cell_of_row _ _ 2 _ _ _ e7
          have d3 := cell_of_row _ _ 3 _ _ _ e7
          have d4 := cell_of_row _ _ 4 _ _ _ e7
          have d5 := cell_of_row _ _ 5 _ _ _ e7
          have d6 := cell_of_row _ _ 6 _ _ _ e7
          have d7 := cell_of_row _ _ 7 _ _ _ e7
          have d8 := cell_of_row _ _ 8 _ _ _ e7
          have hbz : Below w.heap.size w wz := by rw [← hz9]; exact (((((((((HKm.out.below.setCell (p := ⟨w.heap.size + 1, 0, none⟩) (by show w.heap.size ≤ w.heap.size + 1; omega) _).setCell (p := ⟨w.heap.size + 1, 1, none⟩) (by show w.heap.size ≤ w.heap.size + 1; omega) _).setCell (p := ⟨w.heap.size + 1, 2, none⟩) (by show w.heap.size ≤ w.heap.size + 1; omega) _).setCell (p := ⟨w.heap.size + 1, 3, none⟩) (by show w.heap.size ≤ w.heap.size + 1; omega) _).setCell (p := ⟨w.heap.size + 1, 4, none⟩) (by show w.heap.size ≤ w.heap.size + 1; omega) _).setCell (p := ⟨w.heap.size + 1, 5, none⟩) (by show w.heap.size ≤ w.heap.size + 1; omega) _).setCell (p := ⟨w.heap.size + 1, 6, none⟩) (by show w.heap.size ≤ w.heap.size + 1; omega) _).setCell (p := ⟨w.heap.size + 1, 7, none⟩) (by show w.heap.size ≤ w.heap.size + 1; omega) _).setCell (p := ⟨w.heap.size + 1, 8, none⟩) (by show w.heap.size ≤ w.heap.size + 1; omega) _)
          refine bodyPost_ret (v := .agg #[.bool false, .bool a0, .bool a1, .bool a2, .slice no nN nc, .bool a4, .slice none 0 0, .slice ao aN ac, .slice oo oN oc]) (by simp [results, Tryz.results5, go_sem, d0, d1, d2, d3, d4, d5, d6, d7, d8]) rfl ?_
          exact ⟨⟨_, rfl, by rw [HT.out]; exact Hid.mk (wid_in (H3.out.keep (fun b hb _ _ => k7 b hb)) (H5.out.keep (fun b hb _ _ => k7 b hb)) (H6.out.keep (fun b hb _ _ => k7 b hb)))⟩, hbz⟩
end Go.Proofs.YtkaaleeldpghoaaGreat
