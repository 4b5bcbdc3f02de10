import Derived.Test.YtkaaleeldpghoaaGreatZSK4
import Derived.Deep.Cut
namespace Go.Proofs.YtkaaleeldpghoaaGreat
open Go.RowKit Go.Shelf Go.Sort
set_option linter.unusedVariables false
set_option linter.unusedSimpArgs false
attribute [local go_sem] Oper.semAt_some

set_option maxRecDepth 100000 in
set_option maxHeartbeats 12800000 in
theorem w_rOfKinds (n : Int) (hn : 0 ≤ n ∧ n < 256) (w : World) : Calls Tryz.prog 7 #[.int .i64 n] w fun e w' => (∃ v, e = .returned v ∧ Hid (InT w' 2 (widT n) v)) ∧ Below w.heap.size w w' := by
  have hall := all_kbi64 hn
  have q0 := and64_kb0 hn
  have r0 : (bits .and .i64 (bits .and .i64 n 127) 1 != 0) = kb n 0 := by show (!(bits .and .i64 (bits .and .i64 n 127) 1 == 0)) = _; rw [q0]; cases kb n 0 <;> rfl
  have q1 := and64_kb1 hn
  have r1 : (bits .and .i64 (bits .and .i64 n 127) 2 != 0) = kb n 1 := by show (!(bits .and .i64 (bits .and .i64 n 127) 2 == 0)) = _; rw [q1]; cases kb n 1 <;> rfl
  have q2 := and64_kb2 hn
  have r2 : (bits .and .i64 (bits .and .i64 n 127) 4 != 0) = kb n 2 := by show (!(bits .and .i64 (bits .and .i64 n 127) 4 == 0)) = _; rw [q2]; cases kb n 2 <;> rfl
  have q3 := and64_kb3 hn
  have r3 : (bits .and .i64 (bits .and .i64 n 127) 8 != 0) = kb n 3 := by show (!(bits .and .i64 (bits .and .i64 n 127) 8 == 0)) = _; rw [q3]; cases kb n 3 <;> rfl
  have q4 := and64_kb4 hn
  have r4 : (bits .and .i64 (bits .and .i64 n 127) 16 != 0) = kb n 4 := by show (!(bits .and .i64 (bits .and .i64 n 127) 16 == 0)) = _; rw [q4]; cases kb n 4 <;> rfl
  have q5 := and64_kb5 hn
  have r5 : (bits .and .i64 (bits .and .i64 n 127) 32 != 0) = kb n 5 := by show (!(bits .and .i64 (bits .and .i64 n 127) 32 == 0)) = _; rw [q5]; cases kb n 5 <;> rfl
  have q6 := and64_kb6 hn
  have r6 : (bits .and .i64 (bits .and .i64 n 127) 64 != 0) = kb n 6 := by show (!(bits .and .i64 (bits .and .i64 n 127) 64 == 0)) = _; rw [q6]; cases kb n 6 <;> rfl
  have HWT : Hid (widT n = widB (kb n 0) (kb n 1) (kb n 2) (kb n 3) (kb n 4) (kb n 5) (kb n 6)) := rfl
  obtain ⟨WT, hWT⟩ : ∃ WT, widT n = WT := ⟨_, rfl⟩
  rw [hWT] at HWT ⊢
  clear hWT
  generalize kb n 0 = a0 at hall HWT q0 r0
  generalize kb n 1 = a1 at hall HWT q1 r1
  generalize kb n 2 = a2 at hall HWT q2 r2
  generalize kb n 3 = a3 at hall HWT q3 r3
  generalize kb n 4 = a4 at hall HWT q4 r4
  generalize kb n 5 = a5 at hall HWT q5 r5
  generalize kb n 6 = a6 at hall HWT q6 r6
  clear q0 q1 q2 q3 q4 q5 q6
  obtain ⟨W0, hW0⟩ : ∃ W0, w.alloc (.cells #[.bool false, .bool false, .bool false, .bool false, .slice none 0 0, .bool false, .slice none 0 0, .slice none 0 0, .slice none 0 0] 27) = W0 := ⟨_, rfl⟩
  have HB0 : Hid (Below w.heap.size w W0) := by rw [← hW0]; exact (Below.refl _ w).alloc (Nat.le_refl _) _
  have HR0 : Hid (W0.heap[w.heap.size]? = some (.cells #[.bool false, .bool false, .bool false, .bool false, .slice none 0 0, .bool false, .slice none 0 0, .slice none 0 0, .slice none 0 0] 27 (0, 0))) := by show _ = _; rw [← hW0]; exact World.alloc_heap_new w _
  obtain ⟨A, hA⟩ : ∃ A, all7 a0 a1 a2 a3 a4 a5 a6 = A := ⟨_, rfl⟩
  rw [hA] at hall
  have HW2 : Hid (WT = if A then ttEv else widL a0 a1 a2 a3 a4 a5 a6) := by show _ = _; rw [HWT.out, ← hA]; rfl
  clear HWT hA
  cases A with
  | true =>
    have HT : Hid (WT = ttEv) := HW2.out
    clear HW2
    go_enter Tryz.func7, Tryz.ntmps7
    skip
    have g0 := cell_of_row _ _ 0 _ _ _ HR0.out
    have f0 := frozen_row9 (j := 0) HR0.out
    have g1 := cell_of_row _ _ 1 _ _ _ HR0.out
    have f1 := frozen_row9 (j := 1) HR0.out
    have g2 := cell_of_row _ _ 2 _ _ _ HR0.out
    have f2 := frozen_row9 (j := 2) HR0.out
    have g3 := cell_of_row _ _ 3 _ _ _ HR0.out
    have f3 := frozen_row9 (j := 3) HR0.out
    have g4 := cell_of_row _ _ 4 _ _ _ HR0.out
    have f4 := frozen_row9 (j := 4) HR0.out
    have g5 := cell_of_row _ _ 5 _ _ _ HR0.out
    have f5 := frozen_row9 (j := 5) HR0.out
    have g6 := cell_of_row _ _ 6 _ _ _ HR0.out
    have f6 := frozen_row9 (j := 6) HR0.out
    have g7 := cell_of_row _ _ 7 _ _ _ HR0.out
    have f7 := frozen_row9 (j := 7) HR0.out
    have g8 := cell_of_row _ _ 8 _ _ _ HR0.out
    have f8 := frozen_row9 (j := 8) HR0.out
    go_wp2_with fail
    (try simp only [Exit.inBlock, Exit.then])
    generalize hz9 : ((((((((W0.setCell ⟨w.heap.size, 0, none⟩ (.bool true)).setCell ⟨w.heap.size, 1, none⟩ (.bool false)).setCell ⟨w.heap.size, 2, none⟩ (.bool false)).setCell ⟨w.heap.size, 3, none⟩ (.bool false)).setCell ⟨w.heap.size, 4, none⟩ (.slice none 0 0)).setCell ⟨w.heap.size, 5, none⟩ (.bool false)).setCell ⟨w.heap.size, 6, none⟩ (.slice none 0 0)).setCell ⟨w.heap.size, 7, none⟩ (.slice none 0 0)).setCell ⟨w.heap.size, 8, none⟩ (.slice none 0 0) = wz
    obtain ⟨e7, k7, s7⟩ := rbox_set9 W0 _ _ _ _ _ _ _ _ _ _ _ _ _ _ _ _ _ _ _ _ (HR0.out) wz hz9.symm
    have d0 := cell_of_row _ _ 0 _ _ _ e7
    have d1 := cell_of_row _ _ 1 _ _ _ e7
    have d2 := cell_of_row _ _ 2 _ _ _ e7
    have d3 := cell_of_row _ _ 3 _ _ _ e7
    have d4 := cell_of_row _ _ 4 _ _ _ e7
    have d5 := cell_of_row _ _ 5 _ _ _ e7
    have d6 := cell_of_row _ _ 6 _ _ _ e7
    have d7 := cell_of_row _ _ 7 _ _ _ e7
    have d8 := cell_of_row _ _ 8 _ _ _ e7
    have hbz : Below w.heap.size w wz := by rw [← hz9]; exact (((((((((HB0.out.setCell (p := ⟨w.heap.size, 0, none⟩) (by show w.heap.size ≤ w.heap.size; omega) _).setCell (p := ⟨w.heap.size, 1, none⟩) (by show w.heap.size ≤ w.heap.size; omega) _).setCell (p := ⟨w.heap.size, 2, none⟩) (by show w.heap.size ≤ w.heap.size; omega) _).setCell (p := ⟨w.heap.size, 3, none⟩) (by show w.heap.size ≤ w.heap.size; omega) _).setCell (p := ⟨w.heap.size, 4, none⟩) (by show w.heap.size ≤ w.heap.size; omega) _).setCell (p := ⟨w.heap.size, 5, none⟩) (by show w.heap.size ≤ w.heap.size; omega) _).setCell (p := ⟨w.heap.size, 6, none⟩) (by show w.heap.size ≤ w.heap.size; omega) _).setCell (p := ⟨w.heap.size, 7, none⟩) (by show w.heap.size ≤ w.heap.size; omega) _).setCell (p := ⟨w.heap.size, 8, none⟩) (by show w.heap.size ≤ w.heap.size; omega) _)
    refine bodyPost_ret (v := .agg #[.bool true, .bool false, .bool false, .bool false, .slice none 0 0, .bool false, .slice none 0 0, .slice none 0 0, .slice none 0 0]) (by simp [results, Tryz.results7, go_sem, d0, d1, d2, d3, d4, d5, d6, d7, d8]) rfl ?_
    exact ⟨⟨_, rfl, by rw [HT.out]; exact Hid.mk (inT_evr wz 1)⟩, hbz⟩
  | false =>
    have HT : Hid (WT = widL a0 a1 a2 a3 a4 a5 a6) := HW2.out
    clear HW2
    go_enter Tryz.func7, Tryz.ntmps7
    obtain ⟨W5, hW5⟩ : ∃ W5, W0.alloc (.cells #[.bool false, .bool a0, .bool a1, .bool a2, .slice none 0 0, .bool a4, .slice none 0 0, .slice none 0 0, .slice none 0 0] 27) = W5 := ⟨_, rfl⟩
    obtain ⟨B, hB⟩ : ∃ B, W0.heap.size = B := ⟨_, rfl⟩
    have HK : Hid (OKx w W5 w.heap.size #[.bool false, .bool false, .bool false, .bool false, .slice none 0 0, .bool false, .slice none 0 0, .slice none 0 0, .slice none 0 0] 27 w.heap.size B #[.bool false, .bool a0, .bool a1, .bool a2, .slice none 0 0, .bool a4, .slice none 0 0, .slice none 0 0, .slice none 0 0]) := by
      have hl2 := lt_of_row HR0.out
      rw [← hW5, ← hB]
      exact ⟨HB0.out.trans ((below1 W0 _).mono HB0.out.size), (Below.heap_alloc _ _ _ hl2).trans HR0.out, (Below.heap_alloc _ _ _ hl2).trans HR0.out, World.alloc_heap_new W0 _, by omega, by omega, HB0.out.size, Nat.le_refl _⟩
    have HWq := Hid.mk hW5
    have HBq := Hid.mk hB
    clear hW5 hB
    have HKn := HK
    clear HK
    go_upto_if 24 with fail
    try rw [HWq.out]
    try rw [HBq.out]
    clear HWq HBq
    go_cut [3] from 4 (fun sp wx => sp = .pointer (some ⟨B, 0, none⟩) ∧ ∃ (no : Option Addr) (nN nc : Nat), Hid (OKx w wx w.heap.size #[.bool false, .bool false, .bool false, .bool false, .slice none 0 0, .bool false, .slice none 0 0, .slice none 0 0, .slice none 0 0] 27 w.heap.size B #[.bool false, .bool a0, .bool a1, .bool a2, .slice no nN nc, .bool a4, .slice none 0 0, .slice none 0 0, .slice none 0 0]) ∧ Hid (WRow wx w.heap.size B a3 no nN nc #[.string ⟨#[]⟩, .string ⟨#[]⟩] 47))
    case first =>
      cases a3 with
      | false =>
        go_wp2_with fail
        go_meet
        exact ⟨rfl, none, 0, 0, HKn, ⟨fun h => (by cases h), fun _ => ⟨rfl, rfl, rfl⟩⟩⟩
      | true =>
        obtain ⟨Wb, hWb⟩ : ∃ Wb, W5.alloc (.cells #[.string ⟨#[]⟩, .string ⟨#[]⟩] 47) = Wb := ⟨_, rfl⟩
        have HKb : Hid (OKx w Wb w.heap.size #[.bool false, .bool false, .bool false, .bool false, .slice none 0 0, .bool false, .slice none 0 0, .slice none 0 0, .slice none 0 0] 27 w.heap.size B #[.bool false, .bool a0, .bool a1, .bool a2, .slice none 0 0, .bool a4, .slice none 0 0, .slice none 0 0, .slice none 0 0]) := by show OKx _ _ _ _ _ _ _ _; rw [← hWb]; exact HKn.out.keep (below1 W5 _)
        have g := cell_of_row _ _ 4 _ _ _ HKb.out.out
        have fz := frozen_row9 (j := 4) HKb.out.out
        have hnb : Hid (W5.heap.size ≠ w.heap.size ∧ W5.heap.size ≠ B) := ⟨by have := lt_of_row HKn.out.res; omega, by have := lt_of_row HKn.out.out; omega⟩
        have hrb : Hid (Wb.heap[W5.heap.size]? = some (.cells #[.string ⟨#[]⟩, .string ⟨#[]⟩] 47 (0, 0))) := by show _ = _; rw [← hWb]; exact World.alloc_heap_new W5 _
        go_wp2_with fail
        go_meet
        exact ⟨rfl, some ⟨W5.heap.size, 0, none⟩, 1, 1, Hid.mk (HKb.out.set 4 _), ⟨fun _ => ⟨W5.heap.size, rfl, rfl, rfl, hnb.out.1, hnb.out.2, (Below.heap_setCell _ _ _ _ hnb.out.2).trans hrb.out⟩, fun h => by cases h⟩⟩
    case rest =>
      obtain ⟨rfl, no, nN, nc, HKm, H3⟩ := hcut
      clear HKn
      have HKn := HKm
      clear HKm
      go_upto_if 30 with fail
      go_cut [3] from 4 (fun sp wx => sp = .pointer (some ⟨B, 0, none⟩) ∧ ∃ (ao : Option Addr) (aN ac : Nat), Hid (OKx w wx w.heap.size #[.bool false, .bool false, .bool false, .bool false, .slice none 0 0, .bool false, .slice none 0 0, .slice none 0 0, .slice none 0 0] 27 w.heap.size B #[.bool false, .bool a0, .bool a1, .bool a2, .slice no nN nc, .bool a4, .slice none 0 0, .slice ao aN ac, .slice none 0 0]) ∧ Hid (WRow wx w.heap.size B a3 no nN nc #[.string ⟨#[]⟩, .string ⟨#[]⟩] 47) ∧ Hid (WRow wx w.heap.size B a5 ao aN ac #[.bool true, .bool false, .bool false, .bool false, .slice none 0 0, .bool false, .slice none 0 0, .slice none 0 0, .slice none 0 0, .int .i64 0, .int .i64 (-1)] 51))
      case first =>
        cases a5 with
        | false =>
          go_wp2_with fail
          go_meet
          exact ⟨rfl, none, 0, 0, HKn, H3, ⟨fun h => (by cases h), fun _ => ⟨rfl, rfl, rfl⟩⟩⟩
        | true =>
          obtain ⟨Wb, hWb⟩ : ∃ Wb, wc.alloc (.cells #[.bool true, .bool false, .bool false, .bool false, .slice none 0 0, .bool false, .slice none 0 0, .slice none 0 0, .slice none 0 0, .int .i64 0, .int .i64 (-1)] 51) = Wb := ⟨_, rfl⟩
          have HKb : Hid (OKx w Wb w.heap.size #[.bool false, .bool false, .bool false, .bool false, .slice none 0 0, .bool false, .slice none 0 0, .slice none 0 0, .slice none 0 0] 27 w.heap.size B #[.bool false, .bool a0, .bool a1, .bool a2, .slice no nN nc, .bool a4, .slice none 0 0, .slice none 0 0, .slice none 0 0]) := by show OKx _ _ _ _ _ _ _ _; rw [← hWb]; exact HKn.out.keep (below1 wc _)
          have g := cell_of_row _ _ 7 _ _ _ HKb.out.out
          have fz := frozen_row9 (j := 7) HKb.out.out
          have hnb : Hid (wc.heap.size ≠ w.heap.size ∧ wc.heap.size ≠ B) := ⟨by have := lt_of_row HKn.out.res; omega, by have := lt_of_row HKn.out.out; omega⟩
          have hrb : Hid (Wb.heap[wc.heap.size]? = some (.cells #[.bool true, .bool false, .bool false, .bool false, .slice none 0 0, .bool false, .slice none 0 0, .slice none 0 0, .slice none 0 0, .int .i64 0, .int .i64 (-1)] 51 (0, 0))) := by show _ = _; rw [← hWb]; exact World.alloc_heap_new wc _
          go_wp2_with fail
          go_meet
          exact ⟨rfl, some ⟨wc.heap.size, 0, none⟩, 1, 1, Hid.mk (HKb.out.set 7 _), Hid.mk (H3.out.keep (fun b _ hb2 hl => (Below.heap_setCell _ _ _ _ hb2).trans (by rw [← hWb]; exact Below.heap_alloc _ _ _ hl))), ⟨fun _ => ⟨wc.heap.size, rfl, rfl, rfl, hnb.out.1, hnb.out.2, (Below.heap_setCell _ _ _ _ hnb.out.2).trans hrb.out⟩, fun h => by cases h⟩⟩
      case rest =>
        obtain ⟨rfl, ao, aN, ac, HKm, H3, H5⟩ := hcut
        clear HKn
        have HKn := HKm
        clear HKm
        go_upto_if 37 with fail
        go_cut [3] from 4 (fun sp wx => sp = .pointer (some ⟨B, 0, none⟩) ∧ ∃ (oo : Option Addr) (oN oc : Nat), Hid (OKx w wx w.heap.size #[.bool false, .bool false, .bool false, .bool false, .slice none 0 0, .bool false, .slice none 0 0, .slice none 0 0, .slice none 0 0] 27 w.heap.size B #[.bool false, .bool a0, .bool a1, .bool a2, .slice no nN nc, .bool a4, .slice none 0 0, .slice ao aN ac, .slice oo oN oc]) ∧ Hid (WRow wx w.heap.size B a3 no nN nc #[.string ⟨#[]⟩, .string ⟨#[]⟩] 47) ∧ Hid (WRow wx w.heap.size B a5 ao aN ac #[.bool true, .bool false, .bool false, .bool false, .slice none 0 0, .bool false, .slice none 0 0, .slice none 0 0, .slice none 0 0, .int .i64 0, .int .i64 (-1)] 51) ∧ Hid (WRow wx w.heap.size B a6 oo oN oc #[.slice none 0 0, .slice none 0 0, .slice none 0 0, .bool true, .bool false, .bool false, .bool false, .slice none 0 0, .bool false, .slice none 0 0, .slice none 0 0, .slice none 0 0] 55))
        case first =>
          cases a6 with
          | false =>
            go_wp2_with fail
            go_meet
            exact ⟨rfl, none, 0, 0, HKn, H3, H5, ⟨fun h => (by cases h), fun _ => ⟨rfl, rfl, rfl⟩⟩⟩
          | true =>
            obtain ⟨Wb, hWb⟩ : ∃ Wb, wc.alloc (.cells #[.slice none 0 0, .slice none 0 0, .slice none 0 0, .bool true, .bool false, .bool false, .bool false, .slice none 0 0, .bool false, .slice none 0 0, .slice none 0 0, .slice none 0 0] 55) = Wb := ⟨_, rfl⟩
            have HKb : Hid (OKx w Wb w.heap.size #[.bool false, .bool false, .bool false, .bool false, .slice none 0 0, .bool false, .slice none 0 0, .slice none 0 0, .slice none 0 0] 27 w.heap.size B #[.bool false, .bool a0, .bool a1, .bool a2, .slice no nN nc, .bool a4, .slice none 0 0, .slice ao aN ac, .slice none 0 0]) := by show OKx _ _ _ _ _ _ _ _; rw [← hWb]; exact HKn.out.keep (below1 wc _)
            have g := cell_of_row _ _ 8 _ _ _ HKb.out.out
            have fz := frozen_row9 (j := 8) HKb.out.out
            have hnb : Hid (wc.heap.size ≠ w.heap.size ∧ wc.heap.size ≠ B) := ⟨by have := lt_of_row HKn.out.res; omega, by have := lt_of_row HKn.out.out; omega⟩
            have hrb : Hid (Wb.heap[wc.heap.size]? = some (.cells #[.slice none 0 0, .slice none 0 0, .slice none 0 0, .bool true, .bool false, .bool false, .bool false, .slice none 0 0, .bool false, .slice none 0 0, .slice none 0 0, .slice none 0 0] 55 (0, 0))) := by show _ = _; rw [← hWb]; exact World.alloc_heap_new wc _
            go_wp2_with fail
            go_meet
            exact ⟨rfl, some ⟨wc.heap.size, 0, none⟩, 1, 1, Hid.mk (HKb.out.set 8 _), Hid.mk (H3.out.keep (fun b _ hb2 hl => (Below.heap_setCell _ _ _ _ hb2).trans (by rw [← hWb]; exact Below.heap_alloc _ _ _ hl))), Hid.mk (H5.out.keep (fun b _ hb2 hl => (Below.heap_setCell _ _ _ _ hb2).trans (by rw [← hWb]; exact Below.heap_alloc _ _ _ hl))), ⟨fun _ => ⟨wc.heap.size, rfl, rfl, rfl, hnb.out.1, hnb.out.2, (Below.heap_setCell _ _ _ _ hnb.out.2).trans hrb.out⟩, fun h => by cases h⟩⟩
        case rest =>
          obtain ⟨rfl, oo, oN, oc, HKm, H3, H5, H6⟩ := hcut
          clear HKn
          have o0 := cell_of_row _ _ 0 _ _ _ HKm.out.out
          have o1 := cell_of_row _ _ 1 _ _ _ HKm.out.out
          have o2 := cell_of_row _ _ 2 _ _ _ HKm.out.out
          have o3 := cell_of_row _ _ 3 _ _ _ HKm.out.out
          have o4 := cell_of_row _ _ 4 _ _ _ HKm.out.out
          have o5 := cell_of_row _ _ 5 _ _ _ HKm.out.out
          have o6 := cell_of_row _ _ 6 _ _ _ HKm.out.out
          have o7 := cell_of_row _ _ 7 _ _ _ HKm.out.out
          have o8 := cell_of_row _ _ 8 _ _ _ HKm.out.out
          have g0 := cell_of_row _ _ 0 _ _ _ HKm.out.res
          have f0 := frozen_row9 (j := 0) HKm.out.res
          have g1 := cell_of_row _ _ 1 _ _ _ HKm.out.res
          have f1 := frozen_row9 (j := 1) HKm.out.res
          have g2 := cell_of_row _ _ 2 _ _ _ HKm.out.res
          have f2 := frozen_row9 (j := 2) HKm.out.res
          have g3 := cell_of_row _ _ 3 _ _ _ HKm.out.res
          have f3 := frozen_row9 (j := 3) HKm.out.res
          have g4 := cell_of_row _ _ 4 _ _ _ HKm.out.res
          have f4 := frozen_row9 (j := 4) HKm.out.res
          have g5 := cell_of_row _ _ 5 _ _ _ HKm.out.res
          have f5 := frozen_row9 (j := 5) HKm.out.res
          have g6 := cell_of_row _ _ 6 _ _ _ HKm.out.res
          have f6 := frozen_row9 (j := 6) HKm.out.res
          have g7 := cell_of_row _ _ 7 _ _ _ HKm.out.res
          have f7 := frozen_row9 (j := 7) HKm.out.res
          have g8 := cell_of_row _ _ 8 _ _ _ HKm.out.res
          have f8 := frozen_row9 (j := 8) HKm.out.res
          go_wp2_with fail
          (try simp only [Exit.inBlock, Exit.then])
          generalize hz9 : ((((((((wc.setCell ⟨w.heap.size, 0, none⟩ (.bool false)).setCell ⟨w.heap.size, 1, none⟩ (.bool a0)).setCell ⟨w.heap.size, 2, none⟩ (.bool a1)).setCell ⟨w.heap.size, 3, none⟩ (.bool a2)).setCell ⟨w.heap.size, 4, none⟩ (.slice no nN nc)).setCell ⟨w.heap.size, 5, none⟩ (.bool a4)).setCell ⟨w.heap.size, 6, none⟩ (.slice none 0 0)).setCell ⟨w.heap.size, 7, none⟩ (.slice ao aN ac)).setCell ⟨w.heap.size, 8, none⟩ (.slice oo oN oc) = wz
          obtain ⟨e7, k7, s7⟩ := rbox_set9 wc _ _ _ _ _ _ _ _ _ _ _ _ _ _ _ _ _ _ _ _ (HKm.out.res) wz hz9.symm
          have d0 := cell_of_row _ _ 0 _ _ _ e7
          have d1 := cell_of_row _ _ 1 _ _ _ e7
          have d2 := cell_of_row _ _ 2 _ _ _ e7
          have d3 := cell_of_row _ _ 3 _ _ _ e7
          have d4 := cell_of_row _ _ 4 _ _ _ e7
          have d5 := cell_of_row _ _ 5 _ _ _ e7
          have d6 := cell_of_row _ _ 6 _ _ _ e7
          have d7 := cell_of_row _ _ 7 _ _ _ e7
          have d8 := cell_of_row _ _ 8 _ _ _ e7
          have hbz : Below w.heap.size w wz := by rw [← hz9]; exact (((((((((HKm.out.below.setCell (p := ⟨w.heap.size, 0, none⟩) (by show w.heap.size ≤ w.heap.size; omega) _).setCell (p := ⟨w.heap.size, 1, none⟩) (by show w.heap.size ≤ w.heap.size; omega) _).setCell (p := ⟨w.heap.size, 2, none⟩) (by show w.heap.size ≤ w.heap.size; omega) _).setCell (p := ⟨w.heap.size, 3, none⟩) (by show w.heap.size ≤ w.heap.size; omega) _).setCell (p := ⟨w.heap.size, 4, none⟩) (by show w.heap.size ≤ w.heap.size; omega) _).setCell (p := ⟨w.heap.size, 5, none⟩) (by show w.heap.size ≤ w.heap.size; omega) _).setCell (p := ⟨w.heap.size, 6, none⟩) (by show w.heap.size ≤ w.heap.size; omega) _).setCell (p := ⟨w.heap.size, 7, none⟩) (by show w.heap.size ≤ w.heap.size; omega) _).setCell (p := ⟨w.heap.size, 8, none⟩) (by show w.heap.size ≤ w.heap.size; omega) _)
          refine bodyPost_ret (v := .agg #[.bool false, .bool a0, .bool a1, .bool a2, .slice no nN nc, .bool a4, .slice none 0 0, .slice ao aN ac, .slice oo oN oc]) (by simp [results, Tryz.results7, go_sem, d0, d1, d2, d3, d4, d5, d6, d7, d8]) rfl ?_
          exact ⟨⟨_, rfl, by rw [HT.out]; exact Hid.mk (wid_in (H3.out.keep (fun b hb _ _ => k7 b hb)) (H5.out.keep (fun b hb _ _ => k7 b hb)) (H6.out.keep (fun b hb _ _ => k7 b hb)))⟩, hbz⟩
end Go.Proofs.YtkaaleeldpghoaaGreat
