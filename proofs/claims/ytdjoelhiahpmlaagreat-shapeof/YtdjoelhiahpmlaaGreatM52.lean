import Derived.Test.YtdjoelhiahpmlaaGreatM49
import Derived.Test.YtdjoelhiahpmlaaGreatM51
import Derived.Test.YtdjoelhiahpmlaaGreatM42
import Derived.Test.YtdjoelhiahpmlaaGreatM18
namespace Go.Proofs.YtdjoelhiahpmlaaGreat
open Go.RowKit Go.Shelf Go.Sort
set_option linter.unusedVariables false
set_option linter.unusedSimpArgs false
attribute [local go_sem] Oper.semAt_some

set_option maxRecDepth 100000 in
set_option maxHeartbeats 1600000 in
theorem ritem_none (io : Option Addr) (icap : Nat) (H : Int) (w : World) : Calls Tryz.prog 45 #[.slice io 0 icap, .int .i64 H] w fun e w' => (∃ v, e = .returned v ∧ Hid (FrT w.heap.size w' 1 ttNe v)) ∧ Below w.heap.size w w' := by
  obtain ⟨W0, hW0⟩ : ∃ W0, w.alloc (.cells #[.bool false, .bool false, .bool false, .bool false, .slice none 0 0, .bool false, .slice none 0 0, .slice none 0 0, .slice none 0 0] 32) = W0 := ⟨_, rfl⟩
  have HB0 : Hid (Below w.heap.size w W0) := by rw [← hW0]; exact (Below.refl _ w).alloc (Nat.le_refl _) _
  have HR0 : Hid (W0.heap[w.heap.size]? = some (.cells #[.bool false, .bool false, .bool false, .bool false, .slice none 0 0, .bool false, .slice none 0 0, .slice none 0 0, .slice none 0 0] 32 (0, 0))) := by show _ = _; rw [← hW0]; exact World.alloc_heap_new w _
  have g0 := cell_of_row _ _ 0 _ _ _ HR0.out
  have f0 := frozen_row9 (j := 0) HR0.out
  have g1 := cell_of_row _ _ 1 _ _ _ HR0.out
  have f1 := frozen_row9 (j := 1) HR0.out
  have g2 := cell_of_row _ _ 2 _ _ _ HR0.out
  have f2 := frozen_row9 (j := 2) HR0.out
  have g3 := cell_of_row _ _ 3 _ _ _ HR0.out
  have f3 := frozen_row9 (j := 3) HR0.out
  have g4 := cell_of_row _ _ 4 _ _ _ HR0.out
  have f4 := frozen_row9 (j := 4) HR0.out
  have g5 := cell_of_row _ _ 5 _ _ _ HR0.out
  have f5 := frozen_row9 (j := 5) HR0.out
  have g6 := cell_of_row _ _ 6 _ _ _ HR0.out
  have f6 := frozen_row9 (j := 6) HR0.out
  have g7 := cell_of_row _ _ 7 _ _ _ HR0.out
  have f7 := frozen_row9 (j := 7) HR0.out
  have g8 := cell_of_row _ _ 8 _ _ _ HR0.out
  have f8 := frozen_row9 (j := 8) HR0.out
  go_enter Tryz.func45, Tryz.ntmps45
  go_wp2_with fail
  (try simp only [Exit.inBlock, Exit.then])
  generalize hz9 : ((((((((W0.setCell ⟨w.heap.size, 0, none⟩ (.bool false)).setCell ⟨w.heap.size, 1, none⟩ (.bool false)).setCell ⟨w.heap.size, 2, none⟩ (.bool false)).setCell ⟨w.heap.size, 3, none⟩ (.bool false)).setCell ⟨w.heap.size, 4, none⟩ (.slice none 0 0)).setCell ⟨w.heap.size, 5, none⟩ (.bool false)).setCell ⟨w.heap.size, 6, none⟩ (.slice none 0 0)).setCell ⟨w.heap.size, 7, none⟩ (.slice none 0 0)).setCell ⟨w.heap.size, 8, none⟩ (.slice none 0 0) = wz
  obtain ⟨e7, k7, s7⟩ := rbox_set9 W0 _ _ _ _ _ _ _ _ _ _ _ _ _ _ _ _ _ _ _ _ (HR0.out) wz hz9.symm
  have d0 := cell_of_row _ _ 0 _ _ _ e7
  have d1 := cell_of_row _ _ 1 _ _ _ e7
  have d2 := cell_of_row _ _ 2 _ _ _ e7
  have d3 := cell_of_row _ _ 3 _ _ _ e7
  have d4 := cell_of_row _ _ 4 _ _ _ e7
  have d5 := cell_of_row _ _ 5 _ _ _ e7
  have d6 := cell_of_row _ _ 6 _ _ _ e7
  have d7 := cell_of_row _ _ 7 _ _ _ e7
  have d8 := cell_of_row _ _ 8 _ _ _ e7
  have hbz : Below w.heap.size w wz := by rw [← hz9]; exact (((((((((HB0.out.setCell (p := ⟨w.heap.size, 0, none⟩) (by show w.heap.size ≤ w.heap.size; omega) _).setCell (p := ⟨w.heap.size, 1, none⟩) (by show w.heap.size ≤ w.heap.size; omega) _).setCell (p := ⟨w.heap.size, 2, none⟩) (by show w.heap.size ≤ w.heap.size; omega) _).setCell (p := ⟨w.heap.size, 3, none⟩) (by show w.heap.size ≤ w.heap.size; omega) _).setCell (p := ⟨w.heap.size, 4, none⟩) (by show w.heap.size ≤ w.heap.size; omega) _).setCell (p := ⟨w.heap.size, 5, none⟩) (by show w.heap.size ≤ w.heap.size; omega) _).setCell (p := ⟨w.heap.size, 6, none⟩) (by show w.heap.size ≤ w.heap.size; omega) _).setCell (p := ⟨w.heap.size, 7, none⟩) (by show w.heap.size ≤ w.heap.size; omega) _).setCell (p := ⟨w.heap.size, 8, none⟩) (by show w.heap.size ≤ w.heap.size; omega) _)
  refine bodyPost_ret (v := .agg #[.bool false, .bool false, .bool false, .bool false, .slice none 0 0, .bool false, .slice none 0 0, .slice none 0 0, .slice none 0 0]) (by simp [results, Tryz.results45, go_sem, d0, d1, d2, d3, d4, d5, d6, d7, d8]) rfl ?_
  exact ⟨⟨_, rfl, Hid.mk (fun x _ _ => inT_nev x 0)⟩, hbz⟩

set_option maxRecDepth 100000 in
set_option maxHeartbeats 6400000 in
/-- the reference: what is told of all items of an array -/
theorem w_rnearItem (h : Nat) (ih : NrR h) (H : Int) (hH : H = (h : Int) + 1) (h9 : h ≤ 8) (hv : Nat) (io : Option Addr) (N icap : Nat) (x0 : VT) (r : List VT) (w : World) (hi : IIn w hv io (x0 :: r)) (hN : r.length + 1 = N) (hcap : N ≤ icap) (hN2 : N ≤ 140737488355328) (hf : ∀ x ∈ x0 :: r, formN hv x = true)
    (HSm : Hid (∀ y ∈ r, ∀ u va vb, InT u (h + 2) (nrN h x0) va → InT u (h + 2) (nrN h y) vb → Calls Tryz.prog 62 #[va, vb] u fun e w' => (∃ c : Int, e = .returned (.int .i64 c) ∧ (c == 0) = sameT (h + 2) (nrN h x0) (nrN h y)) ∧ Below u.heap.size u w')) :
    Calls Tryz.prog 45 #[.slice io N icap, .int .i64 H] w fun e w' => (∃ v, e = .returned v ∧ Hid (FrT w.heap.size w' (h + 2) (itN h (nrN h) (x0 :: r)) v)) ∧ Below w.heap.size w w' := by
  have HI := Hid.mk hi
  have HNN := Hid.mk hN
  have HFm := Hid.mk hf
  have HIh := Hid.mk ih
  have HCm := Hid.mk (fun u (hu : Below w.heap.size w u) => w_kindsOf hv (h + 1) io N icap (x0 :: r) u (hi.keep hu) hN hcap hN2 (fun x hx => isK_of (hf x hx)) (by omega))
  have eH : ((h + 1 : Nat) : Int) = H := by omega
  rw [eH] at HCm
  have HIT := Hid.mk (it_eq h (nrN h) x0 r)
  generalize itN h (nrN h) (x0 :: r) = IT at HIT ⊢
  generalize comN (h + 1) (x0 :: r) = CT at HIT HCm
  have HIT1 : Hid ((r.all fun y => sameT (h + 2) (nrN h x0) (nrN h y)) = true → IT = nrN h x0) := fun e => by rw [HIT.out, if_pos e]
  have hw1 : IntKind.wrap .i64 (H - 1) = (h : Int) := by rw [hH]; unfold IntKind.wrap; simp [IntKind.min, IntKind.max, IntKind.signed, IntKind.bits]; omega
  have hn0 : ((N : Int) == 0) = false := by have := hN; simp; omega
  have hnp : (0 : Int) < (N : Int) := by omega
  clear hi hf ih hH eH
  obtain ⟨b, off, hio, hbl, hrow⟩ := HI.out.row (by simp)
  subst hio
  obtain ⟨v0, v1, v2, v3, v4, ⟨c0, c1, c2, c3, c4⟩, ht⟩ := hrow 0 (by simp)
  obtain ⟨ik, inm, itx, iio, iN, iicap, iko, iK, ikcap, rfl, rfl, rfl, rfl, rfl⟩ := ht.shape
  have ht0 : InH w hv x0 _ := ht
  rw [Nat.zero_mul, Nat.add_zero] at c0 c1 c2 c3 c4
  obtain ⟨W0, hW0⟩ : ∃ W0, w.alloc (.cells #[.bool false, .bool false, .bool false, .bool false, .slice none 0 0, .bool false, .slice none 0 0, .slice none 0 0, .slice none 0 0] 32) = W0 := ⟨_, rfl⟩
  have HB0 : Hid (Below w.heap.size w W0) := by rw [← hW0]; exact (Below.refl _ w).alloc (Nat.le_refl _) _
  have HR0 : Hid (W0.heap[w.heap.size]? = some (.cells #[.bool false, .bool false, .bool false, .bool false, .slice none 0 0, .bool false, .slice none 0 0, .slice none 0 0, .slice none 0 0] 32 (0, 0))) := by show _ = _; rw [← hW0]; exact World.alloc_heap_new w _
  have d0 := (HB0.out.cell (p := ⟨b, off, none⟩) hbl).trans c0
  have d1 := (HB0.out.cell (p := ⟨b, off + 1, none⟩) hbl).trans c1
  have d2 := (HB0.out.cell (p := ⟨b, off + 2, none⟩) hbl).trans c2
  have d3 := (HB0.out.cell (p := ⟨b, off + 3, none⟩) hbl).trans c3
  have d4 := (HB0.out.cell (p := ⟨b, off + 4, none⟩) hbl).trans c4
  have HC0 := Hid.mk (HIh.out hv x0 _ W0 (ht0.keep HB0.out) (HFm.out x0 (by simp)))
  clear ht ht0 hrow c0 c1 c2 c3 c4
  go_enter Tryz.func45, Tryz.ntmps45
  go_wp2_with fail
  refine HC0.out.mono ?_
  rintro e w1 ⟨⟨vw, rfl, hF⟩, hq⟩
  have hF2 := hF.out.here
  obtain ⟨ta, tb, tc, td, ⟨teo, ten, tec⟩, tf, ⟨tgo, tgn, tgc⟩, ⟨tio, tinn, tic⟩, ⟨tjo, tjn, tjc⟩, esht⟩ := inT_shape hF2
  simp only [Value.agg.injEq, Array.mk.injEq, List.cons.injEq, and_true] at esht
  obtain ⟨rfl, rfl, rfl, rfl, rfl, rfl, rfl, rfl, rfl⟩ := esht
  clear hF2 d0 d1 d2 d3 d4
  obtain ⟨W2, hW2⟩ : ∃ W2, w1.alloc (.cells #[.bool ta, .bool tb, .bool tc, .bool td, .slice teo ten tec, .bool tf, .slice tgo tgn tgc, .slice tio tinn tic, .slice tjo tjn tjc] 32) = W2 := ⟨_, rfl⟩
  obtain ⟨Fb, hFb⟩ : ∃ Fb, w1.heap.size = Fb := ⟨_, rfl⟩
  have hb2 : Below w1.heap.size w1 W2 := by rw [← hW2]; exact below1 w1 _
  have HB2 := Hid.mk ((HB0.out.trans (hq.mono HB0.out.size)).trans (hb2.mono (HB0.out.trans (hq.mono HB0.out.size)).size))
  have HR2 : Hid (W2.heap[w.heap.size]? = some (.cells #[.bool false, .bool false, .bool false, .bool false, .slice none 0 0, .bool false, .slice none 0 0, .slice none 0 0, .slice none 0 0] 32 (0, 0))) := (hb2.block _ (Nat.lt_of_lt_of_le (lt_of_row HR0.out) hq.size)).trans ((hq.block _ (lt_of_row HR0.out)).trans HR0.out)
  have HF2 : Hid (W2.heap[Fb]? = some (.cells #[.bool ta, .bool tb, .bool tc, .bool td, .slice teo ten tec, .bool tf, .slice tgo tgn tgc, .slice tio tinn tic, .slice tjo tjn tjc] 32 (0, 0))) := by show _ = _; rw [← hW2, ← hFb]; exact World.alloc_heap_new w1 _
  have HT2 := Hid.mk (hF.out.keep hb2)
  have HL := Hid.mk (lt_of_row HR0.out)
  have HWq := Hid.mk hW2
  have HBq := Hid.mk hFb
  clear hq hb2 hF hW2 hFb hW0 HC0
  go_wp2_with fail
  try rw [HWq.out]
  try rw [HBq.out]
  clear HWq HBq
  go_loopw [6] (fun i wr => ∃ k : Nat, k ≤ r.length ∧ i = .int .i64 ((k + 1 : Nat) : Int) ∧ Hid (Below W2.heap.size W2 wr) ∧ Hid (((r.take k).all fun y => sameT (h + 2) (nrN h x0) (nrN h y)) = true)) (fun i _ => N - (intOf i).toNat)
  case atStart => exact ⟨0, Nat.zero_le _, rfl, Below.refl _ _, rfl⟩
  case round =>
    obtain ⟨k, hk, rfl, HB, HQ⟩ := hrel
    by_cases hlt : k < r.length
    · have hl1 : ((k + 1 : Nat) : Int) < (N : Int) := by omega
      have hkl : k < r.length := hlt
      obtain ⟨b', off', hio, hbl, hrow⟩ := (HI.out.keep (HB2.out.trans (HB.out.mono HB2.out.size))).row (by simp)
      simp only [Option.some.injEq, Addr.mk.injEq, and_true] at hio
      obtain ⟨rfl, rfl⟩ := hio
      obtain ⟨v0, v1, v2, v3, v4, ⟨c0, c1, c2, c3, c4⟩, ht⟩ := hrow (k + 1) (by simpa using hkl)
      obtain ⟨ik, inm, itx, iio, iN, iicap, iko, iK, ikcap, rfl, rfl, rfl, rfl, rfl⟩ := ht.shape
      have ht0 : InH wr hv r[k] _ := ht
      have HUp := Hid.mk (zall_up (f := fun y => sameT (h + 2) (nrN h x0) (nrN h y)) hkl)
      have HNo := Hid.mk (fun hh => zall_no (f := fun y => sameT (h + 2) (nrN h x0) (nrN h y)) hkl hh)
      have HS1 := Hid.mk (HSm.out r[k] (List.getElem_mem _))
      have HN5 := Hid.mk (HIh.out hv r[k] _ wr ht0 (HFm.out r[k] (List.mem_cons_of_mem _ (List.getElem_mem _))))
      obtain ⟨y, hy⟩ : ∃ y, r[k] = y := ⟨_, rfl⟩
      rw [hy] at HUp HNo HS1 HN5
      clear hrow hbl ht ht0 hy
      go_wp2_with fail
      refine HN5.out.mono ?_
      rintro e w6 ⟨⟨v6, rfl, hF6⟩, hq⟩
      have hF2 := hF6.out.here
      obtain ⟨ua, ub, uc, ud, ⟨ueo, uen, uec⟩, uf, ⟨ugo, ugn, ugc⟩, ⟨uio, uinn, uic⟩, ⟨ujo, ujn, ujc⟩, esht⟩ := inT_shape hF2
      simp only [Value.agg.injEq, Array.mk.injEq, List.cons.injEq, and_true] at esht
      obtain ⟨rfl, rfl, rfl, rfl, rfl, rfl, rfl, rfl, rfl⟩ := esht
      clear hF2 c0 c1 c2 c3 c4
      obtain ⟨W7, hW7⟩ : ∃ W7, w6.alloc (.cells #[.bool ua, .bool ub, .bool uc, .bool ud, .slice ueo uen uec, .bool uf, .slice ugo ugn ugc, .slice uio uinn uic, .slice ujo ujn ujc] 32) = W7 := ⟨_, rfl⟩
      obtain ⟨Gb, hGb⟩ : ∃ Gb, w6.heap.size = Gb := ⟨_, rfl⟩
      have hb7 : Below w6.heap.size w6 W7 := by rw [← hW7]; exact below1 w6 _
      have hB6 : Below W2.heap.size W2 w6 := HB.out.trans (hq.mono HB.out.size)
      have HB7 := Hid.mk (hB6.trans (hb7.mono hB6.size))
      have HG7 : Hid (W7.heap[Gb]? = some (.cells #[.bool ua, .bool ub, .bool uc, .bool ud, .slice ueo uen uec, .bool uf, .slice ugo ugn ugc, .slice uio uinn uic, .slice ujo ujn ujc] 32 (0, 0))) := by show _ = _; rw [← hW7, ← hGb]; exact World.alloc_heap_new w6 _
      have HF7 : Hid (W7.heap[Fb]? = some (.cells #[.bool ta, .bool tb, .bool tc, .bool td, .slice teo ten tec, .bool tf, .slice tgo tgn tgc, .slice tio tinn tic, .slice tjo tjn tjc] 32 (0, 0))) := (HB7.out.block _ (lt_of_row HF2.out)).trans HF2.out
      have HI7 := Hid.mk ((hF6.out.keep hb7).here)
      have HJ7 := Hid.mk ((HT2.out.keep HB7.out).here)
      have HWq := Hid.mk hW7
      have HBq := Hid.mk hGb
      clear hq hb7 hB6 hF6 hW7 hGb HN5
      go_upto_region 8 with fail
      try rw [HWq.out]
      try rw [HBq.out]
      clear HWq HBq
      have p0 := cell_of_row _ _ 0 _ _ _ HF7.out
      have p1 := cell_of_row _ _ 1 _ _ _ HF7.out
      have p2 := cell_of_row _ _ 2 _ _ _ HF7.out
      have p3 := cell_of_row _ _ 3 _ _ _ HF7.out
      have p4 := cell_of_row _ _ 4 _ _ _ HF7.out
      have p5 := cell_of_row _ _ 5 _ _ _ HF7.out
      have p6 := cell_of_row _ _ 6 _ _ _ HF7.out
      have p7 := cell_of_row _ _ 7 _ _ _ HF7.out
      have p8 := cell_of_row _ _ 8 _ _ _ HF7.out
      have q0 := cell_of_row _ _ 0 _ _ _ HG7.out
      have q1 := cell_of_row _ _ 1 _ _ _ HG7.out
      have q2 := cell_of_row _ _ 2 _ _ _ HG7.out
      have q3 := cell_of_row _ _ 3 _ _ _ HG7.out
      have q4 := cell_of_row _ _ 4 _ _ _ HG7.out
      have q5 := cell_of_row _ _ 5 _ _ _ HG7.out
      have q6 := cell_of_row _ _ 6 _ _ _ HG7.out
      have q7 := cell_of_row _ _ 7 _ _ _ HG7.out
      have q8 := cell_of_row _ _ 8 _ _ _ HG7.out
      go_wp2_with fail
      refine (HS1.out _ _ _ HJ7.out HI7.out).mono ?_
      rintro e w8 ⟨⟨c, rfl, hc⟩, hq⟩
      have HB8 := Hid.mk (HB7.out.trans (hq.mono HB7.out.size))
      clear hq p0 q0 p1 q1 p2 q2 p3 q3 p4 q4 p5 q5 p6 q6 p7 q7 p8 q8 HI7 HJ7 HF7 HG7 HS1
      cases hs : sameT (h + 2) (nrN h x0) (nrN h y) with
      | true =>
        rw [hs] at hc HUp HNo
        have HN : Hid (((r.take (k + 1)).all fun y => sameT (h + 2) (nrN h x0) (nrN h y)) = true) := by show _ = _; rw [HUp.out, HQ.out]; rfl
        clear HUp HNo hs
        go_wp2_with fail
        go_roundw
        case rel => exact ⟨k + 1, hlt, by go_num, HB8, HN⟩
        case measure => simp [intOf]; omega
      | false =>
        rw [hs] at hc HUp HNo
        have HT : Hid (IT = CT) := by show _ = _; rw [HIT.out, HNo.out (by first | trivial | rfl)]; rfl
        clear HUp HNo hs
        have HB9 := Hid.mk (HB2.out.trans (HB8.out.mono HB2.out.size))
        have HR9 : Hid (w8.heap[w.heap.size]? = _) := (HB8.out.block _ (lt_of_row HR2.out)).trans HR2.out
        go_wp2_with fail
        refine (HCm.out _ HB9.out).mono ?_
        rintro e w10 ⟨⟨v8, rfl, hF⟩, hq⟩
        have HBa := Hid.mk (HB9.out.trans (hq.mono HB9.out.size))
        have HRa : Hid (w10.heap[w.heap.size]? = _) := (hq.block _ (lt_of_row HR9.out)).trans HR9.out
        have HLa := Hid.mk (lt_of_row HR9.out)
        clear hq HR9 HB9
        have hF2 := hF.out.here
        clear hF2
        obtain ⟨xa, xb, xc, xd, ⟨xeo, xen, xec⟩, xf, ⟨xgo, xgn, xgc⟩, ⟨xio, xinn, xic⟩, ⟨xjo, xjn, xjc⟩, esht⟩ := inT_shape hF.out.here
        simp only [Value.agg.injEq, Array.mk.injEq, List.cons.injEq, and_true] at esht
        obtain ⟨rfl, rfl, rfl, rfl, rfl, rfl, rfl, rfl, rfl⟩ := esht
        have g0 := cell_of_row _ _ 0 _ _ _ HRa.out
        have f0 := frozen_row9 (j := 0) HRa.out
        have g1 := cell_of_row _ _ 1 _ _ _ HRa.out
        have f1 := frozen_row9 (j := 1) HRa.out
        have g2 := cell_of_row _ _ 2 _ _ _ HRa.out
        have f2 := frozen_row9 (j := 2) HRa.out
        have g3 := cell_of_row _ _ 3 _ _ _ HRa.out
        have f3 := frozen_row9 (j := 3) HRa.out
        have g4 := cell_of_row _ _ 4 _ _ _ HRa.out
        have f4 := frozen_row9 (j := 4) HRa.out
        have g5 := cell_of_row _ _ 5 _ _ _ HRa.out
        have f5 := frozen_row9 (j := 5) HRa.out
        have g6 := cell_of_row _ _ 6 _ _ _ HRa.out
        have f6 := frozen_row9 (j := 6) HRa.out
        have g7 := cell_of_row _ _ 7 _ _ _ HRa.out
        have f7 := frozen_row9 (j := 7) HRa.out
        have g8 := cell_of_row _ _ 8 _ _ _ HRa.out
        have f8 := frozen_row9 (j := 8) HRa.out
        go_wp2_with fail
        (try simp only [Exit.inBlock, Exit.then])
        generalize hz9 : ((((((((w10.setCell ⟨w.heap.size, 0, none⟩ (.bool xa)).setCell ⟨w.heap.size, 1, none⟩ (.bool xb)).setCell ⟨w.heap.size, 2, none⟩ (.bool xc)).setCell ⟨w.heap.size, 3, none⟩ (.bool xd)).setCell ⟨w.heap.size, 4, none⟩ (.slice xeo xen xec)).setCell ⟨w.heap.size, 5, none⟩ (.bool xf)).setCell ⟨w.heap.size, 6, none⟩ (.slice xgo xgn xgc)).setCell ⟨w.heap.size, 7, none⟩ (.slice xio xinn xic)).setCell ⟨w.heap.size, 8, none⟩ (.slice xjo xjn xjc) = wz
        obtain ⟨e7, k7, s7⟩ := rbox_set9 w10 _ _ _ _ _ _ _ _ _ _ _ _ _ _ _ _ _ _ _ _ (HRa.out) wz hz9.symm
        have d0 := cell_of_row _ _ 0 _ _ _ e7
        have d1 := cell_of_row _ _ 1 _ _ _ e7
        have d2 := cell_of_row _ _ 2 _ _ _ e7
        have d3 := cell_of_row _ _ 3 _ _ _ e7
        have d4 := cell_of_row _ _ 4 _ _ _ e7
        have d5 := cell_of_row _ _ 5 _ _ _ e7
        have d6 := cell_of_row _ _ 6 _ _ _ e7
        have d7 := cell_of_row _ _ 7 _ _ _ e7
        have d8 := cell_of_row _ _ 8 _ _ _ e7
        have hbz : Below w.heap.size w wz := by rw [← hz9]; exact (((((((((HBa.out.setCell (p := ⟨w.heap.size, 0, none⟩) (by show w.heap.size ≤ w.heap.size; omega) _).setCell (p := ⟨w.heap.size, 1, none⟩) (by show w.heap.size ≤ w.heap.size; omega) _).setCell (p := ⟨w.heap.size, 2, none⟩) (by show w.heap.size ≤ w.heap.size; omega) _).setCell (p := ⟨w.heap.size, 3, none⟩) (by show w.heap.size ≤ w.heap.size; omega) _).setCell (p := ⟨w.heap.size, 4, none⟩) (by show w.heap.size ≤ w.heap.size; omega) _).setCell (p := ⟨w.heap.size, 5, none⟩) (by show w.heap.size ≤ w.heap.size; omega) _).setCell (p := ⟨w.heap.size, 6, none⟩) (by show w.heap.size ≤ w.heap.size; omega) _).setCell (p := ⟨w.heap.size, 7, none⟩) (by show w.heap.size ≤ w.heap.size; omega) _).setCell (p := ⟨w.heap.size, 8, none⟩) (by show w.heap.size ≤ w.heap.size; omega) _)
        refine bodyPost_ret (v := .agg #[.bool xa, .bool xb, .bool xc, .bool xd, .slice xeo xen xec, .bool xf, .slice xgo xgn xgc, .slice xio xinn xic, .slice xjo xjn xjc]) (by simp [results, Tryz.results45, go_sem, d0, d1, d2, d3, d4, d5, d6, d7, d8]) rfl ?_
        exact ⟨⟨_, rfl, by rw [HT.out]; exact Hid.mk (((hF.out.le (by omega)).set s7 (fun b hb => k7 b (by have := HLa.out; omega))).mono (by have := HLa.out; omega))⟩, hbz⟩
    · have hl1 : ¬ ((k + 1 : Nat) : Int) < (N : Int) := by omega
      have HT : Hid (IT = nrN h x0) := HIT1.out (by have e := HQ.out; rw [List.take_of_length_le (by omega)] at e; exact e)
      have HB9 := Hid.mk (HB2.out.trans (HB.out.mono HB2.out.size))
      have HR9 : Hid (wr.heap[w.heap.size]? = _) := (HB.out.block _ (lt_of_row HR2.out)).trans HR2.out
      have HF9 : Hid (wr.heap[Fb]? = _) := (HB.out.block _ (lt_of_row HF2.out)).trans HF2.out
      have HT9 := Hid.mk (HT2.out.keep HB.out)
      have z0 := cell_of_row _ _ 0 _ _ _ HF9.out
      have z1 := cell_of_row _ _ 1 _ _ _ HF9.out
      have z2 := cell_of_row _ _ 2 _ _ _ HF9.out
      have z3 := cell_of_row _ _ 3 _ _ _ HF9.out
      have z4 := cell_of_row _ _ 4 _ _ _ HF9.out
      have z5 := cell_of_row _ _ 5 _ _ _ HF9.out
      have z6 := cell_of_row _ _ 6 _ _ _ HF9.out
      have z7 := cell_of_row _ _ 7 _ _ _ HF9.out
      have z8 := cell_of_row _ _ 8 _ _ _ HF9.out
      have g0 := cell_of_row _ _ 0 _ _ _ HR9.out
      have f0 := frozen_row9 (j := 0) HR9.out
      have g1 := cell_of_row _ _ 1 _ _ _ HR9.out
      have f1 := frozen_row9 (j := 1) HR9.out
      have g2 := cell_of_row _ _ 2 _ _ _ HR9.out
      have f2 := frozen_row9 (j := 2) HR9.out
      have g3 := cell_of_row _ _ 3 _ _ _ HR9.out
      have f3 := frozen_row9 (j := 3) HR9.out
      have g4 := cell_of_row _ _ 4 _ _ _ HR9.out
      have f4 := frozen_row9 (j := 4) HR9.out
      have g5 := cell_of_row _ _ 5 _ _ _ HR9.out
      have f5 := frozen_row9 (j := 5) HR9.out
      have g6 := cell_of_row _ _ 6 _ _ _ HR9.out
      have f6 := frozen_row9 (j := 6) HR9.out
      have g7 := cell_of_row _ _ 7 _ _ _ HR9.out
      have f7 := frozen_row9 (j := 7) HR9.out
      have g8 := cell_of_row _ _ 8 _ _ _ HR9.out
      have f8 := frozen_row9 (j := 8) HR9.out
      go_wp2_with fail
      (try simp only [Exit.inBlock, Exit.then])
      generalize hz9 : ((((((((wr.setCell ⟨w.heap.size, 0, none⟩ (.bool ta)).setCell ⟨w.heap.size, 1, none⟩ (.bool tb)).setCell ⟨w.heap.size, 2, none⟩ (.bool tc)).setCell ⟨w.heap.size, 3, none⟩ (.bool td)).setCell ⟨w.heap.size, 4, none⟩ (.slice teo ten tec)).setCell ⟨w.heap.size, 5, none⟩ (.bool tf)).setCell ⟨w.heap.size, 6, none⟩ (.slice tgo tgn tgc)).setCell ⟨w.heap.size, 7, none⟩ (.slice tio tinn tic)).setCell ⟨w.heap.size, 8, none⟩ (.slice tjo tjn tjc) = wz
      obtain ⟨e7, k7, s7⟩ := rbox_set9 wr _ _ _ _ _ _ _ _ _ _ _ _ _ _ _ _ _ _ _ _ (HR9.out) wz hz9.symm
      have d0 := cell_of_row _ _ 0 _ _ _ e7
      have d1 := cell_of_row _ _ 1 _ _ _ e7
      have d2 := cell_of_row _ _ 2 _ _ _ e7
      have d3 := cell_of_row _ _ 3 _ _ _ e7
      have d4 := cell_of_row _ _ 4 _ _ _ e7
      have d5 := cell_of_row _ _ 5 _ _ _ e7
      have d6 := cell_of_row _ _ 6 _ _ _ e7
      have d7 := cell_of_row _ _ 7 _ _ _ e7
      have d8 := cell_of_row _ _ 8 _ _ _ e7
      have hbz : Below w.heap.size w wz := by rw [← hz9]; exact (((((((((HB9.out.setCell (p := ⟨w.heap.size, 0, none⟩) (by show w.heap.size ≤ w.heap.size; omega) _).setCell (p := ⟨w.heap.size, 1, none⟩) (by show w.heap.size ≤ w.heap.size; omega) _).setCell (p := ⟨w.heap.size, 2, none⟩) (by show w.heap.size ≤ w.heap.size; omega) _).setCell (p := ⟨w.heap.size, 3, none⟩) (by show w.heap.size ≤ w.heap.size; omega) _).setCell (p := ⟨w.heap.size, 4, none⟩) (by show w.heap.size ≤ w.heap.size; omega) _).setCell (p := ⟨w.heap.size, 5, none⟩) (by show w.heap.size ≤ w.heap.size; omega) _).setCell (p := ⟨w.heap.size, 6, none⟩) (by show w.heap.size ≤ w.heap.size; omega) _).setCell (p := ⟨w.heap.size, 7, none⟩) (by show w.heap.size ≤ w.heap.size; omega) _).setCell (p := ⟨w.heap.size, 8, none⟩) (by show w.heap.size ≤ w.heap.size; omega) _)
      refine bodyPost_ret (v := .agg #[.bool ta, .bool tb, .bool tc, .bool td, .slice teo ten tec, .bool tf, .slice tgo tgn tgc, .slice tio tinn tic, .slice tjo tjn tjc]) (by simp [results, Tryz.results45, go_sem, d0, d1, d2, d3, d4, d5, d6, d7, d8]) rfl ?_
      exact ⟨⟨_, rfl, by rw [HT.out]; exact Hid.mk ((HT9.out.set s7 (fun b hb => k7 b (by have := HL.out; omega))).mono (by have := HL.out; omega))⟩, hbz⟩
end Go.Proofs.YtdjoelhiahpmlaaGreat
namespace Go.Proofs.YtdjoelhiahpmlaaGreat
open Go.RowKit Go.Shelf Go.Sort
set_option linter.unusedVariables false
set_option linter.unusedSimpArgs false

theorem hg_ev (m : Nat) : hgN m ttEv = 0 := by cases m <;> rfl
theorem hg_ne (m : Nat) : hgN m ttNe = 0 := by cases m <;> rfl
theorem hg_widB (m : Nat) (a0 a1 a2 a3 a4 a5 a6 : Bool) : hgN m (widB a0 a1 a2 a3 a4 a5 a6) ≤ 1 := by
  unfold widB
  split
  · rw [hg_ev]; exact Nat.zero_le _
  · cases m with
    | zero => exact Nat.zero_le _
    | succ m =>
      have he := hg_ev m
      unfold hgN widL
      cases a5 <;> cases a6 <;> simp [TT.objs, TT.arrs, OB.rest, OB.fields, AR.item, he]
theorem hg_com (m h : Nat) (its : List VT) : hgN m (comN h its) + 1 ≤ max h 1 := by
  unfold comN
  split
  · rw [hg_ev]; omega
  · have := hg_widB m (anyK its 0) (anyK its 1) (anyK its 2) (anyK its 3) (anyK its 4) (anyK its 5) (anyK its 6)
    omega
theorem hg_leaf (m : Nat) (V : VT) : hgN m (nrLeaf V) = 0 := by
  cases m with
  | zero => rfl
  | succ m =>
    unfold nrLeaf
    split
    · rfl
    · split <;> rfl
/-- it is no higher than asked -/
theorem hg_nr : ∀ (h m : Nat) (V : VT), hgN m (nrN h V) ≤ h
  | 0, m, V => by
    unfold nrN
    split
    · rw [hg_ev]; exact Nat.le_refl _
    · rw [hg_leaf]; exact Nat.le_refl _
  | h + 1, 0, V => Nat.zero_le _
  | h + 1, m + 1, V => by
    have ih := hg_nr h m
    unfold nrN
    split
    · show max 0 (hgN m (itN h (nrN h) V.items) + 1) ≤ h + 1
      rcases it_cases h (nrN h) V.items with ⟨e, e1⟩ | ⟨y, hy, e1, e2⟩ | ⟨hne, e1⟩
      · rw [e1, hg_ne]; omega
      · rw [e1]; have := ih y; omega
      · rw [e1]; have := hg_com m (h + 1) V.items; omega
    · split
      · show (fdN h (nrN h) V).fields.foldl (fun n t => max n (hgN m t + 1)) (max 0 (hgN m (fdN h (nrN h) V).rest + 1)) ≤ h + 1
        unfold fdN
        split
        · show max 0 (hgN m (comN (h + 1) V.items) + 1) ≤ h + 1
          have := hg_com m (h + 1) V.items; omega
        · refine foldl_le _ (fun t ht n hn => ?_) _ ?_
          · obtain ⟨x, hx, rfl⟩ := List.mem_map.1 ht
            have := ih x; omega
          · show max 0 (hgN m ttNe + 1) ≤ h + 1
            rw [hg_ne]; omega
      · rw [hg_leaf]; exact Nat.zero_le _
end Go.Proofs.YtdjoelhiahpmlaaGreat
