import Derived.Test.YtdjoelhiahpmlaaM50
import Derived.Test.YtdjoelhiahpmlaaM28
namespace Go.Proofs.Ytdjoelhiahpmlaa
open Go.RowKit Go.Shelf Go.Sort
set_option linter.unusedVariables false
set_option linter.unusedSimpArgs false

theorem fd_all (h : Nat) (h7 : h ≤ 7) (ih : NrC h) : FdC h := by
  intro hv V vv u hI hf h6
  obtain ⟨m, rfl⟩ := form_pos hf
  obtain ⟨io, icap, ko, kcap, rfl, a1, a2, a3, a4, a5, a6, a7, hk, hi⟩ := hI.open
  rcases form_open hf with (rfl | rfl | rfl) | ⟨n, rfl, hn⟩ | ⟨t, rfl, ht⟩ | ⟨i, rfl, hi'⟩ | ⟨i, ks, rfl, hl, _, _, hi'⟩ <;> (try simp [VT.kind] at h6)
  rw [fd_eq]
  by_cases h12 : 12 < ks.length
  · rw [if_pos h12]
    exact fields_wide _ _ io _ icap ko _ kcap ((h + 1 : Nat) : Int) u (h + 2) (comN (h + 1) i) h12 (Hid.mk fun u2 hu => (w_common m (h + 1) io _ icap i u2 (hi.keep hu) rfl a5 a3 (fun x hx => isK_of (hi' x hx)) (by omega)).mono fun e w' ⟨⟨v, hv, hF⟩, hb⟩ => ⟨⟨v, hv, Hid.mk (hF.out.le (by omega))⟩, hb⟩)
  · rw [if_neg h12]
    have e : i.length = ks.length := hl.symm
    have a5' : i.length ≤ icap := a5
    have a7' : ∀ k ∈ ks, k.size ≤ 140737488355328 := a7
    show Calls Try.prog 49 #[.agg #[.int .i64 6, .string .empty, .string .empty, .slice io i.length icap, .slice ko ks.length kcap], .int .i64 ((h + 1 : Nat) : Int)] u _
    rw [e]
    exact fields_few h ih m i ks _ _ io icap ko ks.length kcap ((h + 1 : Nat) : Int) u hi hk e rfl (by omega) a6 (by omega) hi' a7' (by unfold IntKind.wrap; simp [IntKind.min, IntKind.max, IntKind.signed, IntKind.bits]; omega)
/-- THE PROGRAM'S near -/
theorem w_near : ∀ h, h ≤ 8 → NrC h := nr_all fd_all
end Go.Proofs.Ytdjoelhiahpmlaa
namespace Go.Proofs.Ytdjoelhiahpmlaa
open Go.RowKit Go.Shelf Go.Sort
set_option linter.unusedVariables false
set_option linter.unusedSimpArgs false
attribute [local go_sem] Oper.semAt_some

set_option maxRecDepth 100000 in
set_option maxHeartbeats 3200000 in
theorem of_step (kd : Int) (nm tx : ByteArray) (io : Option Addr) (NI icap : Nat) (ko : Option Addr) (NK kcap : Nat) (w : World) (f : Bool) (CT : TT)
    (HF : Hid (∀ u, Below w.heap.size w u → Calls Try.prog 20 #[.agg #[.int .i64 kd, .string nm, .string tx, .slice io NI icap, .slice ko NK kcap]] u fun e w' => e = .returned (.bool f) ∧ Below u.heap.size u w'))
    (HN : Hid (f = true → ∀ u, Below w.heap.size w u → Calls Try.prog 21 #[.agg #[.int .i64 kd, .string nm, .string tx, .slice io NI icap, .slice ko NK kcap], .int .i64 8] u fun e w' => (∃ v, e = .returned v ∧ Hid (FrT u.heap.size w' 10 CT v)) ∧ Below u.heap.size u w')) :
    Calls Try.prog 9 #[.agg #[.int .i64 kd, .string nm, .string tx, .slice io NI icap, .slice ko NK kcap]] w fun e w' => (∃ v, e = .returned (.tuple #[v, .int .i64 (if f then 0 else 1)]) ∧ Hid (FrT w.heap.size w' 10 (if f then CT else ttNe) v)) ∧ Below w.heap.size w w' := by
  obtain ⟨W0, hW0⟩ : ∃ W0, (w.alloc (.cells #[.int .i64 kd, .string nm, .string tx, .slice io NI icap, .slice ko NK kcap] 25)).alloc (.cells #[.bool false, .bool false, .bool false, .bool false, .slice none 0 0, .bool false, .slice none 0 0, .slice none 0 0, .slice none 0 0] 33) = W0 := ⟨_, rfl⟩
  have HB0 : Hid (Below w.heap.size w W0) := by rw [← hW0]; exact ((Below.refl _ w).alloc (Nat.le_refl _) _).alloc (by simp) _
  have HR0 : Hid (W0.heap[w.heap.size + 1]? = some (.cells #[.bool false, .bool false, .bool false, .bool false, .slice none 0 0, .bool false, .slice none 0 0, .slice none 0 0, .slice none 0 0] 33 (0, 0))) := by
    show _ = _
    rw [← hW0]
    have h := World.alloc_heap_new (w.alloc (.cells #[.int .i64 kd, .string nm, .string tx, .slice io NI icap, .slice ko NK kcap] 25)) (.cells #[.bool false, .bool false, .bool false, .bool false, .slice none 0 0, .bool false, .slice none 0 0, .slice none 0 0, .slice none 0 0] 33)
    rw [World.size_alloc] at h
    exact h
  have HV0 : Hid (W0.heap[w.heap.size]? = some (.cells #[.int .i64 kd, .string nm, .string tx, .slice io NI icap, .slice ko NK kcap] 25 (0, 0))) := by
    show _ = _
    rw [← hW0]
    exact (Below.heap_alloc _ _ _ (by simp)).trans (World.alloc_heap_new w _)
  have c0 := cell_of_row _ _ 0 _ _ _ HV0.out
  have c1 := cell_of_row _ _ 1 _ _ _ HV0.out
  have c2 := cell_of_row _ _ 2 _ _ _ HV0.out
  have c3 := cell_of_row _ _ 3 _ _ _ HV0.out
  have c4 := cell_of_row _ _ 4 _ _ _ HV0.out
  cases f with
  | false =>
    go_enter Try.func9, Try.ntmps9
    go_wp2_with fail
    refine (HF.out _ HB0.out).mono ?_
    rintro e w1 ⟨rfl, hq⟩
    have HB1 := Hid.mk (HB0.out.trans (hq.mono HB0.out.size))
    have HR1 : Hid (w1.heap[w.heap.size + 1]? = _) := (hq.block _ (lt_of_row HR0.out)).trans HR0.out
    clear hq hW0 c0 c1 c2 c3 c4
    have g0 := cell_of_row _ _ 0 _ _ _ HR1.out
    have f0 := frozen_row9 (j := 0) HR1.out
    have g1 := cell_of_row _ _ 1 _ _ _ HR1.out
    have f1 := frozen_row9 (j := 1) HR1.out
    have g2 := cell_of_row _ _ 2 _ _ _ HR1.out
    have f2 := frozen_row9 (j := 2) HR1.out
    have g3 := cell_of_row _ _ 3 _ _ _ HR1.out
    have f3 := frozen_row9 (j := 3) HR1.out
    have g4 := cell_of_row _ _ 4 _ _ _ HR1.out
    have f4 := frozen_row9 (j := 4) HR1.out
    have g5 := cell_of_row _ _ 5 _ _ _ HR1.out
    have f5 := frozen_row9 (j := 5) HR1.out
    have g6 := cell_of_row _ _ 6 _ _ _ HR1.out
    have f6 := frozen_row9 (j := 6) HR1.out
    have g7 := cell_of_row _ _ 7 _ _ _ HR1.out
    have f7 := frozen_row9 (j := 7) HR1.out
    have g8 := cell_of_row _ _ 8 _ _ _ HR1.out
    have f8 := frozen_row9 (j := 8) HR1.out
    go_wp2_with fail
    (try simp only [Exit.inBlock, Exit.then])
    generalize hz9 : ((((((((w1.setCell ⟨w.heap.size + 1, 0, none⟩ (.bool false)).setCell ⟨w.heap.size + 1, 1, none⟩ (.bool false)).setCell ⟨w.heap.size + 1, 2, none⟩ (.bool false)).setCell ⟨w.heap.size + 1, 3, none⟩ (.bool false)).setCell ⟨w.heap.size + 1, 4, none⟩ (.slice none 0 0)).setCell ⟨w.heap.size + 1, 5, none⟩ (.bool false)).setCell ⟨w.heap.size + 1, 6, none⟩ (.slice none 0 0)).setCell ⟨w.heap.size + 1, 7, none⟩ (.slice none 0 0)).setCell ⟨w.heap.size + 1, 8, none⟩ (.slice none 0 0) = wz
    obtain ⟨e7, k7, s7⟩ := rbox_set9 w1 _ _ _ _ _ _ _ _ _ _ _ _ _ _ _ _ _ _ _ _ (HR1.out) wz hz9.symm
    have d0 := cell_of_row _ _ 0 _ _ _ e7
    have d1 := cell_of_row _ _ 1 _ _ _ e7
    have d2 := cell_of_row _ _ 2 _ _ _ e7
    have d3 := cell_of_row _ _ 3 _ _ _ e7
    have d4 := cell_of_row _ _ 4 _ _ _ e7
    have d5 := cell_of_row _ _ 5 _ _ _ e7
    have d6 := cell_of_row _ _ 6 _ _ _ e7
    have d7 := cell_of_row _ _ 7 _ _ _ e7
    have d8 := cell_of_row _ _ 8 _ _ _ e7
    have hbz : Below w.heap.size w wz := by rw [← hz9]; exact (((((((((HB1.out.setCell (p := ⟨w.heap.size + 1, 0, none⟩) (by show w.heap.size ≤ w.heap.size + 1; omega) _).setCell (p := ⟨w.heap.size + 1, 1, none⟩) (by show w.heap.size ≤ w.heap.size + 1; omega) _).setCell (p := ⟨w.heap.size + 1, 2, none⟩) (by show w.heap.size ≤ w.heap.size + 1; omega) _).setCell (p := ⟨w.heap.size + 1, 3, none⟩) (by show w.heap.size ≤ w.heap.size + 1; omega) _).setCell (p := ⟨w.heap.size + 1, 4, none⟩) (by show w.heap.size ≤ w.heap.size + 1; omega) _).setCell (p := ⟨w.heap.size + 1, 5, none⟩) (by show w.heap.size ≤ w.heap.size + 1; omega) _).setCell (p := ⟨w.heap.size + 1, 6, none⟩) (by show w.heap.size ≤ w.heap.size + 1; omega) _).setCell (p := ⟨w.heap.size + 1, 7, none⟩) (by show w.heap.size ≤ w.heap.size + 1; omega) _).setCell (p := ⟨w.heap.size + 1, 8, none⟩) (by show w.heap.size ≤ w.heap.size + 1; omega) _)
    refine bodyPost_ret (v := .tuple #[.agg #[.bool false, .bool false, .bool false, .bool false, .slice none 0 0, .bool false, .slice none 0 0, .slice none 0 0, .slice none 0 0], .int .i64 1]) (by simp [results, Try.results9, go_sem, d0, d1, d2, d3, d4, d5, d6, d7, d8]) rfl ?_
    exact ⟨⟨_, rfl, Hid.mk (fun x _ _ => inT_nev x 9)⟩, hbz⟩
  | true =>
    go_enter Try.func9, Try.ntmps9
    go_wp2_with fail
    refine (HF.out _ HB0.out).mono ?_
    rintro e w1 ⟨rfl, hq⟩
    have HB1 := Hid.mk (HB0.out.trans (hq.mono HB0.out.size))
    have HR1 : Hid (w1.heap[w.heap.size + 1]? = _) := (hq.block _ (lt_of_row HR0.out)).trans HR0.out
    have HV1 : Hid (w1.heap[w.heap.size]? = _) := (hq.block _ (lt_of_row HV0.out)).trans HV0.out
    clear hq hW0 c0 c1 c2 c3 c4
    have c0 := cell_of_row _ _ 0 _ _ _ HV1.out
    have c1 := cell_of_row _ _ 1 _ _ _ HV1.out
    have c2 := cell_of_row _ _ 2 _ _ _ HV1.out
    have c3 := cell_of_row _ _ 3 _ _ _ HV1.out
    have c4 := cell_of_row _ _ 4 _ _ _ HV1.out
    go_wp2_with fail
    refine (HN.out (by first | trivial | rfl) _ HB1.out).mono ?_
    rintro e w3 ⟨⟨vw, rfl, hF⟩, hq⟩
    have HB3 := Hid.mk (HB1.out.trans (hq.mono HB1.out.size))
    have HR3 : Hid (w3.heap[w.heap.size + 1]? = _) := (hq.block _ (lt_of_row HR1.out)).trans HR1.out
    have HL := Hid.mk (lt_of_row HR1.out)
    clear hq
    have hF2 := hF.out.here
    obtain ⟨ta, tb, tc, td, ⟨teo, ten, tec⟩, tf, ⟨tgo, tgn, tgc⟩, ⟨tio, tinn, tic⟩, ⟨tjo, tjn, tjc⟩, esht⟩ := inT_shape hF2
    simp only [Value.agg.injEq, Array.mk.injEq, List.cons.injEq, and_true] at esht
    obtain ⟨rfl, rfl, rfl, rfl, rfl, rfl, rfl, rfl, rfl⟩ := esht
    clear hF2
    clear c0 c1 c2 c3 c4
    have g0 := cell_of_row _ _ 0 _ _ _ HR3.out
    have f0 := frozen_row9 (j := 0) HR3.out
    have g1 := cell_of_row _ _ 1 _ _ _ HR3.out
    have f1 := frozen_row9 (j := 1) HR3.out
    have g2 := cell_of_row _ _ 2 _ _ _ HR3.out
    have f2 := frozen_row9 (j := 2) HR3.out
    have g3 := cell_of_row _ _ 3 _ _ _ HR3.out
    have f3 := frozen_row9 (j := 3) HR3.out
    have g4 := cell_of_row _ _ 4 _ _ _ HR3.out
    have f4 := frozen_row9 (j := 4) HR3.out
    have g5 := cell_of_row _ _ 5 _ _ _ HR3.out
    have f5 := frozen_row9 (j := 5) HR3.out
    have g6 := cell_of_row _ _ 6 _ _ _ HR3.out
    have f6 := frozen_row9 (j := 6) HR3.out
    have g7 := cell_of_row _ _ 7 _ _ _ HR3.out
    have f7 := frozen_row9 (j := 7) HR3.out
    have g8 := cell_of_row _ _ 8 _ _ _ HR3.out
    have f8 := frozen_row9 (j := 8) HR3.out
    go_wp2_with fail
    (try simp only [Exit.inBlock, Exit.then])
    generalize hz9 : ((((((((w3.setCell ⟨w.heap.size + 1, 0, none⟩ (.bool ta)).setCell ⟨w.heap.size + 1, 1, none⟩ (.bool tb)).setCell ⟨w.heap.size + 1, 2, none⟩ (.bool tc)).setCell ⟨w.heap.size + 1, 3, none⟩ (.bool td)).setCell ⟨w.heap.size + 1, 4, none⟩ (.slice teo ten tec)).setCell ⟨w.heap.size + 1, 5, none⟩ (.bool tf)).setCell ⟨w.heap.size + 1, 6, none⟩ (.slice tgo tgn tgc)).setCell ⟨w.heap.size + 1, 7, none⟩ (.slice tio tinn tic)).setCell ⟨w.heap.size + 1, 8, none⟩ (.slice tjo tjn tjc) = wz
    obtain ⟨e7, k7, s7⟩ := rbox_set9 w3 _ _ _ _ _ _ _ _ _ _ _ _ _ _ _ _ _ _ _ _ (HR3.out) wz hz9.symm
    have d0 := cell_of_row _ _ 0 _ _ _ e7
    have d1 := cell_of_row _ _ 1 _ _ _ e7
    have d2 := cell_of_row _ _ 2 _ _ _ e7
    have d3 := cell_of_row _ _ 3 _ _ _ e7
    have d4 := cell_of_row _ _ 4 _ _ _ e7
    have d5 := cell_of_row _ _ 5 _ _ _ e7
    have d6 := cell_of_row _ _ 6 _ _ _ e7
    have d7 := cell_of_row _ _ 7 _ _ _ e7
    have d8 := cell_of_row _ _ 8 _ _ _ e7
    have hbz : Below w.heap.size w wz := by rw [← hz9]; exact (((((((((HB3.out.setCell (p := ⟨w.heap.size + 1, 0, none⟩) (by show w.heap.size ≤ w.heap.size + 1; omega) _).setCell (p := ⟨w.heap.size + 1, 1, none⟩) (by show w.heap.size ≤ w.heap.size + 1; omega) _).setCell (p := ⟨w.heap.size + 1, 2, none⟩) (by show w.heap.size ≤ w.heap.size + 1; omega) _).setCell (p := ⟨w.heap.size + 1, 3, none⟩) (by show w.heap.size ≤ w.heap.size + 1; omega) _).setCell (p := ⟨w.heap.size + 1, 4, none⟩) (by show w.heap.size ≤ w.heap.size + 1; omega) _).setCell (p := ⟨w.heap.size + 1, 5, none⟩) (by show w.heap.size ≤ w.heap.size + 1; omega) _).setCell (p := ⟨w.heap.size + 1, 6, none⟩) (by show w.heap.size ≤ w.heap.size + 1; omega) _).setCell (p := ⟨w.heap.size + 1, 7, none⟩) (by show w.heap.size ≤ w.heap.size + 1; omega) _).setCell (p := ⟨w.heap.size + 1, 8, none⟩) (by show w.heap.size ≤ w.heap.size + 1; omega) _)
    refine bodyPost_ret (v := .tuple #[.agg #[.bool ta, .bool tb, .bool tc, .bool td, .slice teo ten tec, .bool tf, .slice tgo tgn tgc, .slice tio tinn tic, .slice tjo tjn tjc], .int .i64 0]) (by simp [results, Try.results9, go_sem, d0, d1, d2, d3, d4, d5, d6, d7, d8]) rfl ?_
    exact ⟨⟨_, rfl, Hid.mk ((hF.out.set s7 (fun b hb => k7 b (by have := HL.out; omega))).mono (by have := HL.out; omega))⟩, hbz⟩

/-- THE PROGRAM'S Of -/
theorem w_sOf (hv : Nat) (V : VT) (vv : Value) (w : World) (hI : InH w hv V vv) : Calls Try.prog 9 #[vv] w fun e w' => (∃ v, e = .returned (.tuple #[v, .int .i64 (if formN hv V then 0 else 1)]) ∧ Hid (FrT w.heap.size w' 10 (if formN hv V then nrN 8 V else ttNe) v)) ∧ Below w.heap.size w w' := by
  have hI0 := hI
  cases hv with
  | zero => exact hI.elim
  | succ m =>
    obtain ⟨io, icap, ko, kcap, rfl, _⟩ := hI.open
    exact of_step _ _ _ _ _ _ _ _ _ w _ _ (Hid.mk fun u hu => w_vFormed (m + 1) V _ u (hI0.keep hu)) (Hid.mk fun hf u hu => w_near 8 (Nat.le_refl _) (m + 1) V _ u (hI0.keep hu) hf)
end Go.Proofs.Ytdjoelhiahpmlaa
