import Derived.Test.YtdjoelhiahpmlaaGreatM42
import Derived.Test.YtdjoelhiahpmlaaGreatM35
import Derived.Test.YtdjoelhiahpmlaaGreatM43
import Derived.Deep.Cut
namespace Go.Proofs.YtdjoelhiahpmlaaGreat
open Go.RowKit Go.Shelf Go.Sort
set_option linter.unusedVariables false
set_option linter.unusedSimpArgs false
attribute [local go_sem] Oper.semAt_some

set_option maxRecDepth 100000 in
theorem or_rowR0 : ∀ a0 a1 a2 a3 a4 a5 a6 : Bool, bits .or .i64 (kvL [a0, a1, a2, a3, a4, a5, a6]) (wrap64 (2 ^ min (IntKind.u64.wrap (bits .and .i64 0 7)).toNat 64)) = kvL [true, a1, a2, a3, a4, a5, a6] := by decide +kernel
set_option maxRecDepth 100000 in
theorem or_rowR1 : ∀ a0 a1 a2 a3 a4 a5 a6 : Bool, bits .or .i64 (kvL [a0, a1, a2, a3, a4, a5, a6]) (wrap64 (2 ^ min (IntKind.u64.wrap (bits .and .i64 1 7)).toNat 64)) = kvL [a0, true, a2, a3, a4, a5, a6] := by decide +kernel
set_option maxRecDepth 100000 in
theorem or_rowR2 : ∀ a0 a1 a2 a3 a4 a5 a6 : Bool, bits .or .i64 (kvL [a0, a1, a2, a3, a4, a5, a6]) (wrap64 (2 ^ min (IntKind.u64.wrap (bits .and .i64 2 7)).toNat 64)) = kvL [a0, a1, true, a3, a4, a5, a6] := by decide +kernel
set_option maxRecDepth 100000 in
theorem or_rowR3 : ∀ a0 a1 a2 a3 a4 a5 a6 : Bool, bits .or .i64 (kvL [a0, a1, a2, a3, a4, a5, a6]) (wrap64 (2 ^ min (IntKind.u64.wrap (bits .and .i64 3 7)).toNat 64)) = kvL [a0, a1, a2, true, a4, a5, a6] := by decide +kernel
set_option maxRecDepth 100000 in
theorem or_rowR4 : ∀ a0 a1 a2 a3 a4 a5 a6 : Bool, bits .or .i64 (kvL [a0, a1, a2, a3, a4, a5, a6]) (wrap64 (2 ^ min (IntKind.u64.wrap (bits .and .i64 4 7)).toNat 64)) = kvL [a0, a1, a2, a3, true, a5, a6] := by decide +kernel
set_option maxRecDepth 100000 in
theorem or_rowR5 : ∀ a0 a1 a2 a3 a4 a5 a6 : Bool, bits .or .i64 (kvL [a0, a1, a2, a3, a4, a5, a6]) (wrap64 (2 ^ min (IntKind.u64.wrap (bits .and .i64 5 7)).toNat 64)) = kvL [a0, a1, a2, a3, a4, true, a6] := by decide +kernel
set_option maxRecDepth 100000 in
theorem or_rowR6 : ∀ a0 a1 a2 a3 a4 a5 a6 : Bool, bits .or .i64 (kvL [a0, a1, a2, a3, a4, a5, a6]) (wrap64 (2 ^ min (IntKind.u64.wrap (bits .and .i64 6 7)).toNat 64)) = kvL [a0, a1, a2, a3, a4, a5, true] := by decide +kernel
theorem row_upR {its : List VT} {k : Nat} (hk : k < its.length) (hK : isK its[k].kind) : bits .or .i64 (rowK (its.take k)) (wrap64 (2 ^ min (IntKind.u64.wrap (bits .and .i64 its[k].kind 7)).toNat 64)) = rowK (its.take (k + 1)) := by
  unfold rowK
  simp only [anyK_up hk]
  rcases hK with e | e | e | e | e | e | e <;> rw [e]
  · exact (or_rowR0 _ _ _ _ _ _ _).trans (by simp)
  · exact (or_rowR1 _ _ _ _ _ _ _).trans (by simp)
  · exact (or_rowR2 _ _ _ _ _ _ _).trans (by simp)
  · exact (or_rowR3 _ _ _ _ _ _ _).trans (by simp)
  · exact (or_rowR4 _ _ _ _ _ _ _).trans (by simp)
  · exact (or_rowR5 _ _ _ _ _ _ _).trans (by simp)
  · exact (or_rowR6 _ _ _ _ _ _ _).trans (by simp)

set_option maxRecDepth 100000 in
set_option maxHeartbeats 6400000 in
/-- the reference's type of the kinds of some values -/
theorem w_kindsOf (h : Nat) (hh : Nat) (io : Option Addr) (N icap : Nat) (ts : List VT) (w : World) (hi : IIn w h io ts) (hN : ts.length = N) (hcap : N ≤ icap) (hN2 : N ≤ 140737488355328) (hK : ∀ x ∈ ts, isK x.kind) (hh9 : hh ≤ 9) :
    Calls Tryz.prog 46 #[.slice io N icap, .int .i64 (hh : Int)] w fun e w' => (∃ v, e = .returned v ∧ Hid (FrT w.heap.size w' 2 (comN hh ts) v)) ∧ Below w.heap.size w w' := by
  have HI := Hid.mk hi
  have HNN := Hid.mk hN
  have HKK := Hid.mk hK
  have HCO := Hid.mk (com_row hh ts)
  generalize comN hh ts = CT at HCO ⊢
  have HOK := Hid.mk (w_rOfKindsF (rowK ts) (row_rg ts))
  clear hi hN hK
  obtain ⟨W0, hW0⟩ : ∃ W0, w.alloc (.cells #[.bool false, .bool false, .bool false, .bool false, .slice none 0 0, .bool false, .slice none 0 0, .slice none 0 0, .slice none 0 0] 32) = W0 := ⟨_, rfl⟩
  have HB0 : Hid (Below w.heap.size w W0) := by rw [← hW0]; exact (Below.refl _ w).alloc (Nat.le_refl _) _
  have HR0 : Hid (W0.heap[w.heap.size]? = some (.cells #[.bool false, .bool false, .bool false, .bool false, .slice none 0 0, .bool false, .slice none 0 0, .slice none 0 0, .slice none 0 0] 32 (0, 0))) := by show _ = _; rw [← hW0]; exact World.alloc_heap_new w _
  by_cases h1 : hh ≤ 1
  · have hx : (hh : Int) ≤ 1 := by omega
    have HT : Hid (CT = ttEv) := by show _ = _; rw [HCO.out, if_pos h1]
    have g0 := cell_of_row _ _ 0 _ _ _ HR0.out
    have f0 := frozen_row9 (j := 0) HR0.out
    have g1 := cell_of_row _ _ 1 _ _ _ HR0.out
    have f1 := frozen_row9 (j := 1) HR0.out
    have g2 := cell_of_row _ _ 2 _ _ _ HR0.out
    have f2 := frozen_row9 (j := 2) HR0.out
    have g3 := cell_of_row _ _ 3 _ _ _ HR0.out
    have f3 := frozen_row9 (j := 3) HR0.out
    have g4 := cell_of_row _ _ 4 _ _ _ HR0.out
    have f4 := frozen_row9 (j := 4) HR0.out
    have g5 := cell_of_row _ _ 5 _ _ _ HR0.out
    have f5 := frozen_row9 (j := 5) HR0.out
    have g6 := cell_of_row _ _ 6 _ _ _ HR0.out
    have f6 := frozen_row9 (j := 6) HR0.out
    have g7 := cell_of_row _ _ 7 _ _ _ HR0.out
    have f7 := frozen_row9 (j := 7) HR0.out
    have g8 := cell_of_row _ _ 8 _ _ _ HR0.out
    have f8 := frozen_row9 (j := 8) HR0.out
    go_enter Tryz.func46, Tryz.ntmps46
    go_wp2_with fail
    (try simp only [Exit.inBlock, Exit.then])
    generalize hz9 : ((((((((W0.setCell ⟨w.heap.size, 0, none⟩ (.bool true)).setCell ⟨w.heap.size, 1, none⟩ (.bool false)).setCell ⟨w.heap.size, 2, none⟩ (.bool false)).setCell ⟨w.heap.size, 3, none⟩ (.bool false)).setCell ⟨w.heap.size, 4, none⟩ (.slice none 0 0)).setCell ⟨w.heap.size, 5, none⟩ (.bool false)).setCell ⟨w.heap.size, 6, none⟩ (.slice none 0 0)).setCell ⟨w.heap.size, 7, none⟩ (.slice none 0 0)).setCell ⟨w.heap.size, 8, none⟩ (.slice none 0 0) = wz
    obtain ⟨e7, k7, s7⟩ := rbox_set9 W0 _ _ _ _ _ _ _ _ _ _ _ _ _ _ _ _ _ _ _ _ (HR0.out) wz hz9.symm
    have d0 := cell_of_row _ _ 0 _ _ _ e7
    have d1 := cell_of_row _ _ 1 _ _ _ e7
    have d2 := cell_of_row _ _ 2 _ _ _ e7
    have d3 := cell_of_row _ _ 3 _ _ _ e7
    have d4 := cell_of_row _ _ 4 _ _ _ e7
    have d5 := cell_of_row _ _ 5 _ _ _ e7
    have d6 := cell_of_row _ _ 6 _ _ _ e7
    have d7 := cell_of_row _ _ 7 _ _ _ e7
    have d8 := cell_of_row _ _ 8 _ _ _ e7
    have hbz : Below w.heap.size w wz := by rw [← hz9]; exact (((((((((HB0.out.setCell (p := ⟨w.heap.size, 0, none⟩) (by show w.heap.size ≤ w.heap.size; omega) _).setCell (p := ⟨w.heap.size, 1, none⟩) (by show w.heap.size ≤ w.heap.size; omega) _).setCell (p := ⟨w.heap.size, 2, none⟩) (by show w.heap.size ≤ w.heap.size; omega) _).setCell (p := ⟨w.heap.size, 3, none⟩) (by show w.heap.size ≤ w.heap.size; omega) _).setCell (p := ⟨w.heap.size, 4, none⟩) (by show w.heap.size ≤ w.heap.size; omega) _).setCell (p := ⟨w.heap.size, 5, none⟩) (by show w.heap.size ≤ w.heap.size; omega) _).setCell (p := ⟨w.heap.size, 6, none⟩) (by show w.heap.size ≤ w.heap.size; omega) _).setCell (p := ⟨w.heap.size, 7, none⟩) (by show w.heap.size ≤ w.heap.size; omega) _).setCell (p := ⟨w.heap.size, 8, none⟩) (by show w.heap.size ≤ w.heap.size; omega) _)
    refine bodyPost_ret (v := .agg #[.bool true, .bool false, .bool false, .bool false, .slice none 0 0, .bool false, .slice none 0 0, .slice none 0 0, .slice none 0 0]) (by simp [results, Tryz.results46, go_sem, d0, d1, d2, d3, d4, d5, d6, d7, d8]) rfl ?_
    exact ⟨⟨_, rfl, by rw [HT.out]; exact Hid.mk (fun x _ _ => inT_evr x 1)⟩, hbz⟩
  · have hx : ¬ (hh : Int) ≤ 1 := by omega
    have HT : Hid (CT = widT (rowK ts)) := by show _ = _; rw [HCO.out, if_neg h1]
    go_enter Tryz.func46, Tryz.ntmps46
    go_wp2_with fail
    go_loopw [5, 6] (fun r i wr => ∃ k : Nat, k ≤ N ∧ i = .int .i64 (k : Int) ∧ (∃ rv, r = .int .i64 rv ∧ Hid (rv = rowK (ts.take k))) ∧ Hid (Below w.heap.size w wr) ∧ Hid (wr.heap[w.heap.size]? = some (.cells #[.bool false, .bool false, .bool false, .bool false, .slice none 0 0, .bool false, .slice none 0 0, .slice none 0 0, .slice none 0 0] 32 (0, 0)))) (fun _ i _ => N - (intOf i).toNat)
    case atStart => exact ⟨0, Nat.zero_le _, rfl, ⟨0, rfl, by show _ = _; rw [List.take_zero, row_nil]⟩, HB0, HR0⟩
    case round =>
      obtain ⟨k, hk, rfl, ⟨rv, rfl, HRV⟩, HB, HR⟩ := hrel
      by_cases hlt : k < N
      · have hl1 : (k : Int) < (N : Int) := by omega
        have hkl : k < ts.length := by rw [HNN.out]; exact hlt
        obtain ⟨b, off, hio, hbl, hrow⟩ := (HI.out.keep HB.out).row (by omega)
        subst hio
        obtain ⟨v0, v1, v2, v3, v4, ⟨c0, c1, c2, c3, c4⟩, ht⟩ := hrow k hkl
        obtain ⟨ik, inm, itx, iio, iN, iicap, iko, iK, ikcap, rfl, rfl, rfl, rfl, rfl⟩ := ht.shape
        have hkd : ik = ts[k].kind := by
          cases h with
          | zero => exact ht.elim
          | succ h =>
            obtain ⟨_, _, _, _, e, _⟩ := ht
            simp only [Value.agg.injEq, Array.mk.injEq, List.cons.injEq, Value.int.injEq] at e
            exact e.1.2
        have HU : Hid (bits .or .i64 rv (wrap64 (2 ^ min (IntKind.u64.wrap (bits .and .i64 ik 7)).toNat 64)) = rowK (ts.take (k + 1))) := by show _ = _; rw [HRV.out, hkd]; exact row_upR hkl (HKK.out _ (List.getElem_mem _))
        have hsh : ¬ IntKind.u64.wrap (bits .and .i64 ik 7) < 0 := by rcases hkd ▸ HKK.out _ (List.getElem_mem hkl) with e | e | e | e | e | e | e <;> (rw [e]; decide +kernel)
        clear hrow hbl ht hkl hkd
        go_wp2_with fail
        go_roundw
        case rel => exact ⟨k + 1, hlt, by go_num, ⟨_, rfl, HU⟩, HB, HR⟩
        case measure => simp [intOf]; omega
      · have hl1 : ¬ (k : Int) < (N : Int) := by omega
        have hrv : rv = rowK ts := by
          have e := HRV.out
          rw [List.take_of_length_le (by rw [HNN.out]; omega)] at e
          exact e
        subst hrv
        go_wp2_with fail
        refine (HOK.out _).mono ?_
        rintro e w3 ⟨⟨vw, rfl, hF⟩, hq⟩
        have HB3 := Hid.mk (HB.out.trans (hq.mono HB.out.size))
        have HR3 : Hid (w3.heap[w.heap.size]? = _) := (hq.block _ (lt_of_row HR.out)).trans HR.out
        have HL := Hid.mk (lt_of_row HR.out)
        clear hq
        have hF2 := hF.out.here
        obtain ⟨ta, tb, tc, td, ⟨teo, ten, tec⟩, tf, ⟨tgo, tgn, tgc⟩, ⟨tio, tinn, tic⟩, ⟨tjo, tjn, tjc⟩, esht⟩ := inT_shape hF2
        simp only [Value.agg.injEq, Array.mk.injEq, List.cons.injEq, and_true] at esht
        obtain ⟨rfl, rfl, rfl, rfl, rfl, rfl, rfl, rfl, rfl⟩ := esht
        clear hF2
        have g0 := cell_of_row _ _ 0 _ _ _ HR3.out
        have f0 := frozen_row9 (j := 0) HR3.out
        have g1 := cell_of_row _ _ 1 _ _ _ HR3.out
        have f1 := frozen_row9 (j := 1) HR3.out
        have g2 := cell_of_row _ _ 2 _ _ _ HR3.out
        have f2 := frozen_row9 (j := 2) HR3.out
        have g3 := cell_of_row _ _ 3 _ _ _ HR3.out
        have f3 := frozen_row9 (j := 3) HR3.out
        have g4 := cell_of_row _ _ 4 _ _ _ HR3.out
        have f4 := frozen_row9 (j := 4) HR3.out
        have g5 := cell_of_row _ _ 5 _ _ _ HR3.out
        have f5 := frozen_row9 (j := 5) HR3.out
        have g6 := cell_of_row _ _ 6 _ _ _ HR3.out
        have f6 := frozen_row9 (j := 6) HR3.out
        have g7 := cell_of_row _ _ 7 _ _ _ HR3.out
        have f7 := frozen_row9 (j := 7) HR3.out
        have g8 := cell_of_row _ _ 8 _ _ _ HR3.out
        have f8 := frozen_row9 (j := 8) HR3.out
        go_wp2_with fail
        (try simp only [Exit.inBlock, Exit.then])
        generalize hz9 : ((((((((w3.setCell ⟨w.heap.size, 0, none⟩ (.bool ta)).setCell ⟨w.heap.size, 1, none⟩ (.bool tb)).setCell ⟨w.heap.size, 2, none⟩ (.bool tc)).setCell ⟨w.heap.size, 3, none⟩ (.bool td)).setCell ⟨w.heap.size, 4, none⟩ (.slice teo ten tec)).setCell ⟨w.heap.size, 5, none⟩ (.bool tf)).setCell ⟨w.heap.size, 6, none⟩ (.slice tgo tgn tgc)).setCell ⟨w.heap.size, 7, none⟩ (.slice tio tinn tic)).setCell ⟨w.heap.size, 8, none⟩ (.slice tjo tjn tjc) = wz
        obtain ⟨e7, k7, s7⟩ := rbox_set9 w3 _ _ _ _ _ _ _ _ _ _ _ _ _ _ _ _ _ _ _ _ (HR3.out) wz hz9.symm
        have d0 := cell_of_row _ _ 0 _ _ _ e7
        have d1 := cell_of_row _ _ 1 _ _ _ e7
        have d2 := cell_of_row _ _ 2 _ _ _ e7
        have d3 := cell_of_row _ _ 3 _ _ _ e7
        have d4 := cell_of_row _ _ 4 _ _ _ e7
        have d5 := cell_of_row _ _ 5 _ _ _ e7
        have d6 := cell_of_row _ _ 6 _ _ _ e7
        have d7 := cell_of_row _ _ 7 _ _ _ e7
        have d8 := cell_of_row _ _ 8 _ _ _ e7
        have hbz : Below w.heap.size w wz := by rw [← hz9]; exact (((((((((HB3.out.setCell (p := ⟨w.heap.size, 0, none⟩) (by show w.heap.size ≤ w.heap.size; omega) _).setCell (p := ⟨w.heap.size, 1, none⟩) (by show w.heap.size ≤ w.heap.size; omega) _).setCell (p := ⟨w.heap.size, 2, none⟩) (by show w.heap.size ≤ w.heap.size; omega) _).setCell (p := ⟨w.heap.size, 3, none⟩) (by show w.heap.size ≤ w.heap.size; omega) _).setCell (p := ⟨w.heap.size, 4, none⟩) (by show w.heap.size ≤ w.heap.size; omega) _).setCell (p := ⟨w.heap.size, 5, none⟩) (by show w.heap.size ≤ w.heap.size; omega) _).setCell (p := ⟨w.heap.size, 6, none⟩) (by show w.heap.size ≤ w.heap.size; omega) _).setCell (p := ⟨w.heap.size, 7, none⟩) (by show w.heap.size ≤ w.heap.size; omega) _).setCell (p := ⟨w.heap.size, 8, none⟩) (by show w.heap.size ≤ w.heap.size; omega) _)
        refine bodyPost_ret (v := .agg #[.bool ta, .bool tb, .bool tc, .bool td, .slice teo ten tec, .bool tf, .slice tgo tgn tgc, .slice tio tinn tic, .slice tjo tjn tjc]) (by simp [results, Tryz.results46, go_sem, d0, d1, d2, d3, d4, d5, d6, d7, d8]) rfl ?_
        exact ⟨⟨_, rfl, by rw [HT.out]; exact Hid.mk (((hF.out.set s7 (fun b hb => k7 b (by have := HL.out; omega))).mono (by have := HL.out; omega)))⟩, hbz⟩
end Go.Proofs.YtdjoelhiahpmlaaGreat
namespace Go.Proofs.YtdjoelhiahpmlaaGreat
open Go.RowKit Go.Shelf Go.Sort
set_option linter.unusedVariables false
set_option linter.unusedSimpArgs false
attribute [local go_sem] Oper.semAt_some

theorem inT_fl (W : World) (h : Nat) (a b c : Bool) : InT W (h + 1) (.mk false a b c false [] [] [] []) (.agg #[.bool false, .bool a, .bool b, .bool c, .slice none 0 0, .bool false, .slice none 0 0, .slice none 0 0, .slice none 0 0]) :=
  ⟨none, 0, none, 0, none, 0, none, 0, rfl, ⟨Nat.le_refl _, Nat.le_refl _, Nat.le_refl _, Nat.le_refl _⟩, ⟨Nat.zero_le _, Nat.zero_le _, Nat.zero_le _, Nat.zero_le _⟩, fun p hp => absurd hp (List.not_mem_nil), fun p hp => absurd hp (List.not_mem_nil), ⟨fun h => absurd h (Nat.lt_irrefl 0)⟩, ⟨fun h => absurd h (Nat.lt_irrefl 0)⟩, fun h => absurd h (Nat.lt_irrefl 0), fun h => absurd h (Nat.lt_irrefl 0)⟩
/-- the reference's near answers so at a height -/
def NrR (h : Nat) : Prop := ∀ (hv : Nat) (V : VT) (vv : Value) (u : World), InH u hv V vv → formN hv V = true → Calls Tryz.prog 18 #[vv, .int .i64 (h : Int)] u fun e w' => (∃ v, e = .returned v ∧ Hid (FrT u.heap.size w' (h + 2) (nrN h V) v)) ∧ Below u.heap.size u w'

set_option maxRecDepth 100000 in
set_option maxHeartbeats 3200000 in
theorem rnear_k0 (m : Nat) (nm tx : ByteArray) (io : Option Addr) (NI icap : Nat) (ko : Option Addr) (NK kcap : Nat) (h : Int) (w : World) : Calls Tryz.prog 18 #[.agg #[.int .i64 0, .string nm, .string tx, .slice io NI icap, .slice ko NK kcap], .int .i64 h] w fun e w' => (∃ v, e = .returned v ∧ Hid (FrT w.heap.size w' (m + 1) (.mk false true false false false [] [] [] []) v)) ∧ Below w.heap.size w w' := by
  obtain ⟨W0, hW0⟩ : ∃ W0, (w.alloc (.cells #[.int .i64 0, .string nm, .string tx, .slice io NI icap, .slice ko NK kcap] 25)).alloc (.cells #[.bool false, .bool false, .bool false, .bool false, .slice none 0 0, .bool false, .slice none 0 0, .slice none 0 0, .slice none 0 0] 32) = W0 := ⟨_, rfl⟩
  have HB0 : Hid (Below w.heap.size w W0) := by rw [← hW0]; exact ((Below.refl _ w).alloc (Nat.le_refl _) _).alloc (by simp) _
  have HR0 : Hid (W0.heap[w.heap.size + 1]? = some (.cells #[.bool false, .bool false, .bool false, .bool false, .slice none 0 0, .bool false, .slice none 0 0, .slice none 0 0, .slice none 0 0] 32 (0, 0))) := by
    show _ = _
    rw [← hW0]
    have h := World.alloc_heap_new (w.alloc (.cells #[.int .i64 0, .string nm, .string tx, .slice io NI icap, .slice ko NK kcap] 25)) (.cells #[.bool false, .bool false, .bool false, .bool false, .slice none 0 0, .bool false, .slice none 0 0, .slice none 0 0, .slice none 0 0] 32)
    rw [World.size_alloc] at h
    exact h
  have HV0 : Hid (W0.heap[w.heap.size]? = some (.cells #[.int .i64 0, .string nm, .string tx, .slice io NI icap, .slice ko NK kcap] 25 (0, 0))) := by
    show _ = _
    rw [← hW0]
    exact (Below.heap_alloc _ _ _ (by simp)).trans (World.alloc_heap_new w _)
  have c0 := cell_of_row _ _ 0 _ _ _ HV0.out
  have c1 := cell_of_row _ _ 1 _ _ _ HV0.out
  have c2 := cell_of_row _ _ 2 _ _ _ HV0.out
  have c3 := cell_of_row _ _ 3 _ _ _ HV0.out
  have c4 := cell_of_row _ _ 4 _ _ _ HV0.out
  have g0 := cell_of_row _ _ 0 _ _ _ HR0.out
  have f0 := frozen_row9 (j := 0) HR0.out
  have g1 := cell_of_row _ _ 1 _ _ _ HR0.out
  have f1 := frozen_row9 (j := 1) HR0.out
  have g2 := cell_of_row _ _ 2 _ _ _ HR0.out
  have f2 := frozen_row9 (j := 2) HR0.out
  have g3 := cell_of_row _ _ 3 _ _ _ HR0.out
  have f3 := frozen_row9 (j := 3) HR0.out
  have g4 := cell_of_row _ _ 4 _ _ _ HR0.out
  have f4 := frozen_row9 (j := 4) HR0.out
  have g5 := cell_of_row _ _ 5 _ _ _ HR0.out
  have f5 := frozen_row9 (j := 5) HR0.out
  have g6 := cell_of_row _ _ 6 _ _ _ HR0.out
  have f6 := frozen_row9 (j := 6) HR0.out
  have g7 := cell_of_row _ _ 7 _ _ _ HR0.out
  have f7 := frozen_row9 (j := 7) HR0.out
  have g8 := cell_of_row _ _ 8 _ _ _ HR0.out
  have f8 := frozen_row9 (j := 8) HR0.out
  go_enter Tryz.func18, Tryz.ntmps18
  go_wp2_with fail
  (try simp only [Exit.inBlock, Exit.then])
  generalize hz9 : ((((((((W0.setCell ⟨w.heap.size + 1, 0, none⟩ (.bool false)).setCell ⟨w.heap.size + 1, 1, none⟩ (.bool true)).setCell ⟨w.heap.size + 1, 2, none⟩ (.bool false)).setCell ⟨w.heap.size + 1, 3, none⟩ (.bool false)).setCell ⟨w.heap.size + 1, 4, none⟩ (.slice none 0 0)).setCell ⟨w.heap.size + 1, 5, none⟩ (.bool false)).setCell ⟨w.heap.size + 1, 6, none⟩ (.slice none 0 0)).setCell ⟨w.heap.size + 1, 7, none⟩ (.slice none 0 0)).setCell ⟨w.heap.size + 1, 8, none⟩ (.slice none 0 0) = wz
  obtain ⟨e7, k7, s7⟩ := rbox_set9 W0 _ _ _ _ _ _ _ _ _ _ _ _ _ _ _ _ _ _ _ _ (HR0.out) wz hz9.symm
  have d0 := cell_of_row _ _ 0 _ _ _ e7
  have d1 := cell_of_row _ _ 1 _ _ _ e7
  have d2 := cell_of_row _ _ 2 _ _ _ e7
  have d3 := cell_of_row _ _ 3 _ _ _ e7
  have d4 := cell_of_row _ _ 4 _ _ _ e7
  have d5 := cell_of_row _ _ 5 _ _ _ e7
  have d6 := cell_of_row _ _ 6 _ _ _ e7
  have d7 := cell_of_row _ _ 7 _ _ _ e7
  have d8 := cell_of_row _ _ 8 _ _ _ e7
  have hbz : Below w.heap.size w wz := by rw [← hz9]; exact (((((((((HB0.out.setCell (p := ⟨w.heap.size + 1, 0, none⟩) (by show w.heap.size ≤ w.heap.size + 1; omega) _).setCell (p := ⟨w.heap.size + 1, 1, none⟩) (by show w.heap.size ≤ w.heap.size + 1; omega) _).setCell (p := ⟨w.heap.size + 1, 2, none⟩) (by show w.heap.size ≤ w.heap.size + 1; omega) _).setCell (p := ⟨w.heap.size + 1, 3, none⟩) (by show w.heap.size ≤ w.heap.size + 1; omega) _).setCell (p := ⟨w.heap.size + 1, 4, none⟩) (by show w.heap.size ≤ w.heap.size + 1; omega) _).setCell (p := ⟨w.heap.size + 1, 5, none⟩) (by show w.heap.size ≤ w.heap.size + 1; omega) _).setCell (p := ⟨w.heap.size + 1, 6, none⟩) (by show w.heap.size ≤ w.heap.size + 1; omega) _).setCell (p := ⟨w.heap.size + 1, 7, none⟩) (by show w.heap.size ≤ w.heap.size + 1; omega) _).setCell (p := ⟨w.heap.size + 1, 8, none⟩) (by show w.heap.size ≤ w.heap.size + 1; omega) _)
  refine bodyPost_ret (v := .agg #[.bool false, .bool true, .bool false, .bool false, .slice none 0 0, .bool false, .slice none 0 0, .slice none 0 0, .slice none 0 0]) (by simp [results, Tryz.results18, go_sem, d0, d1, d2, d3, d4, d5, d6, d7, d8]) rfl ?_
  exact ⟨⟨_, rfl, Hid.mk (fun x _ _ => inT_fl x m true false false)⟩, hbz⟩

set_option maxRecDepth 100000 in
set_option maxHeartbeats 3200000 in
theorem rnear_k1 (m : Nat) (nm tx : ByteArray) (io : Option Addr) (NI icap : Nat) (ko : Option Addr) (NK kcap : Nat) (h : Int) (w : World) : Calls Tryz.prog 18 #[.agg #[.int .i64 1, .string nm, .string tx, .slice io NI icap, .slice ko NK kcap], .int .i64 h] w fun e w' => (∃ v, e = .returned v ∧ Hid (FrT w.heap.size w' (m + 1) (.mk false false true false false [] [] [] []) v)) ∧ Below w.heap.size w w' := by
  obtain ⟨W0, hW0⟩ : ∃ W0, (w.alloc (.cells #[.int .i64 1, .string nm, .string tx, .slice io NI icap, .slice ko NK kcap] 25)).alloc (.cells #[.bool false, .bool false, .bool false, .bool false, .slice none 0 0, .bool false, .slice none 0 0, .slice none 0 0, .slice none 0 0] 32) = W0 := ⟨_, rfl⟩
  have HB0 : Hid (Below w.heap.size w W0) := by rw [← hW0]; exact ((Below.refl _ w).alloc (Nat.le_refl _) _).alloc (by simp) _
  have HR0 : Hid (W0.heap[w.heap.size + 1]? = some (.cells #[.bool false, .bool false, .bool false, .bool false, .slice none 0 0, .bool false, .slice none 0 0, .slice none 0 0, .slice none 0 0] 32 (0, 0))) := by
    show _ = _
    rw [← hW0]
    have h := World.alloc_heap_new (w.alloc (.cells #[.int .i64 1, .string nm, .string tx, .slice io NI icap, .slice ko NK kcap] 25)) (.cells #[.bool false, .bool false, .bool false, .bool false, .slice none 0 0, .bool false, .slice none 0 0, .slice none 0 0, .slice none 0 0] 32)
    rw [World.size_alloc] at h
    exact h
  have HV0 : Hid (W0.heap[w.heap.size]? = some (.cells #[.int .i64 1, .string nm, .string tx, .slice io NI icap, .slice ko NK kcap] 25 (0, 0))) := by
    show _ = _
    rw [← hW0]
    exact (Below.heap_alloc _ _ _ (by simp)).trans (World.alloc_heap_new w _)
  have c0 := cell_of_row _ _ 0 _ _ _ HV0.out
  have c1 := cell_of_row _ _ 1 _ _ _ HV0.out
  have c2 := cell_of_row _ _ 2 _ _ _ HV0.out
  have c3 := cell_of_row _ _ 3 _ _ _ HV0.out
  have c4 := cell_of_row _ _ 4 _ _ _ HV0.out
  have g0 := cell_of_row _ _ 0 _ _ _ HR0.out
  have f0 := frozen_row9 (j := 0) HR0.out
  have g1 := cell_of_row _ _ 1 _ _ _ HR0.out
  have f1 := frozen_row9 (j := 1) HR0.out
  have g2 := cell_of_row _ _ 2 _ _ _ HR0.out
  have f2 := frozen_row9 (j := 2) HR0.out
  have g3 := cell_of_row _ _ 3 _ _ _ HR0.out
  have f3 := frozen_row9 (j := 3) HR0.out
  have g4 := cell_of_row _ _ 4 _ _ _ HR0.out
  have f4 := frozen_row9 (j := 4) HR0.out
  have g5 := cell_of_row _ _ 5 _ _ _ HR0.out
  have f5 := frozen_row9 (j := 5) HR0.out
  have g6 := cell_of_row _ _ 6 _ _ _ HR0.out
  have f6 := frozen_row9 (j := 6) HR0.out
  have g7 := cell_of_row _ _ 7 _ _ _ HR0.out
  have f7 := frozen_row9 (j := 7) HR0.out
  have g8 := cell_of_row _ _ 8 _ _ _ HR0.out
  have f8 := frozen_row9 (j := 8) HR0.out
  go_enter Tryz.func18, Tryz.ntmps18
  go_wp2_with fail
  (try simp only [Exit.inBlock, Exit.then])
  generalize hz9 : ((((((((W0.setCell ⟨w.heap.size + 1, 0, none⟩ (.bool false)).setCell ⟨w.heap.size + 1, 1, none⟩ (.bool false)).setCell ⟨w.heap.size + 1, 2, none⟩ (.bool true)).setCell ⟨w.heap.size + 1, 3, none⟩ (.bool false)).setCell ⟨w.heap.size + 1, 4, none⟩ (.slice none 0 0)).setCell ⟨w.heap.size + 1, 5, none⟩ (.bool false)).setCell ⟨w.heap.size + 1, 6, none⟩ (.slice none 0 0)).setCell ⟨w.heap.size + 1, 7, none⟩ (.slice none 0 0)).setCell ⟨w.heap.size + 1, 8, none⟩ (.slice none 0 0) = wz
  obtain ⟨e7, k7, s7⟩ := rbox_set9 W0 _ _ _ _ _ _ _ _ _ _ _ _ _ _ _ _ _ _ _ _ (HR0.out) wz hz9.symm
  have d0 := cell_of_row _ _ 0 _ _ _ e7
  have d1 := cell_of_row _ _ 1 _ _ _ e7
  have d2 := cell_of_row _ _ 2 _ _ _ e7
  have d3 := cell_of_row _ _ 3 _ _ _ e7
  have d4 := cell_of_row _ _ 4 _ _ _ e7
  have d5 := cell_of_row _ _ 5 _ _ _ e7
  have d6 := cell_of_row _ _ 6 _ _ _ e7
  have d7 := cell_of_row _ _ 7 _ _ _ e7
  have d8 := cell_of_row _ _ 8 _ _ _ e7
  have hbz : Below w.heap.size w wz := by rw [← hz9]; exact (((((((((HB0.out.setCell (p := ⟨w.heap.size + 1, 0, none⟩) (by show w.heap.size ≤ w.heap.size + 1; omega) _).setCell (p := ⟨w.heap.size + 1, 1, none⟩) (by show w.heap.size ≤ w.heap.size + 1; omega) _).setCell (p := ⟨w.heap.size + 1, 2, none⟩) (by show w.heap.size ≤ w.heap.size + 1; omega) _).setCell (p := ⟨w.heap.size + 1, 3, none⟩) (by show w.heap.size ≤ w.heap.size + 1; omega) _).setCell (p := ⟨w.heap.size + 1, 4, none⟩) (by show w.heap.size ≤ w.heap.size + 1; omega) _).setCell (p := ⟨w.heap.size + 1, 5, none⟩) (by show w.heap.size ≤ w.heap.size + 1; omega) _).setCell (p := ⟨w.heap.size + 1, 6, none⟩) (by show w.heap.size ≤ w.heap.size + 1; omega) _).setCell (p := ⟨w.heap.size + 1, 7, none⟩) (by show w.heap.size ≤ w.heap.size + 1; omega) _).setCell (p := ⟨w.heap.size + 1, 8, none⟩) (by show w.heap.size ≤ w.heap.size + 1; omega) _)
  refine bodyPost_ret (v := .agg #[.bool false, .bool false, .bool true, .bool false, .slice none 0 0, .bool false, .slice none 0 0, .slice none 0 0, .slice none 0 0]) (by simp [results, Tryz.results18, go_sem, d0, d1, d2, d3, d4, d5, d6, d7, d8]) rfl ?_
  exact ⟨⟨_, rfl, Hid.mk (fun x _ _ => inT_fl x m false true false)⟩, hbz⟩

set_option maxRecDepth 100000 in
set_option maxHeartbeats 3200000 in
theorem rnear_k2 (m : Nat) (nm tx : ByteArray) (io : Option Addr) (NI icap : Nat) (ko : Option Addr) (NK kcap : Nat) (h : Int) (w : World) : Calls Tryz.prog 18 #[.agg #[.int .i64 2, .string nm, .string tx, .slice io NI icap, .slice ko NK kcap], .int .i64 h] w fun e w' => (∃ v, e = .returned v ∧ Hid (FrT w.heap.size w' (m + 1) (.mk false false false true false [] [] [] []) v)) ∧ Below w.heap.size w w' := by
  obtain ⟨W0, hW0⟩ : ∃ W0, (w.alloc (.cells #[.int .i64 2, .string nm, .string tx, .slice io NI icap, .slice ko NK kcap] 25)).alloc (.cells #[.bool false, .bool false, .bool false, .bool false, .slice none 0 0, .bool false, .slice none 0 0, .slice none 0 0, .slice none 0 0] 32) = W0 := ⟨_, rfl⟩
  have HB0 : Hid (Below w.heap.size w W0) := by rw [← hW0]; exact ((Below.refl _ w).alloc (Nat.le_refl _) _).alloc (by simp) _
  have HR0 : Hid (W0.heap[w.heap.size + 1]? = some (.cells #[.bool false, .bool false, .bool false, .bool false, .slice none 0 0, .bool false, .slice none 0 0, .slice none 0 0, .slice none 0 0] 32 (0, 0))) := by
    show _ = _
    rw [← hW0]
    have h := World.alloc_heap_new (w.alloc (.cells #[.int .i64 2, .string nm, .string tx, .slice io NI icap, .slice ko NK kcap] 25)) (.cells #[.bool false, .bool false, .bool false, .bool false, .slice none 0 0, .bool false, .slice none 0 0, .slice none 0 0, .slice none 0 0] 32)
    rw [World.size_alloc] at h
    exact h
  have HV0 : Hid (W0.heap[w.heap.size]? = some (.cells #[.int .i64 2, .string nm, .string tx, .slice io NI icap, .slice ko NK kcap] 25 (0, 0))) := by
    show _ = _
    rw [← hW0]
    exact (Below.heap_alloc _ _ _ (by simp)).trans (World.alloc_heap_new w _)
  have c0 := cell_of_row _ _ 0 _ _ _ HV0.out
  have c1 := cell_of_row _ _ 1 _ _ _ HV0.out
  have c2 := cell_of_row _ _ 2 _ _ _ HV0.out
  have c3 := cell_of_row _ _ 3 _ _ _ HV0.out
  have c4 := cell_of_row _ _ 4 _ _ _ HV0.out
  have g0 := cell_of_row _ _ 0 _ _ _ HR0.out
  have f0 := frozen_row9 (j := 0) HR0.out
  have g1 := cell_of_row _ _ 1 _ _ _ HR0.out
  have f1 := frozen_row9 (j := 1) HR0.out
  have g2 := cell_of_row _ _ 2 _ _ _ HR0.out
  have f2 := frozen_row9 (j := 2) HR0.out
  have g3 := cell_of_row _ _ 3 _ _ _ HR0.out
  have f3 := frozen_row9 (j := 3) HR0.out
  have g4 := cell_of_row _ _ 4 _ _ _ HR0.out
  have f4 := frozen_row9 (j := 4) HR0.out
  have g5 := cell_of_row _ _ 5 _ _ _ HR0.out
  have f5 := frozen_row9 (j := 5) HR0.out
  have g6 := cell_of_row _ _ 6 _ _ _ HR0.out
  have f6 := frozen_row9 (j := 6) HR0.out
  have g7 := cell_of_row _ _ 7 _ _ _ HR0.out
  have f7 := frozen_row9 (j := 7) HR0.out
  have g8 := cell_of_row _ _ 8 _ _ _ HR0.out
  have f8 := frozen_row9 (j := 8) HR0.out
  go_enter Tryz.func18, Tryz.ntmps18
  go_wp2_with fail
  (try simp only [Exit.inBlock, Exit.then])
  generalize hz9 : ((((((((W0.setCell ⟨w.heap.size + 1, 0, none⟩ (.bool false)).setCell ⟨w.heap.size + 1, 1, none⟩ (.bool false)).setCell ⟨w.heap.size + 1, 2, none⟩ (.bool false)).setCell ⟨w.heap.size + 1, 3, none⟩ (.bool true)).setCell ⟨w.heap.size + 1, 4, none⟩ (.slice none 0 0)).setCell ⟨w.heap.size + 1, 5, none⟩ (.bool false)).setCell ⟨w.heap.size + 1, 6, none⟩ (.slice none 0 0)).setCell ⟨w.heap.size + 1, 7, none⟩ (.slice none 0 0)).setCell ⟨w.heap.size + 1, 8, none⟩ (.slice none 0 0) = wz
  obtain ⟨e7, k7, s7⟩ := rbox_set9 W0 _ _ _ _ _ _ _ _ _ _ _ _ _ _ _ _ _ _ _ _ (HR0.out) wz hz9.symm
  have d0 := cell_of_row _ _ 0 _ _ _ e7
  have d1 := cell_of_row _ _ 1 _ _ _ e7
  have d2 := cell_of_row _ _ 2 _ _ _ e7
  have d3 := cell_of_row _ _ 3 _ _ _ e7
  have d4 := cell_of_row _ _ 4 _ _ _ e7
  have d5 := cell_of_row _ _ 5 _ _ _ e7
  have d6 := cell_of_row _ _ 6 _ _ _ e7
  have d7 := cell_of_row _ _ 7 _ _ _ e7
  have d8 := cell_of_row _ _ 8 _ _ _ e7
  have hbz : Below w.heap.size w wz := by rw [← hz9]; exact (((((((((HB0.out.setCell (p := ⟨w.heap.size + 1, 0, none⟩) (by show w.heap.size ≤ w.heap.size + 1; omega) _).setCell (p := ⟨w.heap.size + 1, 1, none⟩) (by show w.heap.size ≤ w.heap.size + 1; omega) _).setCell (p := ⟨w.heap.size + 1, 2, none⟩) (by show w.heap.size ≤ w.heap.size + 1; omega) _).setCell (p := ⟨w.heap.size + 1, 3, none⟩) (by show w.heap.size ≤ w.heap.size + 1; omega) _).setCell (p := ⟨w.heap.size + 1, 4, none⟩) (by show w.heap.size ≤ w.heap.size + 1; omega) _).setCell (p := ⟨w.heap.size + 1, 5, none⟩) (by show w.heap.size ≤ w.heap.size + 1; omega) _).setCell (p := ⟨w.heap.size + 1, 6, none⟩) (by show w.heap.size ≤ w.heap.size + 1; omega) _).setCell (p := ⟨w.heap.size + 1, 7, none⟩) (by show w.heap.size ≤ w.heap.size + 1; omega) _).setCell (p := ⟨w.heap.size + 1, 8, none⟩) (by show w.heap.size ≤ w.heap.size + 1; omega) _)
  refine bodyPost_ret (v := .agg #[.bool false, .bool false, .bool false, .bool true, .slice none 0 0, .bool false, .slice none 0 0, .slice none 0 0, .slice none 0 0]) (by simp [results, Tryz.results18, go_sem, d0, d1, d2, d3, d4, d5, d6, d7, d8]) rfl ?_
  exact ⟨⟨_, rfl, Hid.mk (fun x _ _ => inT_fl x m false false true)⟩, hbz⟩

set_option maxRecDepth 100000 in
set_option maxHeartbeats 3200000 in
theorem rnear_num (m : Nat) (nm tx : ByteArray) (io : Option Addr) (NI icap : Nat) (ko : Option Addr) (NK kcap : Nat) (hn : nm.size ≤ 140737488355328) (h : Int) (w : World) : Calls Tryz.prog 18 #[.agg #[.int .i64 3, .string nm, .string tx, .slice io NI icap, .slice ko NK kcap], .int .i64 h] w fun e w' => (∃ v, e = .returned v ∧ Hid (FrT w.heap.size w' (m + 1) (.mk false false false false false [(nm, nm)] [] [] []) v)) ∧ Below w.heap.size w w' := by
  obtain ⟨W0, hW0⟩ : ∃ W0, (w.alloc (.cells #[.int .i64 3, .string nm, .string tx, .slice io NI icap, .slice ko NK kcap] 25)).alloc (.cells #[.bool false, .bool false, .bool false, .bool false, .slice none 0 0, .bool false, .slice none 0 0, .slice none 0 0, .slice none 0 0] 32) = W0 := ⟨_, rfl⟩
  have HB0 : Hid (Below w.heap.size w W0) := by rw [← hW0]; exact ((Below.refl _ w).alloc (Nat.le_refl _) _).alloc (by simp) _
  have HR0 : Hid (W0.heap[w.heap.size + 1]? = some (.cells #[.bool false, .bool false, .bool false, .bool false, .slice none 0 0, .bool false, .slice none 0 0, .slice none 0 0, .slice none 0 0] 32 (0, 0))) := by
    show _ = _
    rw [← hW0]
    have h := World.alloc_heap_new (w.alloc (.cells #[.int .i64 3, .string nm, .string tx, .slice io NI icap, .slice ko NK kcap] 25)) (.cells #[.bool false, .bool false, .bool false, .bool false, .slice none 0 0, .bool false, .slice none 0 0, .slice none 0 0, .slice none 0 0] 32)
    rw [World.size_alloc] at h
    exact h
  have HV0 : Hid (W0.heap[w.heap.size]? = some (.cells #[.int .i64 3, .string nm, .string tx, .slice io NI icap, .slice ko NK kcap] 25 (0, 0))) := by
    show _ = _
    rw [← hW0]
    exact (Below.heap_alloc _ _ _ (by simp)).trans (World.alloc_heap_new w _)
  have c0 := cell_of_row _ _ 0 _ _ _ HV0.out
  have c1 := cell_of_row _ _ 1 _ _ _ HV0.out
  have c2 := cell_of_row _ _ 2 _ _ _ HV0.out
  have c3 := cell_of_row _ _ 3 _ _ _ HV0.out
  have c4 := cell_of_row _ _ 4 _ _ _ HV0.out
  obtain ⟨W4, hW4⟩ : ∃ W4, W0.alloc (.cells #[.string nm, .string nm] 44) = W4 := ⟨_, rfl⟩
  have hb4 : Below W0.heap.size W0 W4 := by rw [← hW4]; exact below1 W0 _
  have HB4 := Hid.mk (HB0.out.trans (hb4.mono HB0.out.size))
  have HR4 : Hid (W4.heap[w.heap.size + 1]? = _) := (hb4.block _ (lt_of_row HR0.out)).trans HR0.out
  have HS0 : Hid (W0.heap.size = w.heap.size + 2) := by show _ = _; rw [← hW0]; simp
  have HN4 : Hid (W4.heap[w.heap.size + 1 + 1]? = some (.cells #[.string nm, .string nm] 44 (0, 0))) := by
    show _ = _
    rw [← hW4]
    have h := World.alloc_heap_new W0 (.cells #[.string nm, .string nm] 44)
    rw [HS0.out] at h
    exact h
  have HS4 : Hid (W4.heap.size = w.heap.size + 3) := by show _ = _; rw [← hW4, World.size_alloc, HS0.out]
  have hs0 : W0.heap.size = w.heap.size + 1 + 1 := HS0.out
  clear hb4
  have g0 := cell_of_row _ _ 0 _ _ _ HR4.out
  have f0 := frozen_row9 (j := 0) HR4.out
  have g1 := cell_of_row _ _ 1 _ _ _ HR4.out
  have f1 := frozen_row9 (j := 1) HR4.out
  have g2 := cell_of_row _ _ 2 _ _ _ HR4.out
  have f2 := frozen_row9 (j := 2) HR4.out
  have g3 := cell_of_row _ _ 3 _ _ _ HR4.out
  have f3 := frozen_row9 (j := 3) HR4.out
  have g4 := cell_of_row _ _ 4 _ _ _ HR4.out
  have f4 := frozen_row9 (j := 4) HR4.out
  have g5 := cell_of_row _ _ 5 _ _ _ HR4.out
  have f5 := frozen_row9 (j := 5) HR4.out
  have g6 := cell_of_row _ _ 6 _ _ _ HR4.out
  have f6 := frozen_row9 (j := 6) HR4.out
  have g7 := cell_of_row _ _ 7 _ _ _ HR4.out
  have f7 := frozen_row9 (j := 7) HR4.out
  have g8 := cell_of_row _ _ 8 _ _ _ HR4.out
  have f8 := frozen_row9 (j := 8) HR4.out
  go_enter Tryz.func18, Tryz.ntmps18
  go_wp2_with fail
  (try simp only [Exit.inBlock, Exit.then])
  generalize hz9 : ((((((((W4.setCell ⟨w.heap.size + 1, 0, none⟩ (.bool false)).setCell ⟨w.heap.size + 1, 1, none⟩ (.bool false)).setCell ⟨w.heap.size + 1, 2, none⟩ (.bool false)).setCell ⟨w.heap.size + 1, 3, none⟩ (.bool false)).setCell ⟨w.heap.size + 1, 4, none⟩ (.slice (some ⟨w.heap.size + 1 + 1, 0, none⟩) 1 1)).setCell ⟨w.heap.size + 1, 5, none⟩ (.bool false)).setCell ⟨w.heap.size + 1, 6, none⟩ (.slice none 0 0)).setCell ⟨w.heap.size + 1, 7, none⟩ (.slice none 0 0)).setCell ⟨w.heap.size + 1, 8, none⟩ (.slice none 0 0) = wz
  obtain ⟨e7, k7, s7⟩ := rbox_set9 W4 _ _ _ _ _ _ _ _ _ _ _ _ _ _ _ _ _ _ _ _ (HR4.out) wz hz9.symm
  have d0 := cell_of_row _ _ 0 _ _ _ e7
  have d1 := cell_of_row _ _ 1 _ _ _ e7
  have d2 := cell_of_row _ _ 2 _ _ _ e7
  have d3 := cell_of_row _ _ 3 _ _ _ e7
  have d4 := cell_of_row _ _ 4 _ _ _ e7
  have d5 := cell_of_row _ _ 5 _ _ _ e7
  have d6 := cell_of_row _ _ 6 _ _ _ e7
  have d7 := cell_of_row _ _ 7 _ _ _ e7
  have d8 := cell_of_row _ _ 8 _ _ _ e7
  have hbz : Below w.heap.size w wz := by rw [← hz9]; exact (((((((((HB4.out.setCell (p := ⟨w.heap.size + 1, 0, none⟩) (by show w.heap.size ≤ w.heap.size + 1; omega) _).setCell (p := ⟨w.heap.size + 1, 1, none⟩) (by show w.heap.size ≤ w.heap.size + 1; omega) _).setCell (p := ⟨w.heap.size + 1, 2, none⟩) (by show w.heap.size ≤ w.heap.size + 1; omega) _).setCell (p := ⟨w.heap.size + 1, 3, none⟩) (by show w.heap.size ≤ w.heap.size + 1; omega) _).setCell (p := ⟨w.heap.size + 1, 4, none⟩) (by show w.heap.size ≤ w.heap.size + 1; omega) _).setCell (p := ⟨w.heap.size + 1, 5, none⟩) (by show w.heap.size ≤ w.heap.size + 1; omega) _).setCell (p := ⟨w.heap.size + 1, 6, none⟩) (by show w.heap.size ≤ w.heap.size + 1; omega) _).setCell (p := ⟨w.heap.size + 1, 7, none⟩) (by show w.heap.size ≤ w.heap.size + 1; omega) _).setCell (p := ⟨w.heap.size + 1, 8, none⟩) (by show w.heap.size ≤ w.heap.size + 1; omega) _)
  refine bodyPost_ret (v := .agg #[.bool false, .bool false, .bool false, .bool false, .slice (some ⟨w.heap.size + 1 + 1, 0, none⟩) 1 1, .bool false, .slice none 0 0, .slice none 0 0, .slice none 0 0]) (by simp [results, Tryz.results18, go_sem, d0, d1, d2, d3, d4, d5, d6, d7, d8]) rfl ?_
  exact ⟨⟨_, rfl, Hid.mk (((fr_num (w := W0) m hn ⟨by have := HS0.out; omega, by have := HS4.out; omega, cell_of_row _ _ 0 _ _ _ HN4.out, cell_of_row _ _ 1 _ _ _ HN4.out⟩).set s7 (fun b hb => k7 b (by have := HS0.out; omega))).mono (by have := HS0.out; omega))⟩, hbz⟩

set_option maxRecDepth 100000 in
set_option maxHeartbeats 3200000 in
theorem rnear_text (m : Nat) (nm tx : ByteArray) (io : Option Addr) (NI icap : Nat) (ko : Option Addr) (NK kcap : Nat) (hn : tx.size ≤ 140737488355328) (h : Int) (w : World) : Calls Tryz.prog 18 #[.agg #[.int .i64 4, .string nm, .string tx, .slice io NI icap, .slice ko NK kcap], .int .i64 h] w fun e w' => (∃ v, e = .returned v ∧ Hid (FrT w.heap.size w' (m + 1) (.mk false false false false false [] [tx] [] []) v)) ∧ Below w.heap.size w w' := by
  obtain ⟨W0, hW0⟩ : ∃ W0, (w.alloc (.cells #[.int .i64 4, .string nm, .string tx, .slice io NI icap, .slice ko NK kcap] 25)).alloc (.cells #[.bool false, .bool false, .bool false, .bool false, .slice none 0 0, .bool false, .slice none 0 0, .slice none 0 0, .slice none 0 0] 32) = W0 := ⟨_, rfl⟩
  have HB0 : Hid (Below w.heap.size w W0) := by rw [← hW0]; exact ((Below.refl _ w).alloc (Nat.le_refl _) _).alloc (by simp) _
  have HR0 : Hid (W0.heap[w.heap.size + 1]? = some (.cells #[.bool false, .bool false, .bool false, .bool false, .slice none 0 0, .bool false, .slice none 0 0, .slice none 0 0, .slice none 0 0] 32 (0, 0))) := by
    show _ = _
    rw [← hW0]
    have h := World.alloc_heap_new (w.alloc (.cells #[.int .i64 4, .string nm, .string tx, .slice io NI icap, .slice ko NK kcap] 25)) (.cells #[.bool false, .bool false, .bool false, .bool false, .slice none 0 0, .bool false, .slice none 0 0, .slice none 0 0, .slice none 0 0] 32)
    rw [World.size_alloc] at h
    exact h
  have HV0 : Hid (W0.heap[w.heap.size]? = some (.cells #[.int .i64 4, .string nm, .string tx, .slice io NI icap, .slice ko NK kcap] 25 (0, 0))) := by
    show _ = _
    rw [← hW0]
    exact (Below.heap_alloc _ _ _ (by simp)).trans (World.alloc_heap_new w _)
  have c0 := cell_of_row _ _ 0 _ _ _ HV0.out
  have c1 := cell_of_row _ _ 1 _ _ _ HV0.out
  have c2 := cell_of_row _ _ 2 _ _ _ HV0.out
  have c3 := cell_of_row _ _ 3 _ _ _ HV0.out
  have c4 := cell_of_row _ _ 4 _ _ _ HV0.out
  obtain ⟨W4, hW4⟩ : ∃ W4, W0.alloc (.cells #[.string tx] 9) = W4 := ⟨_, rfl⟩
  have hb4 : Below W0.heap.size W0 W4 := by rw [← hW4]; exact below1 W0 _
  have HB4 := Hid.mk (HB0.out.trans (hb4.mono HB0.out.size))
  have HR4 : Hid (W4.heap[w.heap.size + 1]? = _) := (hb4.block _ (lt_of_row HR0.out)).trans HR0.out
  have HS0 : Hid (W0.heap.size = w.heap.size + 2) := by show _ = _; rw [← hW0]; simp
  have HN4 : Hid (W4.heap[w.heap.size + 1 + 1]? = some (.cells #[.string tx] 9 (0, 0))) := by
    show _ = _
    rw [← hW4]
    have h := World.alloc_heap_new W0 (.cells #[.string tx] 9)
    rw [HS0.out] at h
    exact h
  have HS4 : Hid (W4.heap.size = w.heap.size + 3) := by show _ = _; rw [← hW4, World.size_alloc, HS0.out]
  have hs0 : W0.heap.size = w.heap.size + 1 + 1 := HS0.out
  clear hb4
  have g0 := cell_of_row _ _ 0 _ _ _ HR4.out
  have f0 := frozen_row9 (j := 0) HR4.out
  have g1 := cell_of_row _ _ 1 _ _ _ HR4.out
  have f1 := frozen_row9 (j := 1) HR4.out
  have g2 := cell_of_row _ _ 2 _ _ _ HR4.out
  have f2 := frozen_row9 (j := 2) HR4.out
  have g3 := cell_of_row _ _ 3 _ _ _ HR4.out
  have f3 := frozen_row9 (j := 3) HR4.out
  have g4 := cell_of_row _ _ 4 _ _ _ HR4.out
  have f4 := frozen_row9 (j := 4) HR4.out
  have g5 := cell_of_row _ _ 5 _ _ _ HR4.out
  have f5 := frozen_row9 (j := 5) HR4.out
  have g6 := cell_of_row _ _ 6 _ _ _ HR4.out
  have f6 := frozen_row9 (j := 6) HR4.out
  have g7 := cell_of_row _ _ 7 _ _ _ HR4.out
  have f7 := frozen_row9 (j := 7) HR4.out
  have g8 := cell_of_row _ _ 8 _ _ _ HR4.out
  have f8 := frozen_row9 (j := 8) HR4.out
  go_enter Tryz.func18, Tryz.ntmps18
  go_wp2_with fail
  (try simp only [Exit.inBlock, Exit.then])
  generalize hz9 : ((((((((W4.setCell ⟨w.heap.size + 1, 0, none⟩ (.bool false)).setCell ⟨w.heap.size + 1, 1, none⟩ (.bool false)).setCell ⟨w.heap.size + 1, 2, none⟩ (.bool false)).setCell ⟨w.heap.size + 1, 3, none⟩ (.bool false)).setCell ⟨w.heap.size + 1, 4, none⟩ (.slice none 0 0)).setCell ⟨w.heap.size + 1, 5, none⟩ (.bool false)).setCell ⟨w.heap.size + 1, 6, none⟩ (.slice (some ⟨w.heap.size + 1 + 1, 0, none⟩) 1 1)).setCell ⟨w.heap.size + 1, 7, none⟩ (.slice none 0 0)).setCell ⟨w.heap.size + 1, 8, none⟩ (.slice none 0 0) = wz
  obtain ⟨e7, k7, s7⟩ := rbox_set9 W4 _ _ _ _ _ _ _ _ _ _ _ _ _ _ _ _ _ _ _ _ (HR4.out) wz hz9.symm
  have d0 := cell_of_row _ _ 0 _ _ _ e7
  have d1 := cell_of_row _ _ 1 _ _ _ e7
  have d2 := cell_of_row _ _ 2 _ _ _ e7
  have d3 := cell_of_row _ _ 3 _ _ _ e7
  have d4 := cell_of_row _ _ 4 _ _ _ e7
  have d5 := cell_of_row _ _ 5 _ _ _ e7
  have d6 := cell_of_row _ _ 6 _ _ _ e7
  have d7 := cell_of_row _ _ 7 _ _ _ e7
  have d8 := cell_of_row _ _ 8 _ _ _ e7
  have hbz : Below w.heap.size w wz := by rw [← hz9]; exact (((((((((HB4.out.setCell (p := ⟨w.heap.size + 1, 0, none⟩) (by show w.heap.size ≤ w.heap.size + 1; omega) _).setCell (p := ⟨w.heap.size + 1, 1, none⟩) (by show w.heap.size ≤ w.heap.size + 1; omega) _).setCell (p := ⟨w.heap.size + 1, 2, none⟩) (by show w.heap.size ≤ w.heap.size + 1; omega) _).setCell (p := ⟨w.heap.size + 1, 3, none⟩) (by show w.heap.size ≤ w.heap.size + 1; omega) _).setCell (p := ⟨w.heap.size + 1, 4, none⟩) (by show w.heap.size ≤ w.heap.size + 1; omega) _).setCell (p := ⟨w.heap.size + 1, 5, none⟩) (by show w.heap.size ≤ w.heap.size + 1; omega) _).setCell (p := ⟨w.heap.size + 1, 6, none⟩) (by show w.heap.size ≤ w.heap.size + 1; omega) _).setCell (p := ⟨w.heap.size + 1, 7, none⟩) (by show w.heap.size ≤ w.heap.size + 1; omega) _).setCell (p := ⟨w.heap.size + 1, 8, none⟩) (by show w.heap.size ≤ w.heap.size + 1; omega) _)
  refine bodyPost_ret (v := .agg #[.bool false, .bool false, .bool false, .bool false, .slice none 0 0, .bool false, .slice (some ⟨w.heap.size + 1 + 1, 0, none⟩) 1 1, .slice none 0 0, .slice none 0 0]) (by simp [results, Tryz.results18, go_sem, d0, d1, d2, d3, d4, d5, d6, d7, d8]) rfl ?_
  exact ⟨⟨_, rfl, Hid.mk (((fr_text (w := W0) m hn ⟨by have := HS0.out; omega, by have := HS4.out; omega, cell_of_row _ _ 0 _ _ _ HN4.out⟩).set s7 (fun b hb => k7 b (by have := HS0.out; omega))).mono (by have := HS0.out; omega))⟩, hbz⟩

set_option maxRecDepth 100000 in
set_option maxHeartbeats 3200000 in
theorem rnear_z5 (nm tx : ByteArray) (io : Option Addr) (NI icap : Nat) (ko : Option Addr) (NK kcap : Nat) (w : World) : Calls Tryz.prog 18 #[.agg #[.int .i64 5, .string nm, .string tx, .slice io NI icap, .slice ko NK kcap], .int .i64 0] w fun e w' => (∃ v, e = .returned v ∧ Hid (FrT w.heap.size w' 2 (ttEv) v)) ∧ Below w.heap.size w w' := by
  obtain ⟨W0, hW0⟩ : ∃ W0, (w.alloc (.cells #[.int .i64 5, .string nm, .string tx, .slice io NI icap, .slice ko NK kcap] 25)).alloc (.cells #[.bool false, .bool false, .bool false, .bool false, .slice none 0 0, .bool false, .slice none 0 0, .slice none 0 0, .slice none 0 0] 32) = W0 := ⟨_, rfl⟩
  have HB0 : Hid (Below w.heap.size w W0) := by rw [← hW0]; exact ((Below.refl _ w).alloc (Nat.le_refl _) _).alloc (by simp) _
  have HR0 : Hid (W0.heap[w.heap.size + 1]? = some (.cells #[.bool false, .bool false, .bool false, .bool false, .slice none 0 0, .bool false, .slice none 0 0, .slice none 0 0, .slice none 0 0] 32 (0, 0))) := by
    show _ = _
    rw [← hW0]
    have h := World.alloc_heap_new (w.alloc (.cells #[.int .i64 5, .string nm, .string tx, .slice io NI icap, .slice ko NK kcap] 25)) (.cells #[.bool false, .bool false, .bool false, .bool false, .slice none 0 0, .bool false, .slice none 0 0, .slice none 0 0, .slice none 0 0] 32)
    rw [World.size_alloc] at h
    exact h
  have HV0 : Hid (W0.heap[w.heap.size]? = some (.cells #[.int .i64 5, .string nm, .string tx, .slice io NI icap, .slice ko NK kcap] 25 (0, 0))) := by
    show _ = _
    rw [← hW0]
    exact (Below.heap_alloc _ _ _ (by simp)).trans (World.alloc_heap_new w _)
  have c0 := cell_of_row _ _ 0 _ _ _ HV0.out
  have c1 := cell_of_row _ _ 1 _ _ _ HV0.out
  have c2 := cell_of_row _ _ 2 _ _ _ HV0.out
  have c3 := cell_of_row _ _ 3 _ _ _ HV0.out
  have c4 := cell_of_row _ _ 4 _ _ _ HV0.out
  have g0 := cell_of_row _ _ 0 _ _ _ HR0.out
  have f0 := frozen_row9 (j := 0) HR0.out
  have g1 := cell_of_row _ _ 1 _ _ _ HR0.out
  have f1 := frozen_row9 (j := 1) HR0.out
  have g2 := cell_of_row _ _ 2 _ _ _ HR0.out
  have f2 := frozen_row9 (j := 2) HR0.out
  have g3 := cell_of_row _ _ 3 _ _ _ HR0.out
  have f3 := frozen_row9 (j := 3) HR0.out
  have g4 := cell_of_row _ _ 4 _ _ _ HR0.out
  have f4 := frozen_row9 (j := 4) HR0.out
  have g5 := cell_of_row _ _ 5 _ _ _ HR0.out
  have f5 := frozen_row9 (j := 5) HR0.out
  have g6 := cell_of_row _ _ 6 _ _ _ HR0.out
  have f6 := frozen_row9 (j := 6) HR0.out
  have g7 := cell_of_row _ _ 7 _ _ _ HR0.out
  have f7 := frozen_row9 (j := 7) HR0.out
  have g8 := cell_of_row _ _ 8 _ _ _ HR0.out
  have f8 := frozen_row9 (j := 8) HR0.out
  go_enter Tryz.func18, Tryz.ntmps18
  go_wp2_with fail
  (try simp only [Exit.inBlock, Exit.then])
  generalize hz9 : ((((((((W0.setCell ⟨w.heap.size + 1, 0, none⟩ (.bool true)).setCell ⟨w.heap.size + 1, 1, none⟩ (.bool false)).setCell ⟨w.heap.size + 1, 2, none⟩ (.bool false)).setCell ⟨w.heap.size + 1, 3, none⟩ (.bool false)).setCell ⟨w.heap.size + 1, 4, none⟩ (.slice none 0 0)).setCell ⟨w.heap.size + 1, 5, none⟩ (.bool false)).setCell ⟨w.heap.size + 1, 6, none⟩ (.slice none 0 0)).setCell ⟨w.heap.size + 1, 7, none⟩ (.slice none 0 0)).setCell ⟨w.heap.size + 1, 8, none⟩ (.slice none 0 0) = wz
  obtain ⟨e7, k7, s7⟩ := rbox_set9 W0 _ _ _ _ _ _ _ _ _ _ _ _ _ _ _ _ _ _ _ _ (HR0.out) wz hz9.symm
  have d0 := cell_of_row _ _ 0 _ _ _ e7
  have d1 := cell_of_row _ _ 1 _ _ _ e7
  have d2 := cell_of_row _ _ 2 _ _ _ e7
  have d3 := cell_of_row _ _ 3 _ _ _ e7
  have d4 := cell_of_row _ _ 4 _ _ _ e7
  have d5 := cell_of_row _ _ 5 _ _ _ e7
  have d6 := cell_of_row _ _ 6 _ _ _ e7
  have d7 := cell_of_row _ _ 7 _ _ _ e7
  have d8 := cell_of_row _ _ 8 _ _ _ e7
  have hbz : Below w.heap.size w wz := by rw [← hz9]; exact (((((((((HB0.out.setCell (p := ⟨w.heap.size + 1, 0, none⟩) (by show w.heap.size ≤ w.heap.size + 1; omega) _).setCell (p := ⟨w.heap.size + 1, 1, none⟩) (by show w.heap.size ≤ w.heap.size + 1; omega) _).setCell (p := ⟨w.heap.size + 1, 2, none⟩) (by show w.heap.size ≤ w.heap.size + 1; omega) _).setCell (p := ⟨w.heap.size + 1, 3, none⟩) (by show w.heap.size ≤ w.heap.size + 1; omega) _).setCell (p := ⟨w.heap.size + 1, 4, none⟩) (by show w.heap.size ≤ w.heap.size + 1; omega) _).setCell (p := ⟨w.heap.size + 1, 5, none⟩) (by show w.heap.size ≤ w.heap.size + 1; omega) _).setCell (p := ⟨w.heap.size + 1, 6, none⟩) (by show w.heap.size ≤ w.heap.size + 1; omega) _).setCell (p := ⟨w.heap.size + 1, 7, none⟩) (by show w.heap.size ≤ w.heap.size + 1; omega) _).setCell (p := ⟨w.heap.size + 1, 8, none⟩) (by show w.heap.size ≤ w.heap.size + 1; omega) _)
  refine bodyPost_ret (v := .agg #[.bool true, .bool false, .bool false, .bool false, .slice none 0 0, .bool false, .slice none 0 0, .slice none 0 0, .slice none 0 0]) (by simp [results, Tryz.results18, go_sem, d0, d1, d2, d3, d4, d5, d6, d7, d8]) rfl ?_
  exact ⟨⟨_, rfl, Hid.mk (fun x _ _ => inT_evr x 1)⟩, hbz⟩

set_option maxRecDepth 100000 in
set_option maxHeartbeats 3200000 in
theorem rnear_z6 (nm tx : ByteArray) (io : Option Addr) (NI icap : Nat) (ko : Option Addr) (NK kcap : Nat) (w : World) : Calls Tryz.prog 18 #[.agg #[.int .i64 6, .string nm, .string tx, .slice io NI icap, .slice ko NK kcap], .int .i64 0] w fun e w' => (∃ v, e = .returned v ∧ Hid (FrT w.heap.size w' 2 (ttEv) v)) ∧ Below w.heap.size w w' := by
  obtain ⟨W0, hW0⟩ : ∃ W0, (w.alloc (.cells #[.int .i64 6, .string nm, .string tx, .slice io NI icap, .slice ko NK kcap] 25)).alloc (.cells #[.bool false, .bool false, .bool false, .bool false, .slice none 0 0, .bool false, .slice none 0 0, .slice none 0 0, .slice none 0 0] 32) = W0 := ⟨_, rfl⟩
  have HB0 : Hid (Below w.heap.size w W0) := by rw [← hW0]; exact ((Below.refl _ w).alloc (Nat.le_refl _) _).alloc (by simp) _
  have HR0 : Hid (W0.heap[w.heap.size + 1]? = some (.cells #[.bool false, .bool false, .bool false, .bool false, .slice none 0 0, .bool false, .slice none 0 0, .slice none 0 0, .slice none 0 0] 32 (0, 0))) := by
    show _ = _
    rw [← hW0]
    have h := World.alloc_heap_new (w.alloc (.cells #[.int .i64 6, .string nm, .string tx, .slice io NI icap, .slice ko NK kcap] 25)) (.cells #[.bool false, .bool false, .bool false, .bool false, .slice none 0 0, .bool false, .slice none 0 0, .slice none 0 0, .slice none 0 0] 32)
    rw [World.size_alloc] at h
    exact h
  have HV0 : Hid (W0.heap[w.heap.size]? = some (.cells #[.int .i64 6, .string nm, .string tx, .slice io NI icap, .slice ko NK kcap] 25 (0, 0))) := by
    show _ = _
    rw [← hW0]
    exact (Below.heap_alloc _ _ _ (by simp)).trans (World.alloc_heap_new w _)
  have c0 := cell_of_row _ _ 0 _ _ _ HV0.out
  have c1 := cell_of_row _ _ 1 _ _ _ HV0.out
  have c2 := cell_of_row _ _ 2 _ _ _ HV0.out
  have c3 := cell_of_row _ _ 3 _ _ _ HV0.out
  have c4 := cell_of_row _ _ 4 _ _ _ HV0.out
  have g0 := cell_of_row _ _ 0 _ _ _ HR0.out
  have f0 := frozen_row9 (j := 0) HR0.out
  have g1 := cell_of_row _ _ 1 _ _ _ HR0.out
  have f1 := frozen_row9 (j := 1) HR0.out
  have g2 := cell_of_row _ _ 2 _ _ _ HR0.out
  have f2 := frozen_row9 (j := 2) HR0.out
  have g3 := cell_of_row _ _ 3 _ _ _ HR0.out
  have f3 := frozen_row9 (j := 3) HR0.out
  have g4 := cell_of_row _ _ 4 _ _ _ HR0.out
  have f4 := frozen_row9 (j := 4) HR0.out
  have g5 := cell_of_row _ _ 5 _ _ _ HR0.out
  have f5 := frozen_row9 (j := 5) HR0.out
  have g6 := cell_of_row _ _ 6 _ _ _ HR0.out
  have f6 := frozen_row9 (j := 6) HR0.out
  have g7 := cell_of_row _ _ 7 _ _ _ HR0.out
  have f7 := frozen_row9 (j := 7) HR0.out
  have g8 := cell_of_row _ _ 8 _ _ _ HR0.out
  have f8 := frozen_row9 (j := 8) HR0.out
  go_enter Tryz.func18, Tryz.ntmps18
  go_wp2_with fail
  (try simp only [Exit.inBlock, Exit.then])
  generalize hz9 : ((((((((W0.setCell ⟨w.heap.size + 1, 0, none⟩ (.bool true)).setCell ⟨w.heap.size + 1, 1, none⟩ (.bool false)).setCell ⟨w.heap.size + 1, 2, none⟩ (.bool false)).setCell ⟨w.heap.size + 1, 3, none⟩ (.bool false)).setCell ⟨w.heap.size + 1, 4, none⟩ (.slice none 0 0)).setCell ⟨w.heap.size + 1, 5, none⟩ (.bool false)).setCell ⟨w.heap.size + 1, 6, none⟩ (.slice none 0 0)).setCell ⟨w.heap.size + 1, 7, none⟩ (.slice none 0 0)).setCell ⟨w.heap.size + 1, 8, none⟩ (.slice none 0 0) = wz
  obtain ⟨e7, k7, s7⟩ := rbox_set9 W0 _ _ _ _ _ _ _ _ _ _ _ _ _ _ _ _ _ _ _ _ (HR0.out) wz hz9.symm
  have d0 := cell_of_row _ _ 0 _ _ _ e7
  have d1 := cell_of_row _ _ 1 _ _ _ e7
  have d2 := cell_of_row _ _ 2 _ _ _ e7
  have d3 := cell_of_row _ _ 3 _ _ _ e7
  have d4 := cell_of_row _ _ 4 _ _ _ e7
  have d5 := cell_of_row _ _ 5 _ _ _ e7
  have d6 := cell_of_row _ _ 6 _ _ _ e7
  have d7 := cell_of_row _ _ 7 _ _ _ e7
  have d8 := cell_of_row _ _ 8 _ _ _ e7
  have hbz : Below w.heap.size w wz := by rw [← hz9]; exact (((((((((HB0.out.setCell (p := ⟨w.heap.size + 1, 0, none⟩) (by show w.heap.size ≤ w.heap.size + 1; omega) _).setCell (p := ⟨w.heap.size + 1, 1, none⟩) (by show w.heap.size ≤ w.heap.size + 1; omega) _).setCell (p := ⟨w.heap.size + 1, 2, none⟩) (by show w.heap.size ≤ w.heap.size + 1; omega) _).setCell (p := ⟨w.heap.size + 1, 3, none⟩) (by show w.heap.size ≤ w.heap.size + 1; omega) _).setCell (p := ⟨w.heap.size + 1, 4, none⟩) (by show w.heap.size ≤ w.heap.size + 1; omega) _).setCell (p := ⟨w.heap.size + 1, 5, none⟩) (by show w.heap.size ≤ w.heap.size + 1; omega) _).setCell (p := ⟨w.heap.size + 1, 6, none⟩) (by show w.heap.size ≤ w.heap.size + 1; omega) _).setCell (p := ⟨w.heap.size + 1, 7, none⟩) (by show w.heap.size ≤ w.heap.size + 1; omega) _).setCell (p := ⟨w.heap.size + 1, 8, none⟩) (by show w.heap.size ≤ w.heap.size + 1; omega) _)
  refine bodyPost_ret (v := .agg #[.bool true, .bool false, .bool false, .bool false, .slice none 0 0, .bool false, .slice none 0 0, .slice none 0 0, .slice none 0 0]) (by simp [results, Tryz.results18, go_sem, d0, d1, d2, d3, d4, d5, d6, d7, d8]) rfl ?_
  exact ⟨⟨_, rfl, Hid.mk (fun x _ _ => inT_evr x 1)⟩, hbz⟩

set_option maxRecDepth 100000 in
set_option maxHeartbeats 3200000 in
theorem rnear_arr (nm tx : ByteArray) (io : Option Addr) (NI icap : Nat) (ko : Option Addr) (NK kcap : Nat) (h : Int) (w : World) (m : Nat) (CT : TT) (hh : 0 < h)
    (HI : Hid (∀ u, Below w.heap.size w u → Calls Tryz.prog 45 #[.slice io NI icap, .int .i64 h] u fun e w' => (∃ v, e = .returned v ∧ Hid (FrT u.heap.size w' m CT v)) ∧ Below u.heap.size u w')) :
    Calls Tryz.prog 18 #[.agg #[.int .i64 5, .string nm, .string tx, .slice io NI icap, .slice ko NK kcap], .int .i64 h] w fun e w' => (∃ v, e = .returned v ∧ Hid (FrT w.heap.size w' (m + 1) (.mk false false false false false [] [] [.mk CT (NI : Int) (NI : Int)] []) v)) ∧ Below w.heap.size w w' := by
  have hh1 : ¬ h ≤ 0 := by omega
  obtain ⟨W0, hW0⟩ : ∃ W0, (w.alloc (.cells #[.int .i64 5, .string nm, .string tx, .slice io NI icap, .slice ko NK kcap] 25)).alloc (.cells #[.bool false, .bool false, .bool false, .bool false, .slice none 0 0, .bool false, .slice none 0 0, .slice none 0 0, .slice none 0 0] 32) = W0 := ⟨_, rfl⟩
  have HB0 : Hid (Below w.heap.size w W0) := by rw [← hW0]; exact ((Below.refl _ w).alloc (Nat.le_refl _) _).alloc (by simp) _
  have HR0 : Hid (W0.heap[w.heap.size + 1]? = some (.cells #[.bool false, .bool false, .bool false, .bool false, .slice none 0 0, .bool false, .slice none 0 0, .slice none 0 0, .slice none 0 0] 32 (0, 0))) := by
    show _ = _
    rw [← hW0]
    have h := World.alloc_heap_new (w.alloc (.cells #[.int .i64 5, .string nm, .string tx, .slice io NI icap, .slice ko NK kcap] 25)) (.cells #[.bool false, .bool false, .bool false, .bool false, .slice none 0 0, .bool false, .slice none 0 0, .slice none 0 0, .slice none 0 0] 32)
    rw [World.size_alloc] at h
    exact h
  have HV0 : Hid (W0.heap[w.heap.size]? = some (.cells #[.int .i64 5, .string nm, .string tx, .slice io NI icap, .slice ko NK kcap] 25 (0, 0))) := by
    show _ = _
    rw [← hW0]
    exact (Below.heap_alloc _ _ _ (by simp)).trans (World.alloc_heap_new w _)
  have c0 := cell_of_row _ _ 0 _ _ _ HV0.out
  have c1 := cell_of_row _ _ 1 _ _ _ HV0.out
  have c2 := cell_of_row _ _ 2 _ _ _ HV0.out
  have c3 := cell_of_row _ _ 3 _ _ _ HV0.out
  have c4 := cell_of_row _ _ 4 _ _ _ HV0.out
  go_enter Tryz.func18, Tryz.ntmps18
  go_wp2_with fail
  refine (HI.out _ HB0.out).mono ?_
  rintro e w3 ⟨⟨vw, rfl, hF⟩, hq⟩
  have hF2 := hF.out.here
  obtain ⟨ta, tb, tc, td, ⟨teo, ten, tec⟩, tf, ⟨tgo, tgn, tgc⟩, ⟨tio, tinn, tic⟩, ⟨tjo, tjn, tjc⟩, esht⟩ := inT_shape hF2
  simp only [Value.agg.injEq, Array.mk.injEq, List.cons.injEq, and_true] at esht
  obtain ⟨rfl, rfl, rfl, rfl, rfl, rfl, rfl, rfl, rfl⟩ := esht
  clear hF2 c0 c1 c2 c3 c4
  obtain ⟨W4, hW4⟩ : ∃ W4, w3.alloc (.cells #[.bool ta, .bool tb, .bool tc, .bool td, .slice teo ten tec, .bool tf, .slice tgo tgn tgc, .slice tio tinn tic, .slice tjo tjn tjc] 32) = W4 := ⟨_, rfl⟩
  obtain ⟨B4, hB4⟩ : ∃ B4, w3.heap.size = B4 := ⟨_, rfl⟩
  obtain ⟨W5, hW5⟩ : ∃ W5, W4.alloc (.cells #[.bool ta, .bool tb, .bool tc, .bool td, .slice teo ten tec, .bool tf, .slice tgo tgn tgc, .slice tio tinn tic, .slice tjo tjn tjc, .int .i64 (NI : Int), .int .i64 (NI : Int)] 58) = W5 := ⟨_, rfl⟩
  obtain ⟨B5, hB5⟩ : ∃ B5, W4.heap.size = B5 := ⟨_, rfl⟩
  have hb3 : Below w.heap.size w w3 := HB0.out.trans (hq.mono HB0.out.size)
  have hb4 : Below w3.heap.size w3 W4 := by rw [← hW4]; exact below1 w3 _
  have hb5 : Below W4.heap.size W4 W5 := by rw [← hW5]; exact below1 W4 _
  have hb35 : Below w3.heap.size w3 W5 := hb4.trans (hb5.mono hb4.size)
  have HB5 := Hid.mk (hb3.trans (hb35.mono hb3.size))
  have hr3 : w3.heap[w.heap.size + 1]? = _ := (hq.block _ (lt_of_row HR0.out)).trans HR0.out
  have hv3 : w3.heap[w.heap.size]? = _ := (hq.block _ (lt_of_row HV0.out)).trans HV0.out
  have HV4 : Hid (W4.heap[w.heap.size]? = _) := (hb4.block _ (lt_of_row hv3)).trans hv3
  have HR5 : Hid (W5.heap[w.heap.size + 1]? = _) := (hb35.block _ (lt_of_row hr3)).trans hr3
  have HN4 : Hid (W4.heap[B4]? = some (.cells #[.bool ta, .bool tb, .bool tc, .bool td, .slice teo ten tec, .bool tf, .slice tgo tgn tgc, .slice tio tinn tic, .slice tjo tjn tjc] 32 (0, 0))) := by show _ = _; rw [← hW4, ← hB4]; exact World.alloc_heap_new w3 _
  have HN5 : Hid (W5.heap[B5]? = some (.cells #[.bool ta, .bool tb, .bool tc, .bool td, .slice teo ten tec, .bool tf, .slice tgo tgn tgc, .slice tio tinn tic, .slice tjo tjn tjc, .int .i64 (NI : Int), .int .i64 (NI : Int)] 58 (0, 0))) := by show _ = _; rw [← hW5, ← hB5]; exact World.alloc_heap_new W4 _
  have HL := Hid.mk (lt_of_row HR0.out)
  have HBL : Hid (W0.heap.size ≤ B5) := by show _ ≤ _; rw [← hB5]; exact Nat.le_trans hq.size hb4.size
  have HF5 := Hid.mk (fr_arr (k := NI) hF.out hb35 HBL.out HN5.out)
  have HWq := Hid.mk hW4
  have HBq := Hid.mk hB4
  have HWq5 := Hid.mk hW5
  have HBq5 := Hid.mk hB5
  clear hq hF hb3 hb4 hb5 hb35 hr3 hv3 hW4 hB4 hW5 hB5 hW0
  have c3 := cell_of_row _ _ 3 _ _ _ HV4.out
  have t0 := cell_of_row _ _ 0 _ _ _ HN4.out
  have t1 := cell_of_row _ _ 1 _ _ _ HN4.out
  have t2 := cell_of_row _ _ 2 _ _ _ HN4.out
  have t3 := cell_of_row _ _ 3 _ _ _ HN4.out
  have t4 := cell_of_row _ _ 4 _ _ _ HN4.out
  have t5 := cell_of_row _ _ 5 _ _ _ HN4.out
  have t6 := cell_of_row _ _ 6 _ _ _ HN4.out
  have t7 := cell_of_row _ _ 7 _ _ _ HN4.out
  have t8 := cell_of_row _ _ 8 _ _ _ HN4.out
  go_upto_region 11 with fail
  try rw [HWq.out]
  try rw [HBq.out]
  clear HWq HBq
  have hW5 := HWq5.out
  have hB5 := HBq5.out
  have g0 := cell_of_row _ _ 0 _ _ _ HR5.out
  have f0 := frozen_row9 (j := 0) HR5.out
  have g1 := cell_of_row _ _ 1 _ _ _ HR5.out
  have f1 := frozen_row9 (j := 1) HR5.out
  have g2 := cell_of_row _ _ 2 _ _ _ HR5.out
  have f2 := frozen_row9 (j := 2) HR5.out
  have g3 := cell_of_row _ _ 3 _ _ _ HR5.out
  have f3 := frozen_row9 (j := 3) HR5.out
  have g4 := cell_of_row _ _ 4 _ _ _ HR5.out
  have f4 := frozen_row9 (j := 4) HR5.out
  have g5 := cell_of_row _ _ 5 _ _ _ HR5.out
  have f5 := frozen_row9 (j := 5) HR5.out
  have g6 := cell_of_row _ _ 6 _ _ _ HR5.out
  have f6 := frozen_row9 (j := 6) HR5.out
  have g7 := cell_of_row _ _ 7 _ _ _ HR5.out
  have f7 := frozen_row9 (j := 7) HR5.out
  have g8 := cell_of_row _ _ 8 _ _ _ HR5.out
  have f8 := frozen_row9 (j := 8) HR5.out
  go_wp2_with fail
  (try simp only [Exit.inBlock, Exit.then])
  generalize hz9 : ((((((((W5.setCell ⟨w.heap.size + 1, 0, none⟩ (.bool false)).setCell ⟨w.heap.size + 1, 1, none⟩ (.bool false)).setCell ⟨w.heap.size + 1, 2, none⟩ (.bool false)).setCell ⟨w.heap.size + 1, 3, none⟩ (.bool false)).setCell ⟨w.heap.size + 1, 4, none⟩ (.slice none 0 0)).setCell ⟨w.heap.size + 1, 5, none⟩ (.bool false)).setCell ⟨w.heap.size + 1, 6, none⟩ (.slice none 0 0)).setCell ⟨w.heap.size + 1, 7, none⟩ (.slice (some ⟨B5, 0, none⟩) 1 1)).setCell ⟨w.heap.size + 1, 8, none⟩ (.slice none 0 0) = wz
  obtain ⟨e7, k7, s7⟩ := rbox_set9 W5 _ _ _ _ _ _ _ _ _ _ _ _ _ _ _ _ _ _ _ _ (HR5.out) wz hz9.symm
  have d0 := cell_of_row _ _ 0 _ _ _ e7
  have d1 := cell_of_row _ _ 1 _ _ _ e7
  have d2 := cell_of_row _ _ 2 _ _ _ e7
  have d3 := cell_of_row _ _ 3 _ _ _ e7
  have d4 := cell_of_row _ _ 4 _ _ _ e7
  have d5 := cell_of_row _ _ 5 _ _ _ e7
  have d6 := cell_of_row _ _ 6 _ _ _ e7
  have d7 := cell_of_row _ _ 7 _ _ _ e7
  have d8 := cell_of_row _ _ 8 _ _ _ e7
  have hbz : Below w.heap.size w wz := by rw [← hz9]; exact (((((((((HB5.out.setCell (p := ⟨w.heap.size + 1, 0, none⟩) (by show w.heap.size ≤ w.heap.size + 1; omega) _).setCell (p := ⟨w.heap.size + 1, 1, none⟩) (by show w.heap.size ≤ w.heap.size + 1; omega) _).setCell (p := ⟨w.heap.size + 1, 2, none⟩) (by show w.heap.size ≤ w.heap.size + 1; omega) _).setCell (p := ⟨w.heap.size + 1, 3, none⟩) (by show w.heap.size ≤ w.heap.size + 1; omega) _).setCell (p := ⟨w.heap.size + 1, 4, none⟩) (by show w.heap.size ≤ w.heap.size + 1; omega) _).setCell (p := ⟨w.heap.size + 1, 5, none⟩) (by show w.heap.size ≤ w.heap.size + 1; omega) _).setCell (p := ⟨w.heap.size + 1, 6, none⟩) (by show w.heap.size ≤ w.heap.size + 1; omega) _).setCell (p := ⟨w.heap.size + 1, 7, none⟩) (by show w.heap.size ≤ w.heap.size + 1; omega) _).setCell (p := ⟨w.heap.size + 1, 8, none⟩) (by show w.heap.size ≤ w.heap.size + 1; omega) _)
  refine bodyPost_ret (v := .agg #[.bool false, .bool false, .bool false, .bool false, .slice none 0 0, .bool false, .slice none 0 0, .slice (some ⟨B5, 0, none⟩) 1 1, .slice none 0 0]) (by simp [results, Tryz.results18, go_sem, d0, d1, d2, d3, d4, d5, d6, d7, d8]) rfl ?_
  exact ⟨⟨_, rfl, Hid.mk ((HF5.out.set s7 (fun b hb => k7 b (by have := HL.out; omega))).mono (by have := HL.out; omega))⟩, hbz⟩
end Go.Proofs.YtdjoelhiahpmlaaGreat
