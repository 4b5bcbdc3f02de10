import Derived.Test.YthcohnnikmpjkaaGreatZSF6
namespace Go.Proofs.YthcohnnikmpjkaaGreat
open Go.RowKit Go.Shelf Go.Sort
set_option linter.unusedVariables false
set_option linter.unusedSimpArgs false
attribute [local go_sem] Oper.semAt_some

set_option maxRecDepth 100000 in
theorem rul_ix0 (B : Nat) (u : World) : (Instr.index 42 (.agg #[.func (.func 26) #[.pointer (some ⟨B, 0, none⟩)] #[], .func (.func 27) #[.pointer (some ⟨B, 0, none⟩)] #[], .func (.func 28) #[.pointer (some ⟨B, 0, none⟩)] #[], .func (.func 29) #[.pointer (some ⟨B, 0, none⟩)] #[], .func (.func 30) #[.pointer (some ⟨B, 0, none⟩)] #[]]) (.int .i64 0)).run Tryz.prog u = .ok (.func (.func 26) #[.pointer (some ⟨B, 0, none⟩)] #[]) u := by kernel_rfl
set_option maxRecDepth 100000 in
theorem rul_ix1 (B : Nat) (u : World) : (Instr.index 42 (.agg #[.func (.func 26) #[.pointer (some ⟨B, 0, none⟩)] #[], .func (.func 27) #[.pointer (some ⟨B, 0, none⟩)] #[], .func (.func 28) #[.pointer (some ⟨B, 0, none⟩)] #[], .func (.func 29) #[.pointer (some ⟨B, 0, none⟩)] #[], .func (.func 30) #[.pointer (some ⟨B, 0, none⟩)] #[]]) (.int .i64 1)).run Tryz.prog u = .ok (.func (.func 27) #[.pointer (some ⟨B, 0, none⟩)] #[]) u := by kernel_rfl
set_option maxRecDepth 100000 in
theorem rul_ix2 (B : Nat) (u : World) : (Instr.index 42 (.agg #[.func (.func 26) #[.pointer (some ⟨B, 0, none⟩)] #[], .func (.func 27) #[.pointer (some ⟨B, 0, none⟩)] #[], .func (.func 28) #[.pointer (some ⟨B, 0, none⟩)] #[], .func (.func 29) #[.pointer (some ⟨B, 0, none⟩)] #[], .func (.func 30) #[.pointer (some ⟨B, 0, none⟩)] #[]]) (.int .i64 2)).run Tryz.prog u = .ok (.func (.func 28) #[.pointer (some ⟨B, 0, none⟩)] #[]) u := by kernel_rfl
set_option maxRecDepth 100000 in
theorem rul_ix3 (B : Nat) (u : World) : (Instr.index 42 (.agg #[.func (.func 26) #[.pointer (some ⟨B, 0, none⟩)] #[], .func (.func 27) #[.pointer (some ⟨B, 0, none⟩)] #[], .func (.func 28) #[.pointer (some ⟨B, 0, none⟩)] #[], .func (.func 29) #[.pointer (some ⟨B, 0, none⟩)] #[], .func (.func 30) #[.pointer (some ⟨B, 0, none⟩)] #[]]) (.int .i64 3)).run Tryz.prog u = .ok (.func (.func 29) #[.pointer (some ⟨B, 0, none⟩)] #[]) u := by kernel_rfl
set_option maxRecDepth 100000 in
theorem rul_ix4 (B : Nat) (u : World) : (Instr.index 42 (.agg #[.func (.func 26) #[.pointer (some ⟨B, 0, none⟩)] #[], .func (.func 27) #[.pointer (some ⟨B, 0, none⟩)] #[], .func (.func 28) #[.pointer (some ⟨B, 0, none⟩)] #[], .func (.func 29) #[.pointer (some ⟨B, 0, none⟩)] #[], .func (.func 30) #[.pointer (some ⟨B, 0, none⟩)] #[]]) (.int .i64 4)).run Tryz.prog u = .ok (.func (.func 30) #[.pointer (some ⟨B, 0, none⟩)] #[]) u := by kernel_rfl
set_option maxRecDepth 100000 in
set_option maxHeartbeats 1600000 in
theorem w_rules (B : Nat) (w : World) : Calls Tryz.prog 13 #[.pointer (some ⟨B, 0, none⟩)] w fun e w' => e = .returned (.agg #[.func (.func 26) #[.pointer (some ⟨B, 0, none⟩)] #[], .func (.func 27) #[.pointer (some ⟨B, 0, none⟩)] #[], .func (.func 28) #[.pointer (some ⟨B, 0, none⟩)] #[], .func (.func 29) #[.pointer (some ⟨B, 0, none⟩)] #[], .func (.func 30) #[.pointer (some ⟨B, 0, none⟩)] #[]]) ∧ Below w.heap.size w w' := by
  have HB := Hid.mk (below1 w (.cells #[.func (.func 26) #[.pointer (some ⟨B, 0, none⟩)] #[], .func (.func 27) #[.pointer (some ⟨B, 0, none⟩)] #[], .func (.func 28) #[.pointer (some ⟨B, 0, none⟩)] #[], .func (.func 29) #[.pointer (some ⟨B, 0, none⟩)] #[], .func (.func 30) #[.pointer (some ⟨B, 0, none⟩)] #[]] 42))
  go_enter Tryz.func13, Tryz.ntmps13
  go_wp2_with fail
  (try simp only [Exit.inBlock, Exit.then])
  refine bodyPost_ret (v := .agg #[.func (.func 26) #[.pointer (some ⟨B, 0, none⟩)] #[], .func (.func 27) #[.pointer (some ⟨B, 0, none⟩)] #[], .func (.func 28) #[.pointer (some ⟨B, 0, none⟩)] #[], .func (.func 29) #[.pointer (some ⟨B, 0, none⟩)] #[], .func (.func 30) #[.pointer (some ⟨B, 0, none⟩)] #[]]) (by simp [results, Tryz.results13, go_sem]) rfl ?_
  exact ⟨rfl, HB.out⟩
theorem bool_split (a bb s t v o p : Bool) : ((!(a && !bb) && (s && (t && (v && o)))) && p) = ((!a || bb) && (s && (t && (v && (o && p))))) := by
  cases a <;> cases bb <;> cases s <;> cases t <;> cases v <;> cases o <;> cases p <;> rfl
theorem put_cell {W : World} {l b j : Nat} {o o' : Obj} {v : Value} (h : W.heap[l]? = some o) (hc : o.isCells = false) (hv : W.cell? ⟨b, j, none⟩ = some v) : (W.putObj l o').cell? ⟨b, j, none⟩ = some v := by
  have hne : b ≠ l := by
    rintro rfl
    unfold World.cell? at hv
    simp only [h] at hv
    cases o <;> simp_all [Obj.isCells]
  unfold World.cell? at hv ⊢
  rw [show (W.putObj l o').heap[b]? = W.heap[b]? from by simp [World.putObj, Array.getElem?_setIfInBounds, Ne.symm hne]]
  exact hv
theorem set_other (W : World) (b D : Nat) (hne : D ≠ b) (v : Value) : (W.setCell ⟨b, 0, none⟩ v).heap[D]? = W.heap[D]? := by
  exact Below.heap_setCell W ⟨b, 0, none⟩ v D hne
theorem ownFrom_pure {α : Type} (m : Nat) (p : α → Prop) : OwnFrom m (fun x (_ : World) => p x) := fun x A B row h _ _ => h
/-- Formed answers so -/
def FpOk (h : Nat) : Prop := ∀ (T : TT) (v : Value) (u : World), InT u h T v → Calls Tryz.prog 6 #[v] u fun e w' => e = .returned (.bool (fmN h T)) ∧ Below u.heap.size u w'
/-- what lies while Formed goes on: the box, the answer's cell, the asked one's box -/
structure FBx (w u : World) (b0 b1 b2 b3 : Bool) (no : Option Addr) (nn nc : Nat) (b5 : Bool) (xo : Option Addr) (nx xc : Nat) (ao : Option Addr) (NA ac : Nat) (oo : Option Addr) (NO oc : Nat) : Prop where
  below : Below w.heap.size w u
  box : C9 u w.heap.size 0 (.bool b0) (.bool b1) (.bool b2) (.bool b3) (.slice no nn nc) (.bool b5) (.slice xo nx xc) (.slice ao NA ac) (.slice oo NO oc)
  ans : Boxed u (w.heap.size + 1) 4 (.bool false)
  ask : AskBx u (w.heap.size + 1 + 1) b0 b1 b2 b3 no nn nc b5 xo nx xc ao NA ac oo NO oc
theorem FBx.keep {w u u' : World} {b0 b1 b2 b3 : Bool} {no : Option Addr} {nn nc : Nat} {b5 : Bool} {xo : Option Addr} {nx xc : Nat} {ao : Option Addr} {NA ac : Nat} {oo : Option Addr} {NO oc : Nat} (x : FBx w u b0 b1 b2 b3 no nn nc b5 xo nx xc ao NA ac oo NO oc) (hb : Below u.heap.size u u') : FBx w u' b0 b1 b2 b3 no nn nc b5 xo nx xc ao NA ac oo NO oc :=
  ⟨x.below.trans (hb.mono x.below.size), x.box.keep hb (by have := x.ask.lt; omega), tboxed_low x.ans hb, x.ask.keep hb⟩

set_option maxRecDepth 100000 in
set_option maxHeartbeats 8000000 in
theorem formed_step (h : Nat) (ih : FpOk h) (b0 b1 b2 b3 b5 : Bool) (no xo ao oo : Option Addr) (nn nc nx xc NA ac NO oc : Nat) (az : List (TT × Value)) (os : List (List (TT × Value) × (TT × Value))) (w : World)
    (lA : az.length = NA) (lO : os.length = NO) (hA : NA ≤ ac) (hO : NO ≤ oc) (hA2 : NA ≤ 140737488355328) (hO2 : NO ≤ 140737488355328) (hin : ∀ x ∈ partsT az os, InT w h x.1 x.2)
    (hst : ∀ (W : World) (B : Nat), Below w.heap.size w W → W.cell? ⟨B, 7, none⟩ = some (.slice ao NA ac) → W.cell? ⟨B, 8, none⟩ = some (.slice oo NO oc) → InTS W w.heap.size B ao ac oo oc az os) (r0 r1 r2 r3 r4 : Bool)
    (HR0 : Hid (∀ u B, Below w.heap.size w u → AskBx u B b0 b1 b2 b3 no nn nc b5 xo nx xc ao NA ac oo NO oc → Calls Tryz.prog 26 #[.pointer (some ⟨B, 0, none⟩)] u fun e w' => e = .returned (.bool r0) ∧ Below u.heap.size u w'))
    (HR1 : Hid (∀ u B, Below w.heap.size w u → AskBx u B b0 b1 b2 b3 no nn nc b5 xo nx xc ao NA ac oo NO oc → Calls Tryz.prog 27 #[.pointer (some ⟨B, 0, none⟩)] u fun e w' => e = .returned (.bool r1) ∧ Below u.heap.size u w'))
    (HR2 : Hid (∀ u B, Below w.heap.size w u → AskBx u B b0 b1 b2 b3 no nn nc b5 xo nx xc ao NA ac oo NO oc → Calls Tryz.prog 28 #[.pointer (some ⟨B, 0, none⟩)] u fun e w' => e = .returned (.bool r2) ∧ Below u.heap.size u w'))
    (HR3 : Hid (∀ u B, Below w.heap.size w u → AskBx u B b0 b1 b2 b3 no nn nc b5 xo nx xc ao NA ac oo NO oc → Calls Tryz.prog 29 #[.pointer (some ⟨B, 0, none⟩)] u fun e w' => e = .returned (.bool r3) ∧ Below u.heap.size u w'))
    (HR4 : Hid (∀ u B, Below w.heap.size w u → AskBx u B b0 b1 b2 b3 no nn nc b5 xo nx xc ao NA ac oo NO oc → Calls Tryz.prog 30 #[.pointer (some ⟨B, 0, none⟩)] u fun e w' => e = .returned (.bool r4) ∧ Below u.heap.size u w')) :
    Calls Tryz.prog 6 #[.agg #[.bool b0, .bool b1, .bool b2, .bool b3, .slice no nn nc, .bool b5, .slice xo nx xc, .slice ao NA ac, .slice oo NO oc]] w fun e w' => e = .returned (.bool (r0 && (r1 && (r2 && (r3 && (r4 && (partsT az os).all fun x => fmN h x.1)))))) ∧ Below w.heap.size w w' := by
  have hsh : ∀ x ∈ partsT az os, ShT x.2 := fun x hx => sh_of (hin x hx)
  have HIN := Hid.mk hin
  have HST := Hid.mk hst
  have HSH := Hid.mk hsh
  have HIH := Hid.mk ih
  have HLA := Hid.mk lA
  have HLO := Hid.mk lO
  clear hin hst hsh ih lA lO
  refine (callsIn_wide (n := 5)).1 ?_
  refine callsIn_of_wp_marks Tryz.func6 rfl trivial ?_ rfl
  simp only [Tryz.ntmps6, List.size_toArray, List.length_cons, List.length_nil, Nat.reduceAdd, Nat.reduceSub, Array.replicate_succ, Array.replicate_zero, List.push_toArray, List.append_toArray, List.nil_append, List.cons_append]
  have HIS : Hid (∀ u : World, Calls Tryz.prog 14 #[.agg #[.bool b0, .bool b1, .bool b2, .bool b3, .slice no nn nc, .bool b5, .slice xo nx xc, .slice ao NA ac, .slice oo NO oc]] u fun en w' => en = .returned (.func (.func 31) #[] #[.pointer (some ⟨u.heap.size, 0, none⟩)]) ∧ w' = u.alloc (.cells #[.bool b0, .bool b1, .bool b2, .bool b3, .slice no nn nc, .bool b5, .slice xo nx xc, .slice ao NA ac, .slice oo NO oc] 27)) := by
    intro u
    obtain ⟨a, e, h⟩ := w_insideT (.agg #[.bool b0, .bool b1, .bool b2, .bool b3, .slice no nn nc, .bool b5, .slice xo nx xc, .slice ao NA ac, .slice oo NO oc]) ⟨b0, b1, b2, b3, no, nn, nc, b5, xo, nx, xc, ao, NA, ac, oo, NO, oc, rfl⟩ u
    obtain rfl := Value.agg.inj e
    exact h
  obtain ⟨W0, hW0⟩ : ∃ W0, (((w.alloc (.cells #[.bool b0, .bool b1, .bool b2, .bool b3, .slice no nn nc, .bool b5, .slice xo nx xc, .slice ao NA ac, .slice oo NO oc] 27)).alloc (.cells #[.bool false] 4)).alloc (.cells #[.bool b0, .bool b1, .bool b2, .bool b3, .slice no nn nc, .bool b5, .slice xo nx xc, .slice ao NA ac, .slice oo NO oc] 41)) = W0 := ⟨_, rfl⟩
  have HF0 : Hid (FBx w W0 b0 b1 b2 b3 no nn nc b5 xo nx xc ao NA ac oo NO oc) := by
    rw [← hW0]
    refine ⟨(((Below.refl _ w).alloc (Nat.le_refl _) _).alloc (by simp) _).alloc (by simp; omega) _, ⟨by simp [go_sem], by simp [go_sem], by simp [go_sem], by simp [go_sem], by simp [go_sem], by simp [go_sem], by simp [go_sem], by simp [go_sem], by simp [go_sem]⟩, ?_, ⟨⟨by simp [go_sem], by simp [go_sem], by simp [go_sem], by simp [go_sem], by simp [go_sem], by simp [go_sem], by simp [go_sem], by simp [go_sem], by simp [go_sem]⟩, by simp⟩⟩
    have := (Boxed.new (w.alloc (.cells #[.bool b0, .bool b1, .bool b2, .bool b3, .slice no nn nc, .bool b5, .slice xo nx xc, .slice ao NA ac, .slice oo NO oc] 27)) 4 (.bool false)).alloc (.cells #[.bool b0, .bool b1, .bool b2, .bool b3, .slice no nn nc, .bool b5, .slice xo nx xc, .slice ao NA ac, .slice oo NO oc] 41)
    simpa only [World.size_alloc] using this
  gi_wp2_with fail
  refine ⟨trivial, (callsIn_wide.2 (w_rules _ _)).mono ?_⟩
  rintro e w1 ⟨rfl, hq⟩
  have HF1 := Hid.mk (HF0.out.keep hq)
  clear hq hW0 HF0
  gi_wp2_with fail
  refine wpIn_loop_rounds 6 ?_
  rw [roundsIn_succ]
  have ix := rul_ix0 (w.heap.size + 1 + 1)
  gi_wp2_with fail
  refine ⟨trivial, (callsIn_wide.2 (HR0.out _ _ HF1.out.below HF1.out.ask)).mono ?_⟩
  rintro e w2 ⟨rfl, hq⟩
  have HF2 := Hid.mk (HF1.out.keep hq)
  clear hq HF1 ix
  cases r0 with
  | false =>
    have a0 := HF2.out.ans.cell
    have a1 := HF2.out.ans.frozen
    gi_wp2_with fail
    have s0 := (HF2.out.ans.set (.bool false)).cell
    have sB := HF2.out.below.setCell (p := ⟨w.heap.size + 1, 0, none⟩) (by show _ ≤ w.heap.size + 1; omega) (.bool false)
    exact ⟨.bool false, by simp [results, Tryz.results6, go_sem, s0], by first | rfl | simp, sB⟩
  | true =>
    gi_wp2_with fail
    rw [roundsIn_succ]
    have ix := rul_ix1 (w.heap.size + 1 + 1)
    gi_wp2_with fail
    refine ⟨trivial, (callsIn_wide.2 (HR1.out _ _ HF2.out.below HF2.out.ask)).mono ?_⟩
    rintro e w3 ⟨rfl, hq⟩
    have HF3 := Hid.mk (HF2.out.keep hq)
    clear hq HF2 ix
    cases r1 with
    | false =>
      have a0 := HF3.out.ans.cell
      have a1 := HF3.out.ans.frozen
      gi_wp2_with fail
      have s0 := (HF3.out.ans.set (.bool false)).cell
      have sB := HF3.out.below.setCell (p := ⟨w.heap.size + 1, 0, none⟩) (by show _ ≤ w.heap.size + 1; omega) (.bool false)
      exact ⟨.bool false, by simp [results, Tryz.results6, go_sem, s0], by first | rfl | simp, sB⟩
    | true =>
      gi_wp2_with fail
      rw [roundsIn_succ]
      have ix := rul_ix2 (w.heap.size + 1 + 1)
      gi_wp2_with fail
      refine ⟨trivial, (callsIn_wide.2 (HR2.out _ _ HF3.out.below HF3.out.ask)).mono ?_⟩
      rintro e w4 ⟨rfl, hq⟩
      have HF4 := Hid.mk (HF3.out.keep hq)
      clear hq HF3 ix
      cases r2 with
      | false =>
        have a0 := HF4.out.ans.cell
        have a1 := HF4.out.ans.frozen
        gi_wp2_with fail
        have s0 := (HF4.out.ans.set (.bool false)).cell
        have sB := HF4.out.below.setCell (p := ⟨w.heap.size + 1, 0, none⟩) (by show _ ≤ w.heap.size + 1; omega) (.bool false)
        exact ⟨.bool false, by simp [results, Tryz.results6, go_sem, s0], by first | rfl | simp, sB⟩
      | true =>
        gi_wp2_with fail
        rw [roundsIn_succ]
        have ix := rul_ix3 (w.heap.size + 1 + 1)
        gi_wp2_with fail
        refine ⟨trivial, (callsIn_wide.2 (HR3.out _ _ HF4.out.below HF4.out.ask)).mono ?_⟩
        rintro e w5 ⟨rfl, hq⟩
        have HF5 := Hid.mk (HF4.out.keep hq)
        clear hq HF4 ix
        cases r3 with
        | false =>
          have a0 := HF5.out.ans.cell
          have a1 := HF5.out.ans.frozen
          gi_wp2_with fail
          have s0 := (HF5.out.ans.set (.bool false)).cell
          have sB := HF5.out.below.setCell (p := ⟨w.heap.size + 1, 0, none⟩) (by show _ ≤ w.heap.size + 1; omega) (.bool false)
          exact ⟨.bool false, by simp [results, Tryz.results6, go_sem, s0], by first | rfl | simp, sB⟩
        | true =>
          gi_wp2_with fail
          rw [roundsIn_succ]
          have ix := rul_ix4 (w.heap.size + 1 + 1)
          gi_wp2_with fail
          refine ⟨trivial, (callsIn_wide.2 (HR4.out _ _ HF5.out.below HF5.out.ask)).mono ?_⟩
          rintro e w6 ⟨rfl, hq⟩
          have HF6 := Hid.mk (HF5.out.keep hq)
          clear hq HF5 ix
          cases r4 with
          | false =>
            have a0 := HF6.out.ans.cell
            have a1 := HF6.out.ans.frozen
            gi_wp2_with fail
            have s0 := (HF6.out.ans.set (.bool false)).cell
            have sB := HF6.out.below.setCell (p := ⟨w.heap.size + 1, 0, none⟩) (by show _ ≤ w.heap.size + 1; omega) (.bool false)
            exact ⟨.bool false, by simp [results, Tryz.results6, go_sem, s0], by first | rfl | simp, sB⟩
          | true =>
            gi_wp2_with fail
            rw [roundsIn_succ]
            obtain ⟨t0, t1, t2, t3, t4, t5, t6, t7, t8⟩ := HF6.out.box
            simp only [Nat.zero_add] at t1 t2 t3 t4 t5 t6 t7 t8
            gi_wp2_with fail
            refine ⟨trivial, (callsIn_wide.2 (HIS.out _)).mono ?_⟩
            rintro e w7 ⟨rfl, rfl⟩
            gi_wp2_with fail
            obtain ⟨W7, hW7⟩ : ∃ W7, w6.alloc (.cells #[.bool b0, .bool b1, .bool b2, .bool b3, .slice no nn nc, .bool b5, .slice xo nx xc, .slice ao NA ac, .slice oo NO oc] 27) = W7 := ⟨_, rfl⟩
            have h6 := HF6.out.ask.lt
            have hb6 := HF6.out.below.size
            have hsz7 : W7.heap.size = w6.heap.size + 1 := by rw [← hW7]; simp
            have hB67 : Below w6.heap.size w6 W7 := by rw [← hW7]; exact below1 w6 _
            have hB7 : Below w.heap.size w W7 := HF6.out.below.trans (hB67.mono HF6.out.below.size)
            have bS : Boxed W7 (w.heap.size + 1) 4 (.bool false) := tboxed_low HF6.out.ans hB67
            have hS0 : InTS W7 w.heap.size w6.heap.size ao ac oo oc az os := HST.out W7 _ hB7 (by rw [← hW7]; simp [go_sem]) (by rw [← hW7]; simp [go_sem])
            rw [hW7]
            clear hW7 t0 t1 t2 t3 t4 t5 t6 t7 t8 hB67 HF6
            refine wpIn_rangeFunc_ownH rfl (by omega) (gf := 31) (lb := #[.pointer (some ⟨w6.heap.size, 0, none⟩)]) rfl trivial (enters_of Tryz.func31 (by kernel_rfl) rfl)
              (insideT_stops (5 - 1) (by omega) w.heap.size w6.heap.size W7.heap.size ao ac oo oc az os (by rw [HLA.out]; exact hA) (by rw [HLO.out]; exact hO) (by rw [HLA.out]; exact hA2) (by rw [HLO.out]; exact hO2) HSH.out W7 (by omega) (Nat.le_refl _) hS0) (fun h k => h.trans k) (KpT.put (by omega)) (Below.refl _ _) (fun _ => rfl)
              (fun pre W => (Boxed W (w.heap.size + 1) 4 (.bool false) ∧ Below w.heap.size w W) ∧ ∀ x ∈ pre, fmN h x.1.1 = true)
              (fun c pre W => (Boxed W (w.heap.size + 1) 4 (.bool false) ∧ Below w.heap.size w W) ∧ (c = .ret ∧ ((partsT az os).all fun x => fmN h x.1) = false))
              (OwnFrom.and (OwnFrom.and (Own.from (boxed_own _ _ _) _) (ownFrom_below (Nat.le_refl _) (by omega))) (ownFrom_pure _ _))
              (fun c => OwnFrom.and (OwnFrom.and (Own.from (boxed_own _ _ _) _) (ownFrom_below (Nat.le_refl _) (by omega))) (ownFrom_pure _ _))
              ⟨⟨bS, hB7⟩, fun x hx => absurd hx (List.not_mem_nil)⟩
              (fun x a' W => ∃ Bx, w.heap.size + 1 < Bx ∧ IB9 W Bx x.1.2 ∧ a' = { tmps := #[.agg #[.bool b0, .bool b1, .bool b2, .bool b3, .slice no nn nc, .bool b5, .slice xo nx xc, .slice ao NA ac, .slice oo NO oc], .pointer (some ⟨w.heap.size, 0, none⟩), .pointer (some ⟨w.heap.size + 1, 0, none⟩), .pointer (some ⟨w.heap.size + 1 + 1, 0, none⟩), undef, .func (.func 30) #[.pointer (some ⟨w.heap.size + 1 + 1, 0, none⟩)] #[], .pointer (some ⟨Bx, 0, none⟩), .agg #[.bool b0, .bool b1, .bool b2, .bool b3, .slice no nn nc, .bool b5, .slice xo nx xc, .slice ao NA ac, .slice oo NO oc], .agg #[.func (.func 26) #[.pointer (some ⟨w.heap.size + 1 + 1, 0, none⟩)] #[], .func (.func 27) #[.pointer (some ⟨w.heap.size + 1 + 1, 0, none⟩)] #[], .func (.func 28) #[.pointer (some ⟨w.heap.size + 1 + 1, 0, none⟩)] #[], .func (.func 29) #[.pointer (some ⟨w.heap.size + 1 + 1, 0, none⟩)] #[], .func (.func 30) #[.pointer (some ⟨w.heap.size + 1 + 1, 0, none⟩)] #[]], .int .i64 5, .bool false, .func (.func 30) #[.pointer (some ⟨w.heap.size + 1 + 1, 0, none⟩)] #[], .func (.func 30) #[.pointer (some ⟨w.heap.size + 1 + 1, 0, none⟩)] #[], .bool true, .bool false, .int .i64 5, .agg #[.bool b0, .bool b1, .bool b2, .bool b3, .slice no nn nc, .bool b5, .slice xo nx xc, .slice ao NA ac, .slice oo NO oc], .func (.func 31) #[] #[.pointer (some ⟨w6.heap.size, 0, none⟩)], x.1.2, undef, undef, undef], defers := [] })
              (fun x a' _ X Y row hs hg hr => by
                obtain ⟨Bx, h1, h2, h3⟩ := hs
                exact ⟨Bx, h1, ib9_own _ Bx x.1.2 () X Y row h2 hg hr, h3⟩)
              ?assign ?body ?done ?stop
            case assign =>
              rintro l pre x W KK ⟨⟨bS1, hB1⟩, hfo⟩ hKK
              obtain ⟨sa, sb, sc, sd, seo, sen, sec, sf, sgo, sgn, sgc, sio, sinn, sic, sjo, sjn, sjc, hsv⟩ := HSH.out x.1 x.2
              have hI : IB9 (W.alloc (.cells #[.bool sa, .bool sb, .bool sc, .bool sd, .slice seo sen sec, .bool sf, .slice sgo sgn sgc, .slice sio sinn sic, .slice sjo sjn sjc] 27)) W.heap.size x.1.2 := ⟨_, hsv, World.alloc_heap_new W _⟩
              have FIN := hKK { tmps := #[.agg #[.bool b0, .bool b1, .bool b2, .bool b3, .slice no nn nc, .bool b5, .slice xo nx xc, .slice ao NA ac, .slice oo NO oc], .pointer (some ⟨w.heap.size, 0, none⟩), .pointer (some ⟨w.heap.size + 1, 0, none⟩), .pointer (some ⟨w.heap.size + 1 + 1, 0, none⟩), undef, .func (.func 30) #[.pointer (some ⟨w.heap.size + 1 + 1, 0, none⟩)] #[], .pointer (some ⟨W.heap.size, 0, none⟩), .agg #[.bool b0, .bool b1, .bool b2, .bool b3, .slice no nn nc, .bool b5, .slice xo nx xc, .slice ao NA ac, .slice oo NO oc], .agg #[.func (.func 26) #[.pointer (some ⟨w.heap.size + 1 + 1, 0, none⟩)] #[], .func (.func 27) #[.pointer (some ⟨w.heap.size + 1 + 1, 0, none⟩)] #[], .func (.func 28) #[.pointer (some ⟨w.heap.size + 1 + 1, 0, none⟩)] #[], .func (.func 29) #[.pointer (some ⟨w.heap.size + 1 + 1, 0, none⟩)] #[], .func (.func 30) #[.pointer (some ⟨w.heap.size + 1 + 1, 0, none⟩)] #[]], .int .i64 5, .bool false, .func (.func 30) #[.pointer (some ⟨w.heap.size + 1 + 1, 0, none⟩)] #[], .func (.func 30) #[.pointer (some ⟨w.heap.size + 1 + 1, 0, none⟩)] #[], .bool true, .bool false, .int .i64 5, .agg #[.bool b0, .bool b1, .bool b2, .bool b3, .slice no nn nc, .bool b5, .slice xo nx xc, .slice ao NA ac, .slice oo NO oc], .func (.func 31) #[] #[.pointer (some ⟨w6.heap.size, 0, none⟩)], x.1.2, undef, undef, undef], defers := [] } _ ((KeepsOthers.alloc _ _).from _) (KpT.of_below hB1.size (below1 W _)) ⟨⟨bS1.alloc _, hB1.alloc hB1.size _⟩, hfo⟩ ⟨W.heap.size, bS1.lt, hI, rfl⟩
              dsimp only
              rw [hsv] at FIN ⊢
              clear hKK hI bS1 hB1 hfo
              gi_wp2_with fail
              exact FIN
            case body =>
              rintro l pre x a' W hl ⟨r, hr⟩ ⟨⟨bS1, hB1⟩, hfo⟩ ⟨Bx, hBx, bX, rfl⟩ hlt
              obtain ⟨sa, sb, sc, sd, seo, sen, sec, sf, sgo, sgn, sgc, sio, sinn, sic, sjo, sjn, sjc, hsv⟩ := HSH.out x.1 x.2
              obtain ⟨ax, hax, hrow⟩ := bX.row
              rw [hsv] at hax
              obtain rfl := Value.agg.inj hax
              have c0 := cell_of_row _ _ 0 _ _ _ hrow
              have c1 := cell_of_row _ _ 1 _ _ _ hrow
              have c2 := cell_of_row _ _ 2 _ _ _ hrow
              have c3 := cell_of_row _ _ 3 _ _ _ hrow
              have c4 := cell_of_row _ _ 4 _ _ _ hrow
              have c5 := cell_of_row _ _ 5 _ _ _ hrow
              have c6 := cell_of_row _ _ 6 _ _ _ hrow
              have c7 := cell_of_row _ _ 7 _ _ _ hrow
              have c8 := cell_of_row _ _ 8 _ _ _ hrow
              have HCALL : Hid (Calls Tryz.prog 6 #[.agg #[.bool sa, .bool sb, .bool sc, .bool sd, .slice seo sen sec, .bool sf, .slice sgo sgn sgc, .slice sio sinn sic, .slice sjo sjn sjc]] W fun e w' => e = .returned (.bool (fmN h x.1.1)) ∧ Below W.heap.size W w') := by
                show Calls _ _ _ _ _
                rw [← hsv]
                exact HIH.out x.1.1 _ W ((HIN.out x.1 x.2).keep hB1)
              have HX : Hid (∀ w', Below W.heap.size W w' → KeepsFrom W7.heap.size W w' ∧ KpT w.heap.size w6.heap.size W7.heap.size W w' ∧ Boxed w' (w.heap.size + 1) 4 (.bool false) ∧ Below w.heap.size w w') := fun w' hb => ⟨tkeepsFrom hb, KpT.of_below hB1.size hb, tboxed_low bS1 hb, hB1.trans (hb.mono hB1.size)⟩
              have HY : Hid (∀ w', Below W.heap.size W w' → KeepsFrom W7.heap.size W (w'.setCell ⟨w.heap.size + 1, 0, none⟩ (.bool false)) ∧ Boxed (w'.setCell ⟨w.heap.size + 1, 0, none⟩ (.bool false)) (w.heap.size + 1) 4 (.bool false) ∧ Below w.heap.size w (w'.setCell ⟨w.heap.size + 1, 0, none⟩ (.bool false))) := fun w' hb => ⟨(tkeepsFrom hb).trans ((KeepsOthers.setCell _ _ _).from _), (tboxed_low bS1 hb).set _, (hB1.trans (hb.mono hB1.size)).setCell (p := ⟨w.heap.size + 1, 0, none⟩) (by show _ ≤ w.heap.size + 1; omega) _⟩
              have HA : Hid (∀ w', Below W.heap.size W w' → w'.cell? ⟨w.heap.size + 1, 0, none⟩ = some (.bool false) ∧ w'.frozen? ⟨w.heap.size + 1, 0, none⟩ = false) := fun w' hb => ⟨(tboxed_low bS1 hb).cell, (tboxed_low bS1 hb).frozen⟩
              have HFO := Hid.mk hfo
              have HXM := Hid.mk x.2
              clear bS1 hB1 bX hr hrow hsv hfo
              have h1' : 1 ≤ 5 - 1 - 1 := by omega
              cases hf : fmN h x.1.1 with
              | true =>
                have HC2 := HCALL.out
                rw [hf] at HC2
                have HN : Hid (∀ y ∈ pre ++ [x], fmN h y.1.1 = true) := fun y hy => by rcases List.mem_append.1 hy with hy | hy; exact HFO.out y hy; obtain rfl := List.mem_singleton.1 hy; exact hf
                have HCC := Hid.mk HC2
                clear HC2 hf
                gi_wp2_with fail
                refine ⟨trivial, (CallsIn.inRound l (callsIn_wide.2 HCC.out)).mono ?_⟩
                rintro e w' ⟨rfl, hbw⟩
                have HBW := Hid.mk hbw
                obtain ⟨a0, a1⟩ := HA.out w' hbw
                clear hbw c0 c1 c2 c3 c4 c5 c6 c7 c8
                gi_wp2_with fail
                have hx := HX.out w' HBW.out
                exact ⟨hx.1, hx.2.1, ⟨hx.2.2.1, hx.2.2.2⟩, HN.out⟩
              | false =>
                have HC2 := HCALL.out
                rw [hf] at HC2
                have HN : Hid (((partsT az os).all fun x => fmN h x.1) = false) := by show _ = _; rw [List.all_eq_false]; exact ⟨x.1, HXM.out, by rw [hf]; simp⟩
                have HCC := Hid.mk HC2
                clear HC2 hf
                gi_wp2_with fail
                refine ⟨trivial, (CallsIn.inRound l (callsIn_wide.2 HCC.out)).mono ?_⟩
                rintro e w' ⟨rfl, hbw⟩
                have HBW := Hid.mk hbw
                obtain ⟨a0, a1⟩ := HA.out w' hbw
                clear hbw c0 c1 c2 c3 c4 c5 c6 c7 c8
                gi_wp2_with fail
                have hx := HY.out w' HBW.out
                exact ⟨hx.1, ⟨hx.2.1, hx.2.2⟩, rfl, HN.out⟩
            case done =>
              rintro D zs W hD hz ⟨⟨bS1, hB1⟩, hfo⟩ hK
              have hfin : Hid (((partsT az os).all fun x => fmN h x.1) = true) := by
                show _ = _
                rw [List.all_eq_true]
                intro y hy
                rw [← hz] at hy
                obtain ⟨z, hz1, rfl⟩ := List.mem_map.1 hy
                exact hfo z hz1
              have a0 := bS1.cell
              have a1 := bS1.frozen
              clear hfo hz
              gi_wp2_with fail
              have s0 := (bS1.set (.bool true)).cell
              have sB := hB1.setCell (p := ⟨w.heap.size + 1, 0, none⟩) (by show _ ≤ w.heap.size + 1; omega) (.bool true)
              have hK2 : (W.setCell ⟨w.heap.size + 1, 0, none⟩ (.bool true)).heap[D]? = some (.deferred (some [])) := (set_other W (w.heap.size + 1) D (by omega) _).trans hK
              have s1 := fun o' => put_cell (o' := o') hK2 rfl s0
              refine ⟨by simp, .inl ⟨_, _, rfl, run_takeDeferred hK2, ?_⟩⟩
              exact ⟨.bool true, by simp [results, Tryz.results6, go_sem, s1], by rw [hfin.out]; rfl, sB.trans (belowK_b (w := w) (Nat.le_refl _) _ D _ _ (by omega) hK2 rfl rfl)⟩
            case stop =>
              rintro D c pre W hD _ ⟨⟨bS1, hB1⟩, rfl, hno⟩ hK
              have HNO := Hid.mk hno
              clear hno
              gi_wp2_with fail
              have s1 := fun o' => put_cell (o' := o') hK rfl bS1.cell
              refine ⟨by simp, .inl ⟨_, _, rfl, run_takeDeferred hK, ?_⟩⟩
              exact ⟨.bool false, by simp [results, Tryz.results6, go_sem, s1], by rw [HNO.out]; rfl, hB1.trans (belowK_b (w := w) (Nat.le_refl _) _ D _ _ (by omega) hK rfl rfl)⟩

/-- THE PROGRAM'S FORMED, of every type -/
theorem w_pFormed : ∀ h, FpOk h := by
  intro h
  induction h with
  | zero => intro T v w hI; exact hI.elim
  | succ h ih =>
    intro T v w hI
    have hI2 := hI
    obtain ⟨no, nc, xo, xc, ao, ac, oo, oc, rfl, ⟨a1, a2, a3, a4⟩, ⟨a5, a6, a7, a8⟩, z1, z2, hs, hk, ha, ho⟩ := hI
    obtain ⟨az, os, lA, lO, hA, hO, hA2, hO2, hmap, hin, hst⟩ := parts_open hI2
    have hAr : ArIn w h ao T.arrs := ⟨ha⟩
    have hOb : ObIn w h oo T.objs := ⟨fun h0 => by
      obtain ⟨b, off, e, hl, hc⟩ := ho h0
      refine ⟨b, off, e, hl, fun i hi => ?_⟩
      obtain ⟨ko, kc, fo, fc, mo, mc, c0, c1, c2, c3, c4, c5, c6, c7, c8, g, h1, h2, h3, h4, h5, h6, h7⟩ := hc i hi
      exact ⟨ko, kc, fo, fc, mo, mc, c0, c1, c2, c3, c4, c5, c6, c7, c8, g, h1, ⟨h2, h3, h4, h5, h6, h7⟩⟩⟩
    have key := formed_step h ih T.all T.nul T.fls T.tru T.any no xo ao oo T.nums.length nc T.texts.length xc T.arrs.length ac T.objs.length oc az os w lA lO hA hO hA2 hO2 hin hst _ _ _ _ _
      (Hid.mk fun u B hu hx => w_allAlone _ _ _ _ _ _ _ _ _ _ _ _ _ _ _ _ _ u B hx a5 a6 a7 a8)
      (Hid.mk fun u B hu hx => w_numsFormed _ _ _ _ _ _ _ _ _ _ _ _ _ _ _ _ _ u B hx T.nums (hs.keep hu) rfl a1 a5 z1)
      (Hid.mk fun u B hu hx => w_textsFormed _ _ _ _ _ _ _ _ _ _ _ _ _ _ _ _ _ u B hx a6 _ (Hid.mk fun x hxx => w_sRising xo _ xc T.texts x (hk.keep (hu.trans (hxx.mono hu.size))) rfl a2 a6 z2))
      (Hid.mk fun u B hu hx => w_arraysFormed h _ _ _ _ _ _ _ _ _ _ _ _ _ _ _ _ _ u B hx T.arrs (hAr.keep hu) rfl a3 a7)
      (Hid.mk fun u B hu hx => w_objectsFormed h _ _ _ _ _ _ _ _ _ _ _ _ _ _ _ _ _ u B hx T.objs (hOb.keep hu) rfl a4 a8)
    have e : fmN (h + 1) T = ((!T.all || bareT T.nul T.fls T.tru T.any T.nums.length T.texts.length T.arrs.length T.objs.length) && (spB T.nums && (((rK T.texts T.texts.length && oK T.texts T.texts.length) && !(T.any && decide (0 < T.texts.length))) && ((T.arrs.all laOk && decide (T.arrs.length ≤ 1)) && (T.objs.all loOk && (partsT az os).all fun x => fmN h x.1))))) := by
      rw [fm_split, ← hmap, List.all_map]
      exact bool_split _ _ _ _ _ _ _
    rw [e]
    exact key

end Go.Proofs.YthcohnnikmpjkaaGreat
