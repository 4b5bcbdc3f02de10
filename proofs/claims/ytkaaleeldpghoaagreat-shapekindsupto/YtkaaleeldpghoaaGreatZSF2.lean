import Derived.Test.YtkaaleeldpghoaaGreatZSF1
namespace Go.Proofs.YtkaaleeldpghoaaGreat
open Go.RowKit Go.Shelf Go.Sort
set_option linter.unusedVariables false
set_option linter.unusedSimpArgs false
attribute [local go_sem] Oper.semAt_some

theorem w_bitn0 (w : World) : Calls Tryz.prog 19 #[.int .i64 0] w fun e w' => e = .returned (.int .u8 1) ∧ w' = w := by
  go_enter Tryz.func19, Tryz.ntmps19
  go_wp2_with fail
  go_ret
  exact ⟨by first | rfl | decide, rfl⟩
theorem w_bitn1 (w : World) : Calls Tryz.prog 19 #[.int .i64 1] w fun e w' => e = .returned (.int .u8 2) ∧ w' = w := by
  go_enter Tryz.func19, Tryz.ntmps19
  go_wp2_with fail
  go_ret
  exact ⟨by first | rfl | decide, rfl⟩
theorem w_bitn2 (w : World) : Calls Tryz.prog 19 #[.int .i64 2] w fun e w' => e = .returned (.int .u8 4) ∧ w' = w := by
  go_enter Tryz.func19, Tryz.ntmps19
  go_wp2_with fail
  go_ret
  exact ⟨by first | rfl | decide, rfl⟩
theorem w_bitn3 (w : World) : Calls Tryz.prog 19 #[.int .i64 3] w fun e w' => e = .returned (.int .u8 8) ∧ w' = w := by
  go_enter Tryz.func19, Tryz.ntmps19
  go_wp2_with fail
  go_ret
  exact ⟨by first | rfl | decide, rfl⟩
theorem w_bitn4 (w : World) : Calls Tryz.prog 19 #[.int .i64 4] w fun e w' => e = .returned (.int .u8 16) ∧ w' = w := by
  go_enter Tryz.func19, Tryz.ntmps19
  go_wp2_with fail
  go_ret
  exact ⟨by first | rfl | decide, rfl⟩
theorem w_bitn5 (w : World) : Calls Tryz.prog 19 #[.int .i64 5] w fun e w' => e = .returned (.int .u8 32) ∧ w' = w := by
  go_enter Tryz.func19, Tryz.ntmps19
  go_wp2_with fail
  go_ret
  exact ⟨by first | rfl | decide, rfl⟩
theorem w_bitn6 (w : World) : Calls Tryz.prog 19 #[.int .i64 6] w fun e w' => e = .returned (.int .u8 64) ∧ w' = w := by
  go_enter Tryz.func19, Tryz.ntmps19
  go_wp2_with fail
  go_ret
  exact ⟨by first | rfl | decide, rfl⟩
set_option maxRecDepth 100000 in
theorem has_ix0 (B : Nat) (u : World) : (Instr.index 61 (.agg #[.func (.func 43) #[.pointer (some ⟨B, 0, none⟩)] #[], .func (.func 44) #[.pointer (some ⟨B, 0, none⟩)] #[], .func (.func 45) #[.pointer (some ⟨B, 0, none⟩)] #[], .func (.func 46) #[.pointer (some ⟨B, 0, none⟩)] #[], .func (.func 47) #[.pointer (some ⟨B, 0, none⟩)] #[], .func (.func 48) #[.pointer (some ⟨B, 0, none⟩)] #[], .func (.func 49) #[.pointer (some ⟨B, 0, none⟩)] #[]]) (.int .i64 0)).run Tryz.prog u = .ok (.func (.func 43) #[.pointer (some ⟨B, 0, none⟩)] #[]) u := by kernel_rfl
set_option maxRecDepth 100000 in
theorem has_ix1 (B : Nat) (u : World) : (Instr.index 61 (.agg #[.func (.func 43) #[.pointer (some ⟨B, 0, none⟩)] #[], .func (.func 44) #[.pointer (some ⟨B, 0, none⟩)] #[], .func (.func 45) #[.pointer (some ⟨B, 0, none⟩)] #[], .func (.func 46) #[.pointer (some ⟨B, 0, none⟩)] #[], .func (.func 47) #[.pointer (some ⟨B, 0, none⟩)] #[], .func (.func 48) #[.pointer (some ⟨B, 0, none⟩)] #[], .func (.func 49) #[.pointer (some ⟨B, 0, none⟩)] #[]]) (.int .i64 1)).run Tryz.prog u = .ok (.func (.func 44) #[.pointer (some ⟨B, 0, none⟩)] #[]) u := by kernel_rfl
set_option maxRecDepth 100000 in
theorem has_ix2 (B : Nat) (u : World) : (Instr.index 61 (.agg #[.func (.func 43) #[.pointer (some ⟨B, 0, none⟩)] #[], .func (.func 44) #[.pointer (some ⟨B, 0, none⟩)] #[], .func (.func 45) #[.pointer (some ⟨B, 0, none⟩)] #[], .func (.func 46) #[.pointer (some ⟨B, 0, none⟩)] #[], .func (.func 47) #[.pointer (some ⟨B, 0, none⟩)] #[], .func (.func 48) #[.pointer (some ⟨B, 0, none⟩)] #[], .func (.func 49) #[.pointer (some ⟨B, 0, none⟩)] #[]]) (.int .i64 2)).run Tryz.prog u = .ok (.func (.func 45) #[.pointer (some ⟨B, 0, none⟩)] #[]) u := by kernel_rfl
set_option maxRecDepth 100000 in
theorem has_ix3 (B : Nat) (u : World) : (Instr.index 61 (.agg #[.func (.func 43) #[.pointer (some ⟨B, 0, none⟩)] #[], .func (.func 44) #[.pointer (some ⟨B, 0, none⟩)] #[], .func (.func 45) #[.pointer (some ⟨B, 0, none⟩)] #[], .func (.func 46) #[.pointer (some ⟨B, 0, none⟩)] #[], .func (.func 47) #[.pointer (some ⟨B, 0, none⟩)] #[], .func (.func 48) #[.pointer (some ⟨B, 0, none⟩)] #[], .func (.func 49) #[.pointer (some ⟨B, 0, none⟩)] #[]]) (.int .i64 3)).run Tryz.prog u = .ok (.func (.func 46) #[.pointer (some ⟨B, 0, none⟩)] #[]) u := by kernel_rfl
set_option maxRecDepth 100000 in
theorem has_ix4 (B : Nat) (u : World) : (Instr.index 61 (.agg #[.func (.func 43) #[.pointer (some ⟨B, 0, none⟩)] #[], .func (.func 44) #[.pointer (some ⟨B, 0, none⟩)] #[], .func (.func 45) #[.pointer (some ⟨B, 0, none⟩)] #[], .func (.func 46) #[.pointer (some ⟨B, 0, none⟩)] #[], .func (.func 47) #[.pointer (some ⟨B, 0, none⟩)] #[], .func (.func 48) #[.pointer (some ⟨B, 0, none⟩)] #[], .func (.func 49) #[.pointer (some ⟨B, 0, none⟩)] #[]]) (.int .i64 4)).run Tryz.prog u = .ok (.func (.func 47) #[.pointer (some ⟨B, 0, none⟩)] #[]) u := by kernel_rfl
set_option maxRecDepth 100000 in
theorem has_ix5 (B : Nat) (u : World) : (Instr.index 61 (.agg #[.func (.func 43) #[.pointer (some ⟨B, 0, none⟩)] #[], .func (.func 44) #[.pointer (some ⟨B, 0, none⟩)] #[], .func (.func 45) #[.pointer (some ⟨B, 0, none⟩)] #[], .func (.func 46) #[.pointer (some ⟨B, 0, none⟩)] #[], .func (.func 47) #[.pointer (some ⟨B, 0, none⟩)] #[], .func (.func 48) #[.pointer (some ⟨B, 0, none⟩)] #[], .func (.func 49) #[.pointer (some ⟨B, 0, none⟩)] #[]]) (.int .i64 5)).run Tryz.prog u = .ok (.func (.func 48) #[.pointer (some ⟨B, 0, none⟩)] #[]) u := by kernel_rfl
set_option maxRecDepth 100000 in
theorem has_ix6 (B : Nat) (u : World) : (Instr.index 61 (.agg #[.func (.func 43) #[.pointer (some ⟨B, 0, none⟩)] #[], .func (.func 44) #[.pointer (some ⟨B, 0, none⟩)] #[], .func (.func 45) #[.pointer (some ⟨B, 0, none⟩)] #[], .func (.func 46) #[.pointer (some ⟨B, 0, none⟩)] #[], .func (.func 47) #[.pointer (some ⟨B, 0, none⟩)] #[], .func (.func 48) #[.pointer (some ⟨B, 0, none⟩)] #[], .func (.func 49) #[.pointer (some ⟨B, 0, none⟩)] #[]]) (.int .i64 6)).run Tryz.prog u = .ok (.func (.func 49) #[.pointer (some ⟨B, 0, none⟩)] #[]) u := by kernel_rfl
set_option maxRecDepth 100000 in
set_option maxHeartbeats 1600000 in
theorem w_has (B : Nat) (w : World) : Calls Tryz.prog 24 #[.pointer (some ⟨B, 0, none⟩)] w fun e w' => e = .returned (.agg #[.func (.func 43) #[.pointer (some ⟨B, 0, none⟩)] #[], .func (.func 44) #[.pointer (some ⟨B, 0, none⟩)] #[], .func (.func 45) #[.pointer (some ⟨B, 0, none⟩)] #[], .func (.func 46) #[.pointer (some ⟨B, 0, none⟩)] #[], .func (.func 47) #[.pointer (some ⟨B, 0, none⟩)] #[], .func (.func 48) #[.pointer (some ⟨B, 0, none⟩)] #[], .func (.func 49) #[.pointer (some ⟨B, 0, none⟩)] #[]]) ∧ Below w.heap.size w w' := by
  have HB := Hid.mk (below1 w (.cells #[.func (.func 43) #[.pointer (some ⟨B, 0, none⟩)] #[], .func (.func 44) #[.pointer (some ⟨B, 0, none⟩)] #[], .func (.func 45) #[.pointer (some ⟨B, 0, none⟩)] #[], .func (.func 46) #[.pointer (some ⟨B, 0, none⟩)] #[], .func (.func 47) #[.pointer (some ⟨B, 0, none⟩)] #[], .func (.func 48) #[.pointer (some ⟨B, 0, none⟩)] #[], .func (.func 49) #[.pointer (some ⟨B, 0, none⟩)] #[]] 61))
  go_enter Tryz.func24, Tryz.ntmps24
  go_wp2_with fail
  (try simp only [Exit.inBlock, Exit.then])
  refine bodyPost_ret (v := .agg #[.func (.func 43) #[.pointer (some ⟨B, 0, none⟩)] #[], .func (.func 44) #[.pointer (some ⟨B, 0, none⟩)] #[], .func (.func 45) #[.pointer (some ⟨B, 0, none⟩)] #[], .func (.func 46) #[.pointer (some ⟨B, 0, none⟩)] #[], .func (.func 47) #[.pointer (some ⟨B, 0, none⟩)] #[], .func (.func 48) #[.pointer (some ⟨B, 0, none⟩)] #[], .func (.func 49) #[.pointer (some ⟨B, 0, none⟩)] #[]]) (by simp [results, Tryz.results24, go_sem]) rfl ?_
  exact ⟨rfl, HB.out⟩

set_option maxRecDepth 100000 in
theorem or_ok0 : ∀ (r : Fin 128), 0 < bits .or .u8 (r.1 : Int) 1 ∧ bits .or .u8 (r.1 : Int) 1 ≤ 127 := by decide +kernel
set_option maxRecDepth 100000 in
theorem or_ok1 : ∀ (r : Fin 128), 0 < bits .or .u8 (r.1 : Int) 2 ∧ bits .or .u8 (r.1 : Int) 2 ≤ 127 := by decide +kernel
set_option maxRecDepth 100000 in
theorem or_ok2 : ∀ (r : Fin 128), 0 < bits .or .u8 (r.1 : Int) 4 ∧ bits .or .u8 (r.1 : Int) 4 ≤ 127 := by decide +kernel
set_option maxRecDepth 100000 in
theorem or_ok3 : ∀ (r : Fin 128), 0 < bits .or .u8 (r.1 : Int) 8 ∧ bits .or .u8 (r.1 : Int) 8 ≤ 127 := by decide +kernel
set_option maxRecDepth 100000 in
theorem or_ok4 : ∀ (r : Fin 128), 0 < bits .or .u8 (r.1 : Int) 16 ∧ bits .or .u8 (r.1 : Int) 16 ≤ 127 := by decide +kernel
set_option maxRecDepth 100000 in
theorem or_ok5 : ∀ (r : Fin 128), 0 < bits .or .u8 (r.1 : Int) 32 ∧ bits .or .u8 (r.1 : Int) 32 ≤ 127 := by decide +kernel
set_option maxRecDepth 100000 in
theorem or_ok6 : ∀ (r : Fin 128), 0 < bits .or .u8 (r.1 : Int) 64 ∧ bits .or .u8 (r.1 : Int) 64 ≤ 127 := by decide +kernel
set_option maxRecDepth 100000 in
set_option maxHeartbeats 6400000 in
theorem w_Kinds (b0 b1 b2 b3 : Bool) (no : Option Addr) (nn nc : Nat) (b5 : Bool) (xo : Option Addr) (nx xc : Nat) (ao : Option Addr) (NA ac : Nat) (oo : Option Addr) (NO oc : Nat) (w : World) (z1 : nn ≤ 140737488355328) (z2 : nx ≤ 140737488355328) (z3 : NA ≤ 140737488355328) (z4 : NO ≤ 140737488355328) :
    Calls Tryz.prog 8 #[.agg #[.bool b0, .bool b1, .bool b2, .bool b3, .slice no nn nc, .bool b5, .slice xo nx xc, .slice ao NA ac, .slice oo NO oc]] w fun e w' => (∃ r : Int, e = .returned (.int .u8 r) ∧ 0 ≤ r ∧ r ≤ 127 ∧ (r = 0 ↔ (!b0 && bareT b1 b2 b3 b5 nn nx NA NO) = true)) ∧ Below w.heap.size w w' := by
  have HX0 := Hid.mk (tbx_new w (.bool b0) (.bool b1) (.bool b2) (.bool b3) (.slice no nn nc) (.bool b5) (.slice xo nx xc) (.slice ao NA ac) (.slice oo NO oc))
  obtain ⟨W0, hW0⟩ : ∃ W0, w.alloc (.cells #[.bool b0, .bool b1, .bool b2, .bool b3, .slice no nn nc, .bool b5, .slice xo nx xc, .slice ao NA ac, .slice oo NO oc] 27) = W0 := ⟨_, rfl⟩
  have hs0 : W0.heap.size = w.heap.size + 1 := by rw [← hW0]; simp
  rw [hW0] at HX0
  obtain ⟨_, c0, c1, c2, c3, c4, c5, c6, c7, c8, _⟩ := HX0.out
  cases b0 with
  | true =>
    go_enter Tryz.func8, Tryz.ntmps8
    go_wp2_with fail
    go_ret
    exact ⟨⟨127, rfl, by omega, by omega, by simp⟩, HX0.out.below⟩
  | false =>
    obtain ⟨W1, hW1⟩ : ∃ W1, W0.alloc (.cells #[.bool false, .bool b1, .bool b2, .bool b3, .slice no nn nc, .bool b5, .slice xo nx xc, .slice ao NA ac, .slice oo NO oc] 60) = W1 := ⟨_, rfl⟩
    have HA : Hid (AskBx W1 (w.heap.size + 1) false b1 b2 b3 no nn nc b5 xo nx xc ao NA ac oo NO oc) := by
      rw [← hW1, ← hs0]
      exact ⟨⟨by simp [go_sem], by simp [go_sem], by simp [go_sem], by simp [go_sem], by simp [go_sem], by simp [go_sem], by simp [go_sem], by simp [go_sem], by simp [go_sem]⟩, by simp⟩
    have HB1 : Hid (Below w.heap.size w W1) := by rw [← hW1]; exact HX0.out.below.trans ((below1 W0 _).mono HX0.out.below.size)
    go_enter Tryz.func8, Tryz.ntmps8
    go_wp2_with fail
    refine (w_has _ _).mono ?_
    rintro e w2 ⟨rfl, hq⟩
    have HA2 := Hid.mk (HA.out.keep hq)
    have HB2 := Hid.mk (HB1.out.trans (hq.mono HB1.out.size))
    clear hq hW1 hW0 hs0 c0 c1 c2 c3 c4 c5 c6 c7 c8
    have C0 := Hid.mk (w_hasNull false b1 b2 b3 no nn nc b5 xo nx xc ao NA ac oo NO oc w2 (w.heap.size + 1) HA2.out)
    have C1 := Hid.mk (w_hasFalse false b1 b2 b3 no nn nc b5 xo nx xc ao NA ac oo NO oc w2 (w.heap.size + 1) HA2.out)
    have C2 := Hid.mk (w_hasTrue false b1 b2 b3 no nn nc b5 xo nx xc ao NA ac oo NO oc w2 (w.heap.size + 1) HA2.out)
    have C3 := Hid.mk (w_hasNumbers false b1 b2 b3 no nn nc b5 xo nx xc ao NA ac oo NO oc w2 (w.heap.size + 1) HA2.out z1)
    have C4 := Hid.mk (w_hasTexts false b1 b2 b3 no nn nc b5 xo nx xc ao NA ac oo NO oc w2 (w.heap.size + 1) HA2.out z2)
    have C5 := Hid.mk (w_hasArrays false b1 b2 b3 no nn nc b5 xo nx xc ao NA ac oo NO oc w2 (w.heap.size + 1) HA2.out z3)
    have C6 := Hid.mk (w_hasObjects false b1 b2 b3 no nn nc b5 xo nx xc ao NA ac oo NO oc w2 (w.heap.size + 1) HA2.out z4)
    have HG : Hid ((!false && bareT b1 b2 b3 b5 nn nx NA NO) = [b1, b2, b3, (decide (0 < nn)), (b5 || decide (0 < nx)), (decide (0 < NA)), (decide (0 < NO))].all (fun b => !b)) := by
      show _ = _
      unfold bareT
      have e : ∀ n : Nat, (n == 0) = !decide (0 < n) := fun n => by cases n <;> simp
      simp only [e, List.all_cons, List.all_nil]
      cases b1 <;> cases b2 <;> cases b3 <;> cases b5 <;> simp
    generalize (decide (0 < nn)) = h3 at C3 HG
    generalize (b5 || decide (0 < nx)) = h4 at C4 HG
    generalize (decide (0 < NA)) = h5 at C5 HG
    generalize (decide (0 < NO)) = h6 at C6 HG
    go_wp2_with fail
    go_loopw [3, 11] (fun rv i wr => ∃ (k : Nat) (r : Int), k ≤ 7 ∧ rv = .int .u8 r ∧ i = .int .i64 (k : Int) ∧ 0 ≤ r ∧ r ≤ 127 ∧ wr = w2 ∧ Hid (r = 0 ↔ ([b1, b2, b3, h3, h4, h5, h6].take k).all (fun b => !b) = true)) (fun _ i _ => 7 - (intOf i).toNat)
    case atStart => exact ⟨0, 0, by omega, rfl, rfl, by omega, by omega, rfl, by show _ ↔ _; simp⟩
    case round =>
      obtain ⟨k, r, hk, rfl, rfl, hr0, hr1, rfl, HQ⟩ := hrel
      by_cases hlt : k < 7
      · have hor : k = 0 ∨ k = 1 ∨ k = 2 ∨ k = 3 ∨ k = 4 ∨ k = 5 ∨ k = 6 := by omega
        rcases hor with rfl | rfl | rfl | rfl | rfl | rfl | rfl
        · skip
          cases hh : b1 with
          | false =>
            have D := C0
            have ix := has_ix0 (w.heap.size + 1)
            rw [hh] at D
            go_wp2_with fail
            refine D.out.mono ?_
            rintro e v3 ⟨rfl, rfl⟩
            go_wp2_with fail
            go_roundw
            case rel => exact ⟨0 + 1, r, by omega, rfl, by go_num, hr0, hr1, by first | rfl | trivial, by have := HQ.out; show _ ↔ _; rw [this]; simp [hh]⟩
            case measure => simp [intOf]
          | true =>
            have D := C0
            have ix := has_ix0 (w.heap.size + 1)
            rw [hh] at D
            go_wp2_with fail
            refine D.out.mono ?_
            rintro e v3 ⟨rfl, rfl⟩
            go_wp2_with fail
            refine (w_bitn0 _).mono ?_
            rintro e v4 ⟨rfl, rfl⟩
            go_wp2_with fail
            have ho := or_ok0 ⟨r.toNat, by omega⟩
            have hrn : ((r.toNat : Nat) : Int) = r := by omega
            dsimp only at ho
            rw [hrn] at ho
            refine ⟨⟨0 + 1, bits .or .u8 r 1, by omega, rfl, by go_num, by omega, by omega, by first | rfl | trivial, ?_⟩, by simp [intOf]⟩
            show _ ↔ _
            constructor
            · intro h; omega
            · intro h; simp [hh] at h
        · skip
          cases hh : b2 with
          | false =>
            have D := C1
            have ix := has_ix1 (w.heap.size + 1)
            rw [hh] at D
            go_wp2_with fail
            refine D.out.mono ?_
            rintro e v3 ⟨rfl, rfl⟩
            go_wp2_with fail
            go_roundw
            case rel => exact ⟨1 + 1, r, by omega, rfl, by go_num, hr0, hr1, by first | rfl | trivial, by have := HQ.out; show _ ↔ _; rw [this]; simp [hh]⟩
            case measure => simp [intOf]
          | true =>
            have D := C1
            have ix := has_ix1 (w.heap.size + 1)
            rw [hh] at D
            go_wp2_with fail
            refine D.out.mono ?_
            rintro e v3 ⟨rfl, rfl⟩
            go_wp2_with fail
            refine (w_bitn1 _).mono ?_
            rintro e v4 ⟨rfl, rfl⟩
            go_wp2_with fail
            have ho := or_ok1 ⟨r.toNat, by omega⟩
            have hrn : ((r.toNat : Nat) : Int) = r := by omega
            dsimp only at ho
            rw [hrn] at ho
            refine ⟨⟨1 + 1, bits .or .u8 r 2, by omega, rfl, by go_num, by omega, by omega, by first | rfl | trivial, ?_⟩, by simp [intOf]⟩
            show _ ↔ _
            constructor
            · intro h; omega
            · intro h; simp [hh] at h
        · skip
          cases hh : b3 with
          | false =>
            have D := C2
            have ix := has_ix2 (w.heap.size + 1)
            rw [hh] at D
            go_wp2_with fail
            refine D.out.mono ?_
            rintro e v3 ⟨rfl, rfl⟩
            go_wp2_with fail
            go_roundw
            case rel => exact ⟨2 + 1, r, by omega, rfl, by go_num, hr0, hr1, by first | rfl | trivial, by have := HQ.out; show _ ↔ _; rw [this]; simp [hh]⟩
            case measure => simp [intOf]
          | true =>
            have D := C2
            have ix := has_ix2 (w.heap.size + 1)
            rw [hh] at D
            go_wp2_with fail
            refine D.out.mono ?_
            rintro e v3 ⟨rfl, rfl⟩
            go_wp2_with fail
            refine (w_bitn2 _).mono ?_
            rintro e v4 ⟨rfl, rfl⟩
            go_wp2_with fail
            have ho := or_ok2 ⟨r.toNat, by omega⟩
            have hrn : ((r.toNat : Nat) : Int) = r := by omega
            dsimp only at ho
            rw [hrn] at ho
            refine ⟨⟨2 + 1, bits .or .u8 r 4, by omega, rfl, by go_num, by omega, by omega, by first | rfl | trivial, ?_⟩, by simp [intOf]⟩
            show _ ↔ _
            constructor
            · intro h; omega
            · intro h; simp [hh] at h
        · skip
          cases hh : h3 with
          | false =>
            have D := C3
            have ix := has_ix3 (w.heap.size + 1)
            rw [hh] at D
            go_wp2_with fail
            refine D.out.mono ?_
            rintro e v3 ⟨rfl, rfl⟩
            go_wp2_with fail
            go_roundw
            case rel => exact ⟨3 + 1, r, by omega, rfl, by go_num, hr0, hr1, by first | rfl | trivial, by have := HQ.out; show _ ↔ _; rw [this]; simp [hh]⟩
            case measure => simp [intOf]
          | true =>
            have D := C3
            have ix := has_ix3 (w.heap.size + 1)
            rw [hh] at D
            go_wp2_with fail
            refine D.out.mono ?_
            rintro e v3 ⟨rfl, rfl⟩
            go_wp2_with fail
            refine (w_bitn3 _).mono ?_
            rintro e v4 ⟨rfl, rfl⟩
            go_wp2_with fail
            have ho := or_ok3 ⟨r.toNat, by omega⟩
            have hrn : ((r.toNat : Nat) : Int) = r := by omega
            dsimp only at ho
            rw [hrn] at ho
            refine ⟨⟨3 + 1, bits .or .u8 r 8, by omega, rfl, by go_num, by omega, by omega, by first | rfl | trivial, ?_⟩, by simp [intOf]⟩
            show _ ↔ _
            constructor
            · intro h; omega
            · intro h; simp [hh] at h
        · skip
          cases hh : h4 with
          | false =>
            have D := C4
            have ix := has_ix4 (w.heap.size + 1)
            rw [hh] at D
            go_wp2_with fail
            refine D.out.mono ?_
            rintro e v3 ⟨rfl, rfl⟩
            go_wp2_with fail
            go_roundw
            case rel => exact ⟨4 + 1, r, by omega, rfl, by go_num, hr0, hr1, by first | rfl | trivial, by have := HQ.out; show _ ↔ _; rw [this]; simp [hh]⟩
            case measure => simp [intOf]
          | true =>
            have D := C4
            have ix := has_ix4 (w.heap.size + 1)
            rw [hh] at D
            go_wp2_with fail
            refine D.out.mono ?_
            rintro e v3 ⟨rfl, rfl⟩
            go_wp2_with fail
            refine (w_bitn4 _).mono ?_
            rintro e v4 ⟨rfl, rfl⟩
            go_wp2_with fail
            have ho := or_ok4 ⟨r.toNat, by omega⟩
            have hrn : ((r.toNat : Nat) : Int) = r := by omega
            dsimp only at ho
            rw [hrn] at ho
            refine ⟨⟨4 + 1, bits .or .u8 r 16, by omega, rfl, by go_num, by omega, by omega, by first | rfl | trivial, ?_⟩, by simp [intOf]⟩
            show _ ↔ _
            constructor
            · intro h; omega
            · intro h; simp [hh] at h
        · skip
          cases hh : h5 with
          | false =>
            have D := C5
            have ix := has_ix5 (w.heap.size + 1)
            rw [hh] at D
            go_wp2_with fail
            refine D.out.mono ?_
            rintro e v3 ⟨rfl, rfl⟩
            go_wp2_with fail
            go_roundw
            case rel => exact ⟨5 + 1, r, by omega, rfl, by go_num, hr0, hr1, by first | rfl | trivial, by have := HQ.out; show _ ↔ _; rw [this]; simp [hh]⟩
            case measure => simp [intOf]
          | true =>
            have D := C5
            have ix := has_ix5 (w.heap.size + 1)
            rw [hh] at D
            go_wp2_with fail
            refine D.out.mono ?_
            rintro e v3 ⟨rfl, rfl⟩
            go_wp2_with fail
            refine (w_bitn5 _).mono ?_
            rintro e v4 ⟨rfl, rfl⟩
            go_wp2_with fail
            have ho := or_ok5 ⟨r.toNat, by omega⟩
            have hrn : ((r.toNat : Nat) : Int) = r := by omega
            dsimp only at ho
            rw [hrn] at ho
            refine ⟨⟨5 + 1, bits .or .u8 r 32, by omega, rfl, by go_num, by omega, by omega, by first | rfl | trivial, ?_⟩, by simp [intOf]⟩
            show _ ↔ _
            constructor
            · intro h; omega
            · intro h; simp [hh] at h
        · skip
          cases hh : h6 with
          | false =>
            have D := C6
            have ix := has_ix6 (w.heap.size + 1)
            rw [hh] at D
            go_wp2_with fail
            refine D.out.mono ?_
            rintro e v3 ⟨rfl, rfl⟩
            go_wp2_with fail
            go_roundw
            case rel => exact ⟨6 + 1, r, by omega, rfl, by go_num, hr0, hr1, by first | rfl | trivial, by have := HQ.out; show _ ↔ _; rw [this]; simp [hh]⟩
            case measure => simp [intOf]
          | true =>
            have D := C6
            have ix := has_ix6 (w.heap.size + 1)
            rw [hh] at D
            go_wp2_with fail
            refine D.out.mono ?_
            rintro e v3 ⟨rfl, rfl⟩
            go_wp2_with fail
            refine (w_bitn6 _).mono ?_
            rintro e v4 ⟨rfl, rfl⟩
            go_wp2_with fail
            have ho := or_ok6 ⟨r.toNat, by omega⟩
            have hrn : ((r.toNat : Nat) : Int) = r := by omega
            dsimp only at ho
            rw [hrn] at ho
            refine ⟨⟨6 + 1, bits .or .u8 r 64, by omega, rfl, by go_num, by omega, by omega, by first | rfl | trivial, ?_⟩, by simp [intOf]⟩
            show _ ↔ _
            constructor
            · intro h; omega
            · intro h; simp [hh] at h
      · have hk7 : k = 7 := by omega
        subst hk7
        go_wp2_with fail
        go_ret
        exact ⟨⟨r, rfl, hr0, hr1, by rw [HG.out]; exact HQ.out⟩, HB2.out⟩
end Go.Proofs.YtkaaleeldpghoaaGreat
