import Derived.Test.YtahknjhphbpmiaaZCM5f
import Derived.Test.YtahknjhphbpmiaaZCM5a
import Derived.Test.YtahknjhphbpmiaaZCM5o
import Derived.Test.YtahknjhphbpmiaaZCM3a
import Derived.Test.YtahknjhphbpmiaaZCM3o
import Derived.Test.YtahknjhphbpmiaaZCM3s
import Derived.Laws.EntriesVeiled
namespace Go.Proofs.Ytahknjhphbpmiaa
open Go.RowKit Go.Shelf Go.Sort
set_option linter.unusedVariables false
set_option linter.unusedSimpArgs false
attribute [local go_sem] Oper.semAt_some

set_option maxRecDepth 100000 in
theorem dec_ix0 (B : Nat) (u : World) : (Instr.index 54 (.agg #[.func (.func 43) #[.pointer (some ⟨B, 0, none⟩)] #[], .func (.func 44) #[.pointer (some ⟨B, 0, none⟩)] #[], .func (.func 45) #[.pointer (some ⟨B, 0, none⟩)] #[], .func (.func 46) #[.pointer (some ⟨B, 0, none⟩)] #[], .func (.func 47) #[.pointer (some ⟨B, 0, none⟩)] #[], .func (.func 48) #[.pointer (some ⟨B, 0, none⟩)] #[]]) (.int .i64 0)).run Try.prog u = .ok (.func (.func 43) #[.pointer (some ⟨B, 0, none⟩)] #[]) u := by kernel_rfl
set_option maxRecDepth 100000 in
theorem dec_ix1 (B : Nat) (u : World) : (Instr.index 54 (.agg #[.func (.func 43) #[.pointer (some ⟨B, 0, none⟩)] #[], .func (.func 44) #[.pointer (some ⟨B, 0, none⟩)] #[], .func (.func 45) #[.pointer (some ⟨B, 0, none⟩)] #[], .func (.func 46) #[.pointer (some ⟨B, 0, none⟩)] #[], .func (.func 47) #[.pointer (some ⟨B, 0, none⟩)] #[], .func (.func 48) #[.pointer (some ⟨B, 0, none⟩)] #[]]) (.int .i64 1)).run Try.prog u = .ok (.func (.func 44) #[.pointer (some ⟨B, 0, none⟩)] #[]) u := by kernel_rfl
set_option maxRecDepth 100000 in
theorem dec_ix2 (B : Nat) (u : World) : (Instr.index 54 (.agg #[.func (.func 43) #[.pointer (some ⟨B, 0, none⟩)] #[], .func (.func 44) #[.pointer (some ⟨B, 0, none⟩)] #[], .func (.func 45) #[.pointer (some ⟨B, 0, none⟩)] #[], .func (.func 46) #[.pointer (some ⟨B, 0, none⟩)] #[], .func (.func 47) #[.pointer (some ⟨B, 0, none⟩)] #[], .func (.func 48) #[.pointer (some ⟨B, 0, none⟩)] #[]]) (.int .i64 2)).run Try.prog u = .ok (.func (.func 45) #[.pointer (some ⟨B, 0, none⟩)] #[]) u := by kernel_rfl
set_option maxRecDepth 100000 in
theorem dec_ix3 (B : Nat) (u : World) : (Instr.index 54 (.agg #[.func (.func 43) #[.pointer (some ⟨B, 0, none⟩)] #[], .func (.func 44) #[.pointer (some ⟨B, 0, none⟩)] #[], .func (.func 45) #[.pointer (some ⟨B, 0, none⟩)] #[], .func (.func 46) #[.pointer (some ⟨B, 0, none⟩)] #[], .func (.func 47) #[.pointer (some ⟨B, 0, none⟩)] #[], .func (.func 48) #[.pointer (some ⟨B, 0, none⟩)] #[]]) (.int .i64 3)).run Try.prog u = .ok (.func (.func 46) #[.pointer (some ⟨B, 0, none⟩)] #[]) u := by kernel_rfl
set_option maxRecDepth 100000 in
theorem dec_ix4 (B : Nat) (u : World) : (Instr.index 54 (.agg #[.func (.func 43) #[.pointer (some ⟨B, 0, none⟩)] #[], .func (.func 44) #[.pointer (some ⟨B, 0, none⟩)] #[], .func (.func 45) #[.pointer (some ⟨B, 0, none⟩)] #[], .func (.func 46) #[.pointer (some ⟨B, 0, none⟩)] #[], .func (.func 47) #[.pointer (some ⟨B, 0, none⟩)] #[], .func (.func 48) #[.pointer (some ⟨B, 0, none⟩)] #[]]) (.int .i64 4)).run Try.prog u = .ok (.func (.func 47) #[.pointer (some ⟨B, 0, none⟩)] #[]) u := by kernel_rfl
set_option maxRecDepth 100000 in
theorem dec_ix5 (B : Nat) (u : World) : (Instr.index 54 (.agg #[.func (.func 43) #[.pointer (some ⟨B, 0, none⟩)] #[], .func (.func 44) #[.pointer (some ⟨B, 0, none⟩)] #[], .func (.func 45) #[.pointer (some ⟨B, 0, none⟩)] #[], .func (.func 46) #[.pointer (some ⟨B, 0, none⟩)] #[], .func (.func 47) #[.pointer (some ⟨B, 0, none⟩)] #[], .func (.func 48) #[.pointer (some ⟨B, 0, none⟩)] #[]]) (.int .i64 5)).run Try.prog u = .ok (.func (.func 48) #[.pointer (some ⟨B, 0, none⟩)] #[]) u := by kernel_rfl
set_option maxRecDepth 100000 in
set_option maxHeartbeats 1600000 in
theorem w_decidersT (B : Nat) (w : World) : Calls Try.prog 27 #[.pointer (some ⟨B, 0, none⟩)] w fun e w' => e = .returned (.agg #[.func (.func 43) #[.pointer (some ⟨B, 0, none⟩)] #[], .func (.func 44) #[.pointer (some ⟨B, 0, none⟩)] #[], .func (.func 45) #[.pointer (some ⟨B, 0, none⟩)] #[], .func (.func 46) #[.pointer (some ⟨B, 0, none⟩)] #[], .func (.func 47) #[.pointer (some ⟨B, 0, none⟩)] #[], .func (.func 48) #[.pointer (some ⟨B, 0, none⟩)] #[]]) ∧ Below w.heap.size w w' := by
  have HB := Hid.mk (below1 w (.cells #[.func (.func 43) #[.pointer (some ⟨B, 0, none⟩)] #[], .func (.func 44) #[.pointer (some ⟨B, 0, none⟩)] #[], .func (.func 45) #[.pointer (some ⟨B, 0, none⟩)] #[], .func (.func 46) #[.pointer (some ⟨B, 0, none⟩)] #[], .func (.func 47) #[.pointer (some ⟨B, 0, none⟩)] #[], .func (.func 48) #[.pointer (some ⟨B, 0, none⟩)] #[]] 54))
  go_enter Try.func27, Try.ntmps27
  go_wp2_with fail
  (try simp only [Exit.inBlock, Exit.then])
  refine bodyPost_ret (v := .agg #[.func (.func 43) #[.pointer (some ⟨B, 0, none⟩)] #[], .func (.func 44) #[.pointer (some ⟨B, 0, none⟩)] #[], .func (.func 45) #[.pointer (some ⟨B, 0, none⟩)] #[], .func (.func 46) #[.pointer (some ⟨B, 0, none⟩)] #[], .func (.func 47) #[.pointer (some ⟨B, 0, none⟩)] #[], .func (.func 48) #[.pointer (some ⟨B, 0, none⟩)] #[]]) (by simp [results, Try.results27, go_sem]) rfl ?_
  exact ⟨rfl, HB.out⟩
/-- what lies while Cmp goes on: the second one's box, the asked one's box -/
structure CBx (w u : World) (b0 b1 b2 b3 : Bool) (no : Option Addr) (nn nc : Nat) (b5 : Bool) (xo : Option Addr) (nx xc : Nat) (ao : Option Addr) (NA ac : Nat) (oo : Option Addr) (NO oc : Nat) (e0 e1 e2 e3 : Bool) (no2 : Option Addr) (nn2 nc2 : Nat) (e5 : Bool) (xo2 : Option Addr) (nx2 xc2 : Nat) (ao2 : Option Addr) (NA2 ac2 : Nat) (oo2 : Option Addr) (NO2 oc2 : Nat) : Prop where
  below : Below w.heap.size w u
  box : C9 u (w.heap.size + 1) 0 (.bool e0) (.bool e1) (.bool e2) (.bool e3) (.slice no2 nn2 nc2) (.bool e5) (.slice xo2 nx2 xc2) (.slice ao2 NA2 ac2) (.slice oo2 NO2 oc2)
  ask : AskBx u (w.heap.size + 1 + 1) b0 b1 b2 b3 no nn nc b5 xo nx xc ao NA ac oo NO oc
theorem CBx.keep {w u u' : World} {b0 b1 b2 b3 : Bool} {no : Option Addr} {nn nc : Nat} {b5 : Bool} {xo : Option Addr} {nx xc : Nat} {ao : Option Addr} {NA ac : Nat} {oo : Option Addr} {NO oc : Nat} {e0 e1 e2 e3 : Bool} {no2 : Option Addr} {nn2 nc2 : Nat} {e5 : Bool} {xo2 : Option Addr} {nx2 xc2 : Nat} {ao2 : Option Addr} {NA2 ac2 : Nat} {oo2 : Option Addr} {NO2 oc2 : Nat} (x : CBx w u b0 b1 b2 b3 no nn nc b5 xo nx xc ao NA ac oo NO oc e0 e1 e2 e3 no2 nn2 nc2 e5 xo2 nx2 xc2 ao2 NA2 ac2 oo2 NO2 oc2) (hb : Below u.heap.size u u') : CBx w u' b0 b1 b2 b3 no nn nc b5 xo nx xc ao NA ac oo NO oc e0 e1 e2 e3 no2 nn2 nc2 e5 xo2 nx2 xc2 ao2 NA2 ac2 oo2 NO2 oc2 :=
  ⟨x.below.trans (hb.mono x.below.size), x.box.keep hb (by have := x.ask.lt; omega), x.ask.keep hb⟩

set_option maxRecDepth 100000 in
set_option maxHeartbeats 8000000 in
theorem cmp_step (b0 b1 b2 b3 : Bool) (no : Option Addr) (nn nc : Nat) (b5 : Bool) (xo : Option Addr) (nx xc : Nat) (ao : Option Addr) (NA ac : Nat) (oo : Option Addr) (NO oc : Nat) (e0 e1 e2 e3 : Bool) (no2 : Option Addr) (nn2 nc2 : Nat) (e5 : Bool) (xo2 : Option Addr) (nx2 xc2 : Nat) (ao2 : Option Addr) (NA2 ac2 : Nat) (oo2 : Option Addr) (NO2 oc2 : Nat) (w : World) (r0 r1 r2 r3 r4 r5 : Int)
    (HR0 : Hid (∀ u B, Below w.heap.size w u → AskBx u B b0 b1 b2 b3 no nn nc b5 xo nx xc ao NA ac oo NO oc → Calls Try.prog 43 #[.pointer (some ⟨B, 0, none⟩), .agg #[.bool e0, .bool e1, .bool e2, .bool e3, .slice no2 nn2 nc2, .bool e5, .slice xo2 nx2 xc2, .slice ao2 NA2 ac2, .slice oo2 NO2 oc2]] u fun e w' => e = .returned (.int .i64 r0) ∧ Below u.heap.size u w'))
    (HR1 : Hid (∀ u B, Below w.heap.size w u → AskBx u B b0 b1 b2 b3 no nn nc b5 xo nx xc ao NA ac oo NO oc → Calls Try.prog 44 #[.pointer (some ⟨B, 0, none⟩), .agg #[.bool e0, .bool e1, .bool e2, .bool e3, .slice no2 nn2 nc2, .bool e5, .slice xo2 nx2 xc2, .slice ao2 NA2 ac2, .slice oo2 NO2 oc2]] u fun e w' => e = .returned (.int .i64 r1) ∧ Below u.heap.size u w'))
    (HR2 : Hid (∀ u B, Below w.heap.size w u → AskBx u B b0 b1 b2 b3 no nn nc b5 xo nx xc ao NA ac oo NO oc → Calls Try.prog 45 #[.pointer (some ⟨B, 0, none⟩), .agg #[.bool e0, .bool e1, .bool e2, .bool e3, .slice no2 nn2 nc2, .bool e5, .slice xo2 nx2 xc2, .slice ao2 NA2 ac2, .slice oo2 NO2 oc2]] u fun e w' => e = .returned (.int .i64 r2) ∧ Below u.heap.size u w'))
    (HR3 : Hid (∀ u B, Below w.heap.size w u → AskBx u B b0 b1 b2 b3 no nn nc b5 xo nx xc ao NA ac oo NO oc → Calls Try.prog 46 #[.pointer (some ⟨B, 0, none⟩), .agg #[.bool e0, .bool e1, .bool e2, .bool e3, .slice no2 nn2 nc2, .bool e5, .slice xo2 nx2 xc2, .slice ao2 NA2 ac2, .slice oo2 NO2 oc2]] u fun e w' => e = .returned (.int .i64 r3) ∧ Below u.heap.size u w'))
    (HR4 : Hid (∀ u B, Below w.heap.size w u → AskBx u B b0 b1 b2 b3 no nn nc b5 xo nx xc ao NA ac oo NO oc → Calls Try.prog 47 #[.pointer (some ⟨B, 0, none⟩), .agg #[.bool e0, .bool e1, .bool e2, .bool e3, .slice no2 nn2 nc2, .bool e5, .slice xo2 nx2 xc2, .slice ao2 NA2 ac2, .slice oo2 NO2 oc2]] u fun e w' => e = .returned (.int .i64 r4) ∧ Below u.heap.size u w'))
    (HR5 : Hid (∀ u B, Below w.heap.size w u → AskBx u B b0 b1 b2 b3 no nn nc b5 xo nx xc ao NA ac oo NO oc → Calls Try.prog 48 #[.pointer (some ⟨B, 0, none⟩), .agg #[.bool e0, .bool e1, .bool e2, .bool e3, .slice no2 nn2 nc2, .bool e5, .slice xo2 nx2 xc2, .slice ao2 NA2 ac2, .slice oo2 NO2 oc2]] u fun e w' => e = .returned (.int .i64 r5) ∧ Below u.heap.size u w')) :
    Calls Try.prog 9 #[.agg #[.bool b0, .bool b1, .bool b2, .bool b3, .slice no nn nc, .bool b5, .slice xo nx xc, .slice ao NA ac, .slice oo NO oc], .agg #[.bool e0, .bool e1, .bool e2, .bool e3, .slice no2 nn2 nc2, .bool e5, .slice xo2 nx2 xc2, .slice ao2 NA2 ac2, .slice oo2 NO2 oc2]] w fun e w' => e = .returned (.int .i64 (Pl.orI r0 (Pl.orI r1 (Pl.orI r2 (Pl.orI r3 (Pl.orI r4 r5)))))) ∧ Below w.heap.size w w' := by
  obtain ⟨R, hR⟩ : ∃ R, Pl.orI r0 (Pl.orI r1 (Pl.orI r2 (Pl.orI r3 (Pl.orI r4 r5)))) = R := ⟨_, rfl⟩
  have HQ0 := Hid.mk hR.symm
  rw [hR]
  clear hR
  obtain ⟨W0, hW0⟩ : ∃ W0, (((w.alloc (.cells #[.bool b0, .bool b1, .bool b2, .bool b3, .slice no nn nc, .bool b5, .slice xo nx xc, .slice ao NA ac, .slice oo NO oc] 27)).alloc (.cells #[.bool e0, .bool e1, .bool e2, .bool e3, .slice no2 nn2 nc2, .bool e5, .slice xo2 nx2 xc2, .slice ao2 NA2 ac2, .slice oo2 NO2 oc2] 27)).alloc (.cells #[.bool b0, .bool b1, .bool b2, .bool b3, .slice no nn nc, .bool b5, .slice xo nx xc, .slice ao NA ac, .slice oo NO oc] 52)) = W0 := ⟨_, rfl⟩
  have HF0 : Hid (CBx w W0 b0 b1 b2 b3 no nn nc b5 xo nx xc ao NA ac oo NO oc e0 e1 e2 e3 no2 nn2 nc2 e5 xo2 nx2 xc2 ao2 NA2 ac2 oo2 NO2 oc2) := by
    rw [← hW0]
    refine ⟨(((Below.refl _ w).alloc (Nat.le_refl _) _).alloc (by simp) _).alloc (by simp; omega) _, ⟨by simp [go_sem], by simp [go_sem], by simp [go_sem], by simp [go_sem], by simp [go_sem], by simp [go_sem], by simp [go_sem], by simp [go_sem], by simp [go_sem]⟩, ⟨⟨by simp [go_sem], by simp [go_sem], by simp [go_sem], by simp [go_sem], by simp [go_sem], by simp [go_sem], by simp [go_sem], by simp [go_sem], by simp [go_sem]⟩, by simp⟩⟩
  go_enter Try.func9, Try.ntmps9
  go_wp2_with fail
  refine (w_decidersT _ _).mono ?_
  rintro e w0 ⟨rfl, hq⟩
  have HF := Hid.mk (HF0.out.keep hq)
  clear hq hW0 HF0
  go_wp2_with fail
  refine wp_loop_rounds 7 ?_
  rw [rounds_succ]
  have ix := dec_ix0 (w.heap.size + 1 + 1)
  obtain ⟨q0, q1, q2, q3, q4, q5, q6, q7, q8⟩ := HF.out.box
  simp only [Nat.zero_add] at q1 q2 q3 q4 q5 q6 q7 q8
  go_wp2_with fail
  refine (HR0.out _ _ HF.out.below HF.out.ask).mono ?_
  rintro e w1 ⟨rfl, hq⟩
  have HF' := Hid.mk (HF.out.keep hq)
  clear hq HF ix q0 q1 q2 q3 q4 q5 q6 q7 q8 HR0
  have HF := HF'
  clear HF'
  by_cases h0 : r0 = 0
  · subst h0
    have HQ1 : Hid (R = (Pl.orI r1 (Pl.orI r2 (Pl.orI r3 (Pl.orI r4 r5))))) := HQ0.out
    clear HQ0
    go_wp2_with fail
    rw [rounds_succ]
    have ix := dec_ix1 (w.heap.size + 1 + 1)
    obtain ⟨q0, q1, q2, q3, q4, q5, q6, q7, q8⟩ := HF.out.box
    simp only [Nat.zero_add] at q1 q2 q3 q4 q5 q6 q7 q8
    go_wp2_with fail
    refine (HR1.out _ _ HF.out.below HF.out.ask).mono ?_
    rintro e w2 ⟨rfl, hq⟩
    have HF' := Hid.mk (HF.out.keep hq)
    clear hq HF ix q0 q1 q2 q3 q4 q5 q6 q7 q8 HR1
    have HF := HF'
    clear HF'
    by_cases h1 : r1 = 0
    · subst h1
      have HQ2 : Hid (R = (Pl.orI r2 (Pl.orI r3 (Pl.orI r4 r5)))) := HQ1.out
      clear HQ1
      go_wp2_with fail
      rw [rounds_succ]
      have ix := dec_ix2 (w.heap.size + 1 + 1)
      obtain ⟨q0, q1, q2, q3, q4, q5, q6, q7, q8⟩ := HF.out.box
      simp only [Nat.zero_add] at q1 q2 q3 q4 q5 q6 q7 q8
      go_wp2_with fail
      refine (HR2.out _ _ HF.out.below HF.out.ask).mono ?_
      rintro e w3 ⟨rfl, hq⟩
      have HF' := Hid.mk (HF.out.keep hq)
      clear hq HF ix q0 q1 q2 q3 q4 q5 q6 q7 q8 HR2
      have HF := HF'
      clear HF'
      by_cases h2 : r2 = 0
      · subst h2
        have HQ3 : Hid (R = (Pl.orI r3 (Pl.orI r4 r5))) := HQ2.out
        clear HQ2
        go_wp2_with fail
        rw [rounds_succ]
        have ix := dec_ix3 (w.heap.size + 1 + 1)
        obtain ⟨q0, q1, q2, q3, q4, q5, q6, q7, q8⟩ := HF.out.box
        simp only [Nat.zero_add] at q1 q2 q3 q4 q5 q6 q7 q8
        go_wp2_with fail
        refine (HR3.out _ _ HF.out.below HF.out.ask).mono ?_
        rintro e w4 ⟨rfl, hq⟩
        have HF' := Hid.mk (HF.out.keep hq)
        clear hq HF ix q0 q1 q2 q3 q4 q5 q6 q7 q8 HR3
        have HF := HF'
        clear HF'
        by_cases h3 : r3 = 0
        · subst h3
          have HQ4 : Hid (R = (Pl.orI r4 r5)) := HQ3.out
          clear HQ3
          go_wp2_with fail
          rw [rounds_succ]
          have ix := dec_ix4 (w.heap.size + 1 + 1)
          obtain ⟨q0, q1, q2, q3, q4, q5, q6, q7, q8⟩ := HF.out.box
          simp only [Nat.zero_add] at q1 q2 q3 q4 q5 q6 q7 q8
          go_wp2_with fail
          refine (HR4.out _ _ HF.out.below HF.out.ask).mono ?_
          rintro e w5 ⟨rfl, hq⟩
          have HF' := Hid.mk (HF.out.keep hq)
          clear hq HF ix q0 q1 q2 q3 q4 q5 q6 q7 q8 HR4
          have HF := HF'
          clear HF'
          by_cases h4 : r4 = 0
          · subst h4
            have HQ5 : Hid (R = r5) := HQ4.out
            clear HQ4
            go_wp2_with fail
            rw [rounds_succ]
            have ix := dec_ix5 (w.heap.size + 1 + 1)
            obtain ⟨q0, q1, q2, q3, q4, q5, q6, q7, q8⟩ := HF.out.box
            simp only [Nat.zero_add] at q1 q2 q3 q4 q5 q6 q7 q8
            go_wp2_with fail
            refine (HR5.out _ _ HF.out.below HF.out.ask).mono ?_
            rintro e w6 ⟨rfl, hq⟩
            have HF' := Hid.mk (HF.out.keep hq)
            clear hq HF ix q0 q1 q2 q3 q4 q5 q6 q7 q8 HR5
            have HF := HF'
            clear HF'
            by_cases h5 : r5 = 0
            · subst h5
              have HQ6 : Hid (R = 0) := HQ5.out
              clear HQ5
              go_wp2_with fail
              rw [rounds_succ]
              go_wp2_with fail
              go_ret
              exact ⟨by rw [HQ6.out]; rfl, HF.out.below⟩
            · have HN : Hid (R = r5) := by show _ = _; rw [HQ5.out]
              have h5' : (r5 != 0) = true := by simpa using h5
              clear h5 HQ5
              go_wp2_with fail
              go_ret
              exact ⟨by rw [HN.out]; rfl, HF.out.below⟩
          · have HN : Hid (R = r4) := by show _ = _; rw [HQ4.out]; unfold Pl.orI; rw [if_neg h4]
            have h4' : (r4 != 0) = true := by simpa using h4
            clear h4 HQ4
            go_wp2_with fail
            go_ret
            exact ⟨by rw [HN.out]; rfl, HF.out.below⟩
        · have HN : Hid (R = r3) := by show _ = _; rw [HQ3.out]; unfold Pl.orI; rw [if_neg h3]
          have h3' : (r3 != 0) = true := by simpa using h3
          clear h3 HQ3
          go_wp2_with fail
          go_ret
          exact ⟨by rw [HN.out]; rfl, HF.out.below⟩
      · have HN : Hid (R = r2) := by show _ = _; rw [HQ2.out]; unfold Pl.orI; rw [if_neg h2]
        have h2' : (r2 != 0) = true := by simpa using h2
        clear h2 HQ2
        go_wp2_with fail
        go_ret
        exact ⟨by rw [HN.out]; rfl, HF.out.below⟩
    · have HN : Hid (R = r1) := by show _ = _; rw [HQ1.out]; unfold Pl.orI; rw [if_neg h1]
      have h1' : (r1 != 0) = true := by simpa using h1
      clear h1 HQ1
      go_wp2_with fail
      go_ret
      exact ⟨by rw [HN.out]; rfl, HF.out.below⟩
  · have HN : Hid (R = r0) := by show _ = _; rw [HQ0.out]; unfold Pl.orI; rw [if_neg h0]
    have h0' : (r0 != 0) = true := by simpa using h0
    clear h0 HQ0
    go_wp2_with fail
    go_ret
    exact ⟨by rw [HN.out]; rfl, HF.out.below⟩

/-- THE PROGRAM'S CMP, of every two types -/
theorem w_sCmp : ∀ h, FcT h := by
  intro h
  induction h with
  | zero => intro A B va vb w hA hB; exact hA.elim
  | succ h ih =>
    intro A B va vb w hA hB
    obtain ⟨no, nc, xo, xc, ao, ac, oo, oc, rfl, ⟨a1, a2, a3, a4⟩, ⟨a5, a6, a7, a8⟩, z1, z2, hs, hk, ha, ho⟩ := hA
    obtain ⟨no2, nc2, xo2, xc2, ao2, ac2, oo2, oc2, rfl, ⟨b1, b2, b3, b4⟩, ⟨b5, b6, b7, b8⟩, y1, y2, hs2, hk2, ha2, ho2⟩ := hB
    have hAr : ArIn w h ao A.arrs := ⟨ha⟩
    have hAr2 : ArIn w h ao2 B.arrs := ⟨ha2⟩
    have mk : ∀ (oo : Option Addr) (T : TT), (0 < T.objs.length → ∃ b off, oo = some ⟨b, off, none⟩ ∧ b < w.heap.size ∧ ∀ i, (hi : i < T.objs.length) → ∃ (ko : Option Addr) (kc : Nat) (fo : Option Addr) (fc : Nat) (mo : Option Addr) (mc : Nat) (c0 c1 c2 c3 c4 c5 c6 c7 c8 : Value),
        (w.cell? ⟨b, off + i * 12, none⟩ = some (.slice ko T.objs[i].names.length kc) ∧ w.cell? ⟨b, off + i * 12 + 1, none⟩ = some (.slice fo T.objs[i].fields.length fc) ∧ w.cell? ⟨b, off + i * 12 + 2, none⟩ = some (.slice mo T.objs[i].must.length mc)) ∧
        C9 w b (off + i * 12 + 3) c0 c1 c2 c3 c4 c5 c6 c7 c8 ∧
        (T.objs[i].names.length ≤ kc ∧ T.objs[i].fields.length ≤ fc ∧ T.objs[i].must.length ≤ mc) ∧
        (T.objs[i].names.length ≤ 140737488355328 ∧ T.objs[i].fields.length ≤ 140737488355328 ∧ T.objs[i].must.length ≤ 140737488355328 ∧ ∀ k ∈ T.objs[i].names, k.size ≤ 140737488355328) ∧
        KIn w ko T.objs[i].names ∧ BoIn w mo T.objs[i].must ∧
        (0 < T.objs[i].fields.length → ∃ b2 off2, fo = some ⟨b2, off2, none⟩ ∧ b2 < w.heap.size ∧ ∀ j, (hj : j < T.objs[i].fields.length) → ∃ d0 d1 d2 d3 d4 d5 d6 d7 d8 : Value,
          C9 w b2 (off2 + j * 9) d0 d1 d2 d3 d4 d5 d6 d7 d8 ∧ InT w h T.objs[i].fields[j] (.agg #[d0, d1, d2, d3, d4, d5, d6, d7, d8])) ∧
        InT w h T.objs[i].rest (.agg #[c0, c1, c2, c3, c4, c5, c6, c7, c8])) → ObIn w h oo T.objs := fun oo T ho => ⟨fun h0 => by
      obtain ⟨b, off, e, hl, hc⟩ := ho h0
      refine ⟨b, off, e, hl, fun i hi => ?_⟩
      obtain ⟨ko, kc, fo, fc, mo, mc, c0, c1, c2, c3, c4, c5, c6, c7, c8, g, h1, h2, h3, h4, h5, h6, h7⟩ := hc i hi
      exact ⟨ko, kc, fo, fc, mo, mc, c0, c1, c2, c3, c4, c5, c6, c7, c8, g, h1, ⟨h2, h3, h4, h5, h6, h7⟩⟩⟩
    have hOb := mk oo A ho
    have hOb2 := mk oo2 B ho2
    exact cmp_step A.all A.nul A.fls A.tru no A.nums.length nc A.any xo A.texts.length xc ao A.arrs.length ac oo A.objs.length oc B.all B.nul B.fls B.tru no2 B.nums.length nc2 B.any xo2 B.texts.length xc2 ao2 B.arrs.length ac2 oo2 B.objs.length oc2 w
      (flC A B) (listC spC A.nums B.nums) (setC A.any B.any) (listC keyC A.texts B.texts) (listC (arC (cmpTy h)) A.arrs B.arrs) (listC (obC (cmpTy h)) A.objs B.objs)
      (Hid.mk fun u Bk hu hx => w_byFlags _ _ _ _ _ _ _ _ _ _ _ _ _ _ _ _ _ _ _ _ _ _ _ _ _ _ _ _ _ _ _ _ _ _ u Bk hx)
      (Hid.mk fun u Bk hu hx => w_byNums _ _ _ _ _ _ _ _ _ _ _ _ _ _ _ _ _ _ _ _ _ _ _ _ _ _ _ _ _ _ _ _ _ _ u Bk hx _ (Hid.mk fun x hxx => w_cfSpan no _ nc A.nums no2 _ nc2 B.nums x (hs.keep (hu.trans (hxx.mono hu.size))) (hs2.keep (hu.trans (hxx.mono hu.size))) rfl rfl a1 b1 a5 b5 z1 y1))
      (Hid.mk fun u Bk hu hx => w_byAnyText _ _ _ _ _ _ _ _ _ _ _ _ _ _ _ _ _ _ _ _ _ _ _ _ _ _ _ _ _ _ _ _ _ _ u Bk hx)
      (Hid.mk fun u Bk hu hx => w_byTexts _ _ _ _ _ _ _ _ _ _ _ _ _ _ _ _ _ _ _ _ _ _ _ _ _ _ _ _ _ _ _ _ _ _ u Bk hx _ (Hid.mk fun x hxx => (w_slCompare xo _ xc A.texts xo2 _ xc2 B.texts x (hk.keep (hu.trans (hxx.mono hu.size))) (hk2.keep (hu.trans (hxx.mono hu.size))) rfl rfl a2 b2 a6 b6).mono fun e w' k => ⟨k.1, by rw [k.2]; exact Below.refl _ _⟩))
      (Hid.mk fun u Bk hu hx => w_byArrays _ _ _ _ _ _ _ _ _ _ _ _ _ _ _ _ _ _ _ _ _ _ _ _ _ _ _ _ _ _ _ _ _ _ u Bk hx _ (Hid.mk fun x hxx => w_cfArr h (w_byArr h ih) ao _ ac A.arrs ao2 _ ac2 B.arrs x (hAr.keep (hu.trans (hxx.mono hu.size))) (hAr2.keep (hu.trans (hxx.mono hu.size))) rfl rfl a3 b3 a7 b7))
      (Hid.mk fun u Bk hu hx => w_byObjects _ _ _ _ _ _ _ _ _ _ _ _ _ _ _ _ _ _ _ _ _ _ _ _ _ _ _ _ _ _ _ _ _ _ u Bk hx _ (Hid.mk fun x hxx => w_cfObj h (w_byObj h ih) oo _ oc A.objs oo2 _ oc2 B.objs x (hOb.keep (hu.trans (hxx.mono hu.size))) (hOb2.keep (hu.trans (hxx.mono hu.size))) rfl rfl a4 b4 a8 b8))
end Go.Proofs.Ytahknjhphbpmiaa
