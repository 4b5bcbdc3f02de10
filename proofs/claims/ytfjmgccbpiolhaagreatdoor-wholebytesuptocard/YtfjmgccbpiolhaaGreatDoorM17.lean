import Derived.Test.YtfjmgccbpiolhaaGreatDoorM16
import Derived.Test.YtfjmgccbpiolhaaGreatDoorM0
namespace Go.Proofs.YtfjmgccbpiolhaaGreatDoor
open Go.RowKit
set_option linter.unusedVariables false
set_option linter.unusedSimpArgs false

set_option maxRecDepth 100000 in
set_option maxHeartbeats 3200000 in
theorem formr_4 (nm tx : ByteArray) (io : Option Addr) (N icap : Nat) (ko : Option Addr) (K kcap : Nat) (A RO : Bool) (w : World)
    (HAll : Hid (∀ u, Below w.heap.size w u → Calls Tryz.prog 47 #[.slice io N icap] u fun e w' => e = .returned (.bool A) ∧ Below u.heap.size u w'))
    (HRise : Hid (∀ u, Below w.heap.size w u → Calls Tryz.prog 52 #[.slice ko K kcap] u fun e w' => e = .returned (.bool RO) ∧ Below u.heap.size u w'))
    (HA0 : Hid (N = 0 → A = true)) (hn : nm.size ≤ 140737488355328) (ht : tx.size ≤ 140737488355328) (hN : N ≤ icap) (hK : K ≤ kcap) :
    Calls Tryz.prog 18 #[.agg #[.int .i64 4, .string nm, .string tx, .slice io N icap, .slice ko K kcap]] w fun e w' => e = .returned (.bool (formV 4 nm tx N K A RO)) ∧ Below w.heap.size w w' := by
  have HX := Hid.mk (vbx_new w (.int .i64 4) (.string nm) (.string tx) (.slice io N icap) (.slice ko K kcap))
  have HNum := Hid.mk (fun u => w_Number nm u (by omega))
  have HUtf := Hid.mk (fun u => w_UTF tx u (by omega))
  cases he1 : nm.toList.isEmpty with
  | false =>
    have HF : Hid (formV 4 nm tx N K A RO = false) := by show _ = _; unfold formV bareB; rw [if_neg (by omega), if_neg (by omega), if_pos rfl, he1]; simp
    go_enter Tryz.func18, Tryz.ntmps18
    go_wp2_with fail
    go_ret
    exact ⟨by rw [HF.out]; rfl, HX.out.below⟩
  | true =>
    cases hV : okB tx.data.toList with
    | false =>
      have HF : Hid (formV 4 nm tx N K A RO = false) := by show _ = _; unfold formV bareB; rw [if_neg (by omega), if_neg (by omega), if_pos rfl, hV]; rfl
      rw [hV] at HUtf
      go_enter Tryz.func18, Tryz.ntmps18
      go_wp2_with fail
      refine (HUtf.out _).mono ?_
      rintro e w2 ⟨rfl, hw⟩
      obtain rfl := hw.symm
      clear hw
      go_wp2_with fail
      go_ret
      exact ⟨by rw [HF.out]; rfl, HX.out.below⟩
    | true =>
      rw [hV] at HUtf
      by_cases hN0 : N = 0
      · subst hN0
        by_cases hK0 : K = 0
        · subst hK0
          have HF : Hid (formV 4 nm tx 0 0 A RO = A) := by show _ = _; rw [HA0.out rfl]; unfold formV bareB; rw [if_neg (by omega), if_neg (by omega), if_pos rfl, hV, he1, emp_e]; rfl
          go_enter Tryz.func18, Tryz.ntmps18
          go_wp2_with fail
          refine (HUtf.out _).mono ?_
          rintro e w2 ⟨rfl, hw⟩
          obtain rfl := hw.symm
          clear hw
          go_wp2_with fail
          refine (HAll.out _ HX.out.below).mono ?_
          rintro e w9 ⟨rfl, hb9⟩
          have HX9 := Hid.mk (HX.out.keep hb9)
          clear hb9
          go_wp2_with fail
          go_ret
          exact ⟨by rw [HF.out]; rfl, HX9.out.below⟩
        · have hK1 : (0 : Int) < (K : Int) := by omega
          have HF : Hid (formV 4 nm tx 0 K A RO = false) := by show _ = _; unfold formV bareB; rw [if_neg (by omega), if_neg (by omega), if_pos rfl, hV, he1, decide_eq_false hK0]; simp
          clear hK0
          go_enter Tryz.func18, Tryz.ntmps18
          go_wp2_with fail
          refine (HUtf.out _).mono ?_
          rintro e w2 ⟨rfl, hw⟩
          obtain rfl := hw.symm
          clear hw
          go_wp2_with fail
          go_ret
          exact ⟨by rw [HF.out]; rfl, HX.out.below⟩
      · have hN1 : (0 : Int) < (N : Int) := by omega
        have HF : Hid (formV 4 nm tx N K A RO = false) := by show _ = _; unfold formV bareB; rw [if_neg (by omega), if_neg (by omega), if_pos rfl, hV, he1, decide_eq_false hN0]; simp
        clear hN0
        go_enter Tryz.func18, Tryz.ntmps18
        go_wp2_with fail
        refine (HUtf.out _).mono ?_
        rintro e w2 ⟨rfl, hw⟩
        obtain rfl := hw.symm
        clear hw
        go_wp2_with fail
        go_ret
        exact ⟨by rw [HF.out]; rfl, HX.out.below⟩

end Go.Proofs.YtfjmgccbpiolhaaGreatDoor
namespace Go.Proofs.YtfjmgccbpiolhaaGreatDoor
open Go.RowKit
set_option linter.unusedVariables false
set_option linter.unusedSimpArgs false

set_option maxRecDepth 100000 in
set_option maxHeartbeats 3200000 in
theorem formr_5 (nm tx : ByteArray) (io : Option Addr) (N icap : Nat) (ko : Option Addr) (K kcap : Nat) (A RO : Bool) (w : World)
    (HAll : Hid (∀ u, Below w.heap.size w u → Calls Tryz.prog 47 #[.slice io N icap] u fun e w' => e = .returned (.bool A) ∧ Below u.heap.size u w'))
    (HRise : Hid (∀ u, Below w.heap.size w u → Calls Tryz.prog 52 #[.slice ko K kcap] u fun e w' => e = .returned (.bool RO) ∧ Below u.heap.size u w'))
    (HA0 : Hid (N = 0 → A = true)) (hn : nm.size ≤ 140737488355328) (ht : tx.size ≤ 140737488355328) (hN : N ≤ icap) (hK : K ≤ kcap) :
    Calls Tryz.prog 18 #[.agg #[.int .i64 5, .string nm, .string tx, .slice io N icap, .slice ko K kcap]] w fun e w' => e = .returned (.bool (formV 5 nm tx N K A RO)) ∧ Below w.heap.size w w' := by
  have HX := Hid.mk (vbx_new w (.int .i64 5) (.string nm) (.string tx) (.slice io N icap) (.slice ko K kcap))
  have HNum := Hid.mk (fun u => w_Number nm u (by omega))
  have HUtf := Hid.mk (fun u => w_UTF tx u (by omega))
  cases he1 : nm.toList.isEmpty with
  | false =>
    have HF : Hid (formV 5 nm tx N K A RO = false) := by show _ = _; unfold formV bareB; rw [if_neg (by omega), if_neg (by omega), if_neg (by omega), if_pos rfl, he1]; simp
    go_enter Tryz.func18, Tryz.ntmps18
    go_wp2_with fail
    go_ret
    exact ⟨by rw [HF.out]; rfl, HX.out.below⟩
  | true =>
    cases he2 : tx.toList.isEmpty with
    | false =>
      have HF : Hid (formV 5 nm tx N K A RO = false) := by show _ = _; unfold formV bareB; rw [if_neg (by omega), if_neg (by omega), if_neg (by omega), if_pos rfl, he1, he2]; simp
      go_enter Tryz.func18, Tryz.ntmps18
      go_wp2_with fail
      go_ret
      exact ⟨by rw [HF.out]; rfl, HX.out.below⟩
    | true =>
      by_cases hK0 : K = 0
      · have hK1 : ¬ (0 : Int) < (K : Int) := by omega
        have HF : Hid (formV 5 nm tx N K A RO = A) := by show _ = _; unfold formV bareB; rw [if_neg (by omega), if_neg (by omega), if_neg (by omega), if_pos rfl, he1, he2, decide_eq_true hK0]; simp
        clear hK0
        go_enter Tryz.func18, Tryz.ntmps18
        go_wp2_with fail
        refine (HAll.out _ HX.out.below).mono ?_
        rintro e w9 ⟨rfl, hb9⟩
        have HX9 := Hid.mk (HX.out.keep hb9)
        clear hb9
        go_wp2_with fail
        go_ret
        exact ⟨by rw [HF.out]; rfl, HX9.out.below⟩
      · have hK1 : (0 : Int) < (K : Int) := by omega
        have HF : Hid (formV 5 nm tx N K A RO = false) := by show _ = _; unfold formV bareB; rw [if_neg (by omega), if_neg (by omega), if_neg (by omega), if_pos rfl, decide_eq_false hK0]; simp
        clear hK0
        go_enter Tryz.func18, Tryz.ntmps18
        go_wp2_with fail
        go_ret
        exact ⟨by rw [HF.out]; rfl, HX.out.below⟩

end Go.Proofs.YtfjmgccbpiolhaaGreatDoor
namespace Go.Proofs.YtfjmgccbpiolhaaGreatDoor
open Go.RowKit
set_option linter.unusedVariables false
set_option linter.unusedSimpArgs false

set_option maxRecDepth 100000 in
set_option maxHeartbeats 3200000 in
theorem formr_6 (nm tx : ByteArray) (io : Option Addr) (N icap : Nat) (ko : Option Addr) (K kcap : Nat) (A RO : Bool) (w : World)
    (HAll : Hid (∀ u, Below w.heap.size w u → Calls Tryz.prog 47 #[.slice io N icap] u fun e w' => e = .returned (.bool A) ∧ Below u.heap.size u w'))
    (HRise : Hid (∀ u, Below w.heap.size w u → Calls Tryz.prog 52 #[.slice ko K kcap] u fun e w' => e = .returned (.bool RO) ∧ Below u.heap.size u w'))
    (HA0 : Hid (N = 0 → A = true)) (hn : nm.size ≤ 140737488355328) (ht : tx.size ≤ 140737488355328) (hN : N ≤ icap) (hK : K ≤ kcap) :
    Calls Tryz.prog 18 #[.agg #[.int .i64 6, .string nm, .string tx, .slice io N icap, .slice ko K kcap]] w fun e w' => e = .returned (.bool (formV 6 nm tx N K A RO)) ∧ Below w.heap.size w w' := by
  have HX := Hid.mk (vbx_new w (.int .i64 6) (.string nm) (.string tx) (.slice io N icap) (.slice ko K kcap))
  have HNum := Hid.mk (fun u => w_Number nm u (by omega))
  have HUtf := Hid.mk (fun u => w_UTF tx u (by omega))
  cases he1 : nm.toList.isEmpty with
  | false =>
    have HF : Hid (formV 6 nm tx N K A RO = false) := by show _ = _; unfold formV bareB; rw [if_neg (by omega), if_neg (by omega), if_neg (by omega), if_neg (by omega), if_pos rfl, he1]; simp
    go_enter Tryz.func18, Tryz.ntmps18
    go_wp2_with fail
    go_ret
    exact ⟨by rw [HF.out]; rfl, HX.out.below⟩
  | true =>
    cases he2 : tx.toList.isEmpty with
    | false =>
      have HF : Hid (formV 6 nm tx N K A RO = false) := by show _ = _; unfold formV bareB; rw [if_neg (by omega), if_neg (by omega), if_neg (by omega), if_neg (by omega), if_pos rfl, he1, he2]; simp
      go_enter Tryz.func18, Tryz.ntmps18
      go_wp2_with fail
      go_ret
      exact ⟨by rw [HF.out]; rfl, HX.out.below⟩
    | true =>
      by_cases hKN : K = N
      · have hKN1 : ((K : Int) != (N : Int)) = false := by simp; omega
        cases hRO : RO with
        | false =>
          have HF : Hid (formV 6 nm tx N K A false = false) := by show _ = _; unfold formV bareB; rw [if_neg (by omega), if_neg (by omega), if_neg (by omega), if_neg (by omega), if_pos rfl]; simp
          rw [hRO] at HRise
          clear hKN
          go_enter Tryz.func18, Tryz.ntmps18
          go_wp2_with fail
          refine (HRise.out _ HX.out.below).mono ?_
          rintro e w3 ⟨rfl, hb3⟩
          have HX3 := Hid.mk (HX.out.keep hb3)
          have g0 := HX3.out.c0
          have g3 := HX3.out.c3
          have g4 := HX3.out.c4
          clear hb3
          go_wp2_with fail
          go_ret
          exact ⟨by rw [HF.out]; rfl, HX3.out.below⟩
        | true =>
          have HF : Hid (formV 6 nm tx N K A true = A) := by show _ = _; unfold formV bareB; rw [if_neg (by omega), if_neg (by omega), if_neg (by omega), if_neg (by omega), if_pos rfl, he1, he2, decide_eq_true hKN]; simp
          rw [hRO] at HRise
          clear hKN
          go_enter Tryz.func18, Tryz.ntmps18
          go_wp2_with fail
          refine (HRise.out _ HX.out.below).mono ?_
          rintro e w3 ⟨rfl, hb3⟩
          have HX3 := Hid.mk (HX.out.keep hb3)
          have g0 := HX3.out.c0
          have g3 := HX3.out.c3
          have g4 := HX3.out.c4
          clear hb3
          go_wp2_with fail
          refine (HAll.out _ HX3.out.below).mono ?_
          rintro e w9 ⟨rfl, hb9⟩
          have HX9 := Hid.mk (HX3.out.keep hb9)
          clear hb9
          go_wp2_with fail
          go_ret
          exact ⟨by rw [HF.out]; rfl, HX9.out.below⟩
      · have hKN1 : ((K : Int) != (N : Int)) = true := by simp; omega
        have HF : Hid (formV 6 nm tx N K A RO = false) := by show _ = _; unfold formV bareB; rw [if_neg (by omega), if_neg (by omega), if_neg (by omega), if_neg (by omega), if_pos rfl, decide_eq_false hKN]; simp
        clear hKN
        go_enter Tryz.func18, Tryz.ntmps18
        go_wp2_with fail
        go_ret
        exact ⟨by rw [HF.out]; rfl, HX.out.below⟩

end Go.Proofs.YtfjmgccbpiolhaaGreatDoor
namespace Go.Proofs.YtfjmgccbpiolhaaGreatDoor
open Go.RowKit
set_option linter.unusedVariables false
set_option linter.unusedSimpArgs false

set_option maxRecDepth 100000 in
set_option maxHeartbeats 3200000 in
theorem formr_else (kd : Int) (k0 : kd ≠ 0) (k1 : kd ≠ 1) (k2 : kd ≠ 2) (k3 : kd ≠ 3) (k4 : kd ≠ 4) (k5 : kd ≠ 5) (k6 : kd ≠ 6) (nm tx : ByteArray) (io : Option Addr) (N icap : Nat) (ko : Option Addr) (K kcap : Nat) (A RO : Bool) (w : World)
    (HAll : Hid (∀ u, Below w.heap.size w u → Calls Tryz.prog 47 #[.slice io N icap] u fun e w' => e = .returned (.bool A) ∧ Below u.heap.size u w'))
    (HRise : Hid (∀ u, Below w.heap.size w u → Calls Tryz.prog 52 #[.slice ko K kcap] u fun e w' => e = .returned (.bool RO) ∧ Below u.heap.size u w'))
    (HA0 : Hid (N = 0 → A = true)) (hn : nm.size ≤ 140737488355328) (ht : tx.size ≤ 140737488355328) (hN : N ≤ icap) (hK : K ≤ kcap) :
    Calls Tryz.prog 18 #[.agg #[.int .i64 kd, .string nm, .string tx, .slice io N icap, .slice ko K kcap]] w fun e w' => e = .returned (.bool (formV kd nm tx N K A RO)) ∧ Below w.heap.size w w' := by
  have HX := Hid.mk (vbx_new w (.int .i64 kd) (.string nm) (.string tx) (.slice io N icap) (.slice ko K kcap))
  have HNum := Hid.mk (fun u => w_Number nm u (by omega))
  have HUtf := Hid.mk (fun u => w_UTF tx u (by omega))
  have HF : Hid (formV kd nm tx N K A RO = false) := by show _ = _; unfold formV; rw [if_neg (by omega), if_neg (by omega), if_neg (by omega), if_neg (by omega), if_neg (by omega)]
  have hcs : kd < 0 ∨ (¬ kd < 0 ∧ 6 < kd) := by omega
  clear k0 k1 k2 k3 k4 k5 k6
  rcases hcs with a | ⟨a, b⟩
  · go_enter Tryz.func18, Tryz.ntmps18
    go_wp2_with fail
    go_ret
    exact ⟨by rw [HF.out]; rfl, HX.out.below⟩
  · go_enter Tryz.func18, Tryz.ntmps18
    go_wp2_with fail
    go_ret
    exact ⟨by rw [HF.out]; rfl, HX.out.below⟩

theorem formr_ok (kd : Int) (nm tx : ByteArray) (io : Option Addr) (N icap : Nat) (ko : Option Addr) (K kcap : Nat) (A RO : Bool) (w : World)
    (HAll : Hid (∀ u, Below w.heap.size w u → Calls Tryz.prog 47 #[.slice io N icap] u fun e w' => e = .returned (.bool A) ∧ Below u.heap.size u w'))
    (HRise : Hid (∀ u, Below w.heap.size w u → Calls Tryz.prog 52 #[.slice ko K kcap] u fun e w' => e = .returned (.bool RO) ∧ Below u.heap.size u w'))
    (HA0 : Hid (N = 0 → A = true)) (hn : nm.size ≤ 140737488355328) (ht : tx.size ≤ 140737488355328) (hN : N ≤ icap) (hK : K ≤ kcap) :
    Calls Tryz.prog 18 #[.agg #[.int .i64 kd, .string nm, .string tx, .slice io N icap, .slice ko K kcap]] w fun e w' => e = .returned (.bool (formV kd nm tx N K A RO)) ∧ Below w.heap.size w w' := by
  by_cases k0 : kd = 0
  · subst k0; exact formr_0 nm tx io N icap ko K kcap A RO w HAll HRise HA0 hn ht hN hK
  by_cases k1 : kd = 1
  · subst k1; exact formr_1 nm tx io N icap ko K kcap A RO w HAll HRise HA0 hn ht hN hK
  by_cases k2 : kd = 2
  · subst k2; exact formr_2 nm tx io N icap ko K kcap A RO w HAll HRise HA0 hn ht hN hK
  by_cases k3 : kd = 3
  · subst k3; exact formr_3 nm tx io N icap ko K kcap A RO w HAll HRise HA0 hn ht hN hK
  by_cases k4 : kd = 4
  · subst k4; exact formr_4 nm tx io N icap ko K kcap A RO w HAll HRise HA0 hn ht hN hK
  by_cases k5 : kd = 5
  · subst k5; exact formr_5 nm tx io N icap ko K kcap A RO w HAll HRise HA0 hn ht hN hK
  by_cases k6 : kd = 6
  · subst k6; exact formr_6 nm tx io N icap ko K kcap A RO w HAll HRise HA0 hn ht hN hK
  exact formr_else kd k0 k1 k2 k3 k4 k5 k6 nm tx io N icap ko K kcap A RO w HAll HRise HA0 hn ht hN hK

theorem w_rFormed : ∀ h, FmOk h
  | 0 => fun T v w hI => hI.elim
  | h + 1 => fun T v w hI => by
    obtain ⟨io, icap, ko, kcap, rfl, a1, a2, a3, a4, a5, a6, a7, hk, hi⟩ := hI.open
    exact formr_ok T.kind T.num T.text io T.items.length icap ko T.keys.length kcap (T.items.all (formN h)) (rK T.keys T.keys.length && oK T.keys T.keys.length) w
      (fun u hu => w_All h (w_rFormed h) io T.items.length icap T.items u (hi.keep hu) rfl a5 a3)
      (fun u hu => w_Rise ko T.keys.length kcap T.keys u (hk.keep hu) rfl a6 a4 a7)
      (fun h0 => by rw [List.eq_nil_of_length_eq_zero h0]; rfl) a1 a2 a5 a6
end Go.Proofs.YtfjmgccbpiolhaaGreatDoor
namespace Go.Proofs.YtfjmgccbpiolhaaGreatDoor
open Go.RowKit
set_option linter.unusedVariables false
set_option linter.unusedSimpArgs false

def FvOk (h : Nat) : Prop := ∀ (T : VT) (v : Value) (w : World), InH w h T v → Calls Tryz.prog 24 #[v] w fun e w' => e = .returned (.bool (formN h T)) ∧ Below w.heap.size w w'

theorem InH.shape {W : World} {h : Nat} {T : VT} {v0 v1 v2 v3 v4 : Value} (hI : InH W h T (.agg #[v0, v1, v2, v3, v4])) : ∃ (k : Int) (n t : ByteArray) (io : Option Addr) (N icap : Nat) (ko : Option Addr) (K kcap : Nat), v0 = .int .i64 k ∧ v1 = .string n ∧ v2 = .string t ∧ v3 = .slice io N icap ∧ v4 = .slice ko K kcap := by
  cases h with
  | zero => exact hI.elim
  | succ h =>
    obtain ⟨io, icap, ko, kcap, e, _⟩ := hI.open
    simp only [Value.agg.injEq, Array.mk.injEq, List.cons.injEq, and_true] at e
    exact ⟨_, _, _, io, _, icap, ko, _, kcap, e.1, e.2.1, e.2.2.1, e.2.2.2.1, e.2.2.2.2⟩

set_option maxRecDepth 100000 in
set_option maxHeartbeats 3200000 in
theorem w_allFormed (h : Nat) (ih : FvOk h) (io : Option Addr) (N icap : Nat) (ts : List VT) (w : World) (hi : IIn w h io ts) (hN : ts.length = N) (hcap : N ≤ icap) (hN2 : N ≤ 140737488355328) :
    Calls Tryz.prog 60 #[.slice io N icap] w fun e w' => e = .returned (.bool (ts.all (formN h))) ∧ Below w.heap.size w w' := by
  have HI := Hid.mk hi
  have HNN := Hid.mk hN
  have HIh := Hid.mk ih
  clear hi hN ih
  go_enter Tryz.func60, Tryz.ntmps60
  go_wp2_with fail
  go_loopw [7] (fun i wr => ∃ k : Nat, k ≤ N ∧ i = .int .i64 (k : Int) ∧ Hid (Below w.heap.size w wr) ∧ Hid ((ts.take k).all (formN h) = true)) (fun i _ => N - (intOf i).toNat)
  case atStart => exact ⟨0, Nat.zero_le _, rfl, Below.refl _ _, rfl⟩
  case round =>
    obtain ⟨k, hk, rfl, HB, HQ⟩ := hrel
    by_cases hlt : k < N
    · have hl1 : (k : Int) < (N : Int) := by omega
      have hkl : k < ts.length := by rw [HNN.out]; exact hlt
      obtain ⟨b, off, hio, hbl, hrow⟩ := (HI.out.keep HB.out).row (by omega)
      subst hio
      obtain ⟨v0, v1, v2, v3, v4, ⟨c0, c1, c2, c3, c4⟩, ht⟩ := hrow k hkl
      obtain ⟨ik, inm, itx, iio, iN, iicap, iko, iK, ikcap, rfl, rfl, rfl, rfl, rfl⟩ := ht.shape
      have HBx := Hid.mk (below1 wr (.cells #[.int .i64 ik, .string inm, .string itx, .slice iio iN iicap, .slice iko iK ikcap] 49))
      have HC := Hid.mk (HIh.out _ _ (wr.alloc (.cells #[.int .i64 ik, .string inm, .string itx, .slice iio iN iicap, .slice iko iK ikcap] 49)) (ht.keep HBx.out))
      have HUp := Hid.mk (all_up (f := formN h) hkl)
      have HNo := Hid.mk (fun hh => all_no (f := formN h) hkl hh)
      clear hrow hbl ht
      cases hf : formN h ts[k] with
      | true =>
        rw [hf] at HC
        have HN : Hid ((ts.take (k + 1)).all (formN h) = true) := by show _ = _; rw [HUp.out, HQ.out, hf]; rfl
        clear hf hkl HUp HNo
        go_wp2_with fail
        refine HC.out.mono ?_
        rintro e w2 ⟨rfl, hb2⟩
        have HB2 := Hid.mk (HB.out.trans ((below_more HBx.out hb2).mono HB.out.size))
        clear hb2 c0 c1 c2 c3 c4
        go_wp2_with fail
        go_roundw
        case rel => exact ⟨k + 1, hlt, by go_num, HB2, HN⟩
        case measure => simp [intOf]; omega
      | false =>
        rw [hf] at HC
        have HF := Hid.mk (HNo.out hf)
        clear hf hkl HUp HNo
        go_wp2_with fail
        refine HC.out.mono ?_
        rintro e w2 ⟨rfl, hb2⟩
        have HB2 := Hid.mk (HB.out.trans ((below_more HBx.out hb2).mono HB.out.size))
        clear hb2 c0 c1 c2 c3 c4
        go_wp2_with fail
        go_ret
        exact ⟨by rw [HF.out]; rfl, HB2.out⟩
    · have hl1 : ¬ (k : Int) < (N : Int) := by omega
      have HF : Hid (ts.all (formN h) = true) := by
        have h1 := HQ.out
        rw [List.take_of_length_le (by rw [HNN.out]; omega)] at h1
        exact h1
      go_wp2_with fail
      go_ret
      exact ⟨by rw [HF.out]; rfl, HB.out⟩

structure VB2 (w u : World) (a b c d e b' c' d' e' : Value) : Prop where
  one : VBx w u a b c d e
  two : VBx (w.alloc (.cells #[a, b, c, d, e] 49)) u a b' c' d' e'
theorem VB2.keep {w u u' : World} {a b c d e b' c' d' e' : Value} (h : VB2 w u a b c d e b' c' d' e') (hb : Below u.heap.size u u') : VB2 w u' a b c d e b' c' d' e' := ⟨h.one.keep hb, h.two.keep hb⟩
theorem vb2_new (w : World) (a b c d e b' c' d' e' : Value) : VB2 w ((w.alloc (.cells #[a, b, c, d, e] 49)).alloc (.cells #[a, b', c', d', e'] 49)) a b c d e b' c' d' e' :=
  ⟨(vbx_new w a b c d e).keep (below1 _ _), vbx_new _ a b' c' d' e'⟩
theorem VB2.d0 {w u : World} {a b c d e b' c' d' e' : Value} (h : VB2 w u a b c d e b' c' d' e') : u.cell? ⟨w.heap.size + 1, 0, none⟩ = some a := by have := h.two.c0; rwa [World.size_alloc] at this
theorem VB2.d1 {w u : World} {a b c d e b' c' d' e' : Value} (h : VB2 w u a b c d e b' c' d' e') : u.cell? ⟨w.heap.size + 1, 1, none⟩ = some b' := by have := h.two.c1; rwa [World.size_alloc] at this
theorem VB2.d2 {w u : World} {a b c d e b' c' d' e' : Value} (h : VB2 w u a b c d e b' c' d' e') : u.cell? ⟨w.heap.size + 1, 2, none⟩ = some c' := by have := h.two.c2; rwa [World.size_alloc] at this
theorem VB2.d3 {w u : World} {a b c d e b' c' d' e' : Value} (h : VB2 w u a b c d e b' c' d' e') : u.cell? ⟨w.heap.size + 1, 3, none⟩ = some d' := by have := h.two.c3; rwa [World.size_alloc] at this
theorem VB2.d4 {w u : World} {a b c d e b' c' d' e' : Value} (h : VB2 w u a b c d e b' c' d' e') : u.cell? ⟨w.heap.size + 1, 4, none⟩ = some e' := by have := h.two.c4; rwa [World.size_alloc] at this
end Go.Proofs.YtfjmgccbpiolhaaGreatDoor
namespace Go.Proofs.YtfjmgccbpiolhaaGreatDoor
open Go.RowKit
set_option linter.unusedVariables false
set_option linter.unusedSimpArgs false

theorem form_items {h : Nat} {T : VT} (hf : formN (h + 1) T = true) (hk : T.kind = 5 ∨ T.kind = 6) : ∀ i, (hi : i < T.items.length) → formN h T.items[i] = true := by
  intro i hi
  have : T.items.all (formN h) = true := by
    unfold formN formV at hf
    rcases hk with e | e
    · rw [e] at hf; simp only [show ¬ ((5 : Int) = 0 ∨ (5 : Int) = 1 ∨ (5 : Int) = 2) by omega, show ¬ (5 : Int) = 3 by omega, show ¬ (5 : Int) = 4 by omega, if_false, if_true, Bool.and_eq_true] at hf; exact hf.1
    · rw [e] at hf; simp only [show ¬ ((6 : Int) = 0 ∨ (6 : Int) = 1 ∨ (6 : Int) = 2) by omega, show ¬ (6 : Int) = 3 by omega, show ¬ (6 : Int) = 4 by omega, show ¬ (6 : Int) = 5 by omega, if_false, if_true, Bool.and_eq_true] at hf; exact hf.1.2
  exact List.all_eq_true.1 this _ (List.getElem_mem hi)
theorem form_kind {h : Nat} {T : VT} (hf : formN (h + 1) T = true) : (0 ≤ T.kind ∧ T.kind < 5) ∨ T.kind = 5 ∨ T.kind = 6 := by
  by_cases h5 : T.kind = 5
  · exact .inr (.inl h5)
  by_cases h6 : T.kind = 6
  · exact .inr (.inr h6)
  left
  unfold formN formV at hf
  by_cases h0 : T.kind = 0 ∨ T.kind = 1 ∨ T.kind = 2
  · omega
  by_cases h3 : T.kind = 3
  · omega
  by_cases h4 : T.kind = 4
  · omega
  simp [h0, h3, h4, h5, h6] at hf
theorem emp_size {b : ByteArray} (h : b.toList.isEmpty = true) : b.size = 0 := by
  rw [Lib.toList_data, List.isEmpty_iff] at h
  rw [← sizeLn, h]; rfl
theorem form_empty {h : Nat} {T : VT} (hf : formN (h + 1) T = true) : (T.kind ≠ 3 → T.num.size = 0) ∧ (T.kind ≠ 4 → T.text.size = 0) ∧ (T.kind ≠ 6 → T.keys.length = 0) ∧ (T.kind = 6 → T.keys.length = T.items.length) := by
  unfold formN formV bareB at hf
  by_cases h0 : T.kind = 0 ∨ T.kind = 1 ∨ T.kind = 2
  · rw [if_pos h0] at hf
    simp only [Bool.and_eq_true, decide_eq_true_eq] at hf
    exact ⟨fun _ => emp_size hf.1.1.1, fun _ => emp_size hf.1.1.2, fun _ => hf.2, fun e => by omega⟩
  rw [if_neg h0] at hf
  by_cases h3 : T.kind = 3
  · rw [if_pos h3] at hf
    simp only [Bool.and_eq_true, decide_eq_true_eq] at hf
    exact ⟨fun e => absurd h3 e, fun _ => emp_size hf.2.1.1.2, fun _ => hf.2.2, fun e => by omega⟩
  rw [if_neg h3] at hf
  by_cases h4 : T.kind = 4
  · rw [if_pos h4] at hf
    simp only [Bool.and_eq_true, decide_eq_true_eq] at hf
    exact ⟨fun _ => emp_size hf.2.1.1.1, fun e => absurd h4 e, fun _ => hf.2.2, fun e => by omega⟩
  rw [if_neg h4] at hf
  by_cases h5 : T.kind = 5
  · rw [if_pos h5] at hf
    simp only [Bool.and_eq_true, decide_eq_true_eq] at hf
    exact ⟨fun _ => emp_size hf.2.1.1.1, fun _ => emp_size hf.2.1.1.2, fun _ => hf.2.2, fun e => by omega⟩
  rw [if_neg h5] at hf
  by_cases h6 : T.kind = 6
  · rw [if_pos h6] at hf
    simp only [Bool.and_eq_true, decide_eq_true_eq] at hf
    exact ⟨fun _ => emp_size hf.2.1.1.1, fun _ => emp_size hf.2.1.1.2, fun e => absurd h6 e, fun _ => hf.1.1.1⟩
  rw [if_neg h6] at hf
  cases hf
end Go.Proofs.YtfjmgccbpiolhaaGreatDoor
namespace Go.Proofs.YtfjmgccbpiolhaaGreatDoor
open Go.RowKit
set_option linter.unusedVariables false
set_option linter.unusedSimpArgs false

structure Ord {α : Type} (P : α → Prop) (c : α → α → Int) : Prop where
  bd : ∀ x y, P x → P y → -1 ≤ c x y ∧ c x y ≤ 1
  sw : ∀ x y, P x → P y → c y x = - c x y
  zr : ∀ x y, P x → P y → c x y = 0 → x = y
  tr : ∀ x y z, P x → P y → P z → c x y ≤ 0 → c y z ≤ 0 → c x z ≤ 0
theorem Ord.rf {α : Type} {P : α → Prop} {c : α → α → Int} (h : Ord P c) {x : α} (hx : P x) : c x x = 0 := by
  have := h.sw x x hx hx; omega

def listC {α : Type} (c : α → α → Int) : List α → List α → Int
  | [], [] => 0
  | [], _ :: _ => -1
  | _ :: _, [] => 1
  | x :: xs, y :: ys => if c x y = 0 then listC c xs ys else c x y

theorem listC_ord {α : Type} {P : α → Prop} {c : α → α → Int} (h : Ord P c) : Ord (fun l : List α => ∀ x ∈ l, P x) (listC c) where
  bd := by
    intro xs
    induction xs with
    | nil => intro ys _ _; cases ys <;> simp [listC]
    | cons x xs ih =>
      intro ys hx hy
      cases ys with
      | nil => simp [listC]
      | cons y ys =>
        simp only [listC]
        split
        · exact ih ys (fun z hz => hx z (List.mem_cons_of_mem _ hz)) (fun z hz => hy z (List.mem_cons_of_mem _ hz))
        · exact h.bd x y (hx x (List.mem_cons_self ..)) (hy y (List.mem_cons_self ..))
  sw := by
    intro xs
    induction xs with
    | nil => intro ys _ _; cases ys <;> simp [listC]
    | cons x xs ih =>
      intro ys hx hy
      cases ys with
      | nil => simp [listC]
      | cons y ys =>
        have e := h.sw x y (hx x (List.mem_cons_self ..)) (hy y (List.mem_cons_self ..))
        simp only [listC]
        by_cases h0 : c x y = 0
        · rw [if_pos h0, if_pos (by omega)]
          exact ih ys (fun z hz => hx z (List.mem_cons_of_mem _ hz)) (fun z hz => hy z (List.mem_cons_of_mem _ hz))
        · rw [if_neg h0, if_neg (by omega)]; exact e
  zr := by
    intro xs
    induction xs with
    | nil => intro ys _ _ h0; cases ys with
      | nil => rfl
      | cons y ys => simp [listC] at h0
    | cons x xs ih =>
      intro ys hx hy h0
      cases ys with
      | nil => simp [listC] at h0
      | cons y ys =>
        simp only [listC] at h0
        by_cases h1 : c x y = 0
        · rw [if_pos h1] at h0
          rw [h.zr x y (hx x (List.mem_cons_self ..)) (hy y (List.mem_cons_self ..)) h1, ih ys (fun z hz => hx z (List.mem_cons_of_mem _ hz)) (fun z hz => hy z (List.mem_cons_of_mem _ hz)) h0]
        · rw [if_neg h1] at h0; exact absurd h0 h1
  tr := by
    intro xs
    induction xs with
    | nil => intro ys zs _ _ _ _ _; cases zs <;> simp [listC]
    | cons x xs ih =>
      intro ys zs hx hy hz h1 h2
      cases ys with
      | nil => simp [listC] at h1
      | cons y ys =>
        cases zs with
        | nil => simp [listC] at h2
        | cons z zs =>
          have px := hx x (List.mem_cons_self ..)
          have py := hy y (List.mem_cons_self ..)
          have pz := hz z (List.mem_cons_self ..)
          have tx := fun z hz => hx z (List.mem_cons_of_mem _ hz)
          have ty := fun z hz => hy z (List.mem_cons_of_mem _ hz)
          have tz := fun w hw => hz w (List.mem_cons_of_mem _ hw)
          simp only [listC] at h1 h2 ⊢
          by_cases a : c x y = 0
          · rw [if_pos a] at h1
            obtain rfl := h.zr x y px py a
            by_cases b : c x z = 0
            · rw [if_pos b] at h2 ⊢; exact ih ys zs tx ty tz h1 h2
            · rw [if_neg b] at h2 ⊢; exact h2
          · rw [if_neg a] at h1
            by_cases b : c y z = 0
            · obtain rfl := h.zr y z py pz b
              rw [if_neg a]; exact h1
            · rw [if_neg b] at h2
              have t := h.tr x y z px py pz h1 h2
              by_cases d : c x z = 0
              · obtain rfl := h.zr x z px pz d
                have := h.sw x y px py
                omega
              · rw [if_neg d]; exact t

def byteC (x y : UInt8) : Int := if x < y then -1 else if x = y then 0 else 1
theorem byteC_ord : Ord (fun _ : UInt8 => True) byteC := by
  have hl : ∀ x y : UInt8, x < y ↔ x.toNat < y.toNat := fun x y => UInt8.lt_iff_toNat_lt
  have he : ∀ x y : UInt8, x = y ↔ x.toNat = y.toNat := fun x y => UInt8.toNat_inj.symm
  refine ⟨?_, ?_, ?_, ?_⟩
  · intro x y _ _; unfold byteC; split <;> (try split) <;> omega
  · intro x y _ _; unfold byteC; simp only [hl, he]; repeat' split
    all_goals omega
  · intro x y _ _ h0; unfold byteC at h0; simp only [hl, he] at h0 ⊢; split at h0 <;> (try split at h0) <;> omega
  · intro x y z _ _ _ h1 h2; unfold byteC at *; simp only [hl, he] at *; repeat' split at h1
    all_goals repeat' split at h2
    all_goals repeat' split
    all_goals omega

theorem cmpS_list : ∀ a b : List UInt8, Pl.cmpS a b = listC byteC a b
  | [], [] => by simp [Pl.cmpS, Op.bytesLess, listC]
  | [], _ :: _ => by simp [Pl.cmpS, Op.bytesLess, listC]
  | _ :: _, [] => by simp [Pl.cmpS, Op.bytesLess, listC]
  | x :: xs, y :: ys => by
    have ih := cmpS_list xs ys
    simp only [listC]
    rw [← ih]
    by_cases h : x < y
    · have e : byteC x y = -1 := by unfold byteC; rw [if_pos h]
      rw [e, if_neg (by omega)]
      unfold Pl.cmpS
      rw [if_pos (by simp [Op.bytesLess, h])]
    · by_cases h2 : x = y
      · subst h2
        have e : byteC x x = 0 := by unfold byteC; rw [if_neg h, if_pos rfl]
        rw [e, if_pos rfl]
        unfold Pl.cmpS
        simp [Op.bytesLess, h]
      · have e : byteC x y = 1 := by unfold byteC; rw [if_neg h, if_neg h2]
        rw [e, if_neg (by omega)]
        unfold Pl.cmpS
        rw [if_neg (by simp [Op.bytesLess, h, h2]), if_neg (by simp [h2])]

def keyC (a b : ByteArray) : Int := Pl.cmpS a.toList b.toList
theorem keyC_ord : Ord (fun _ : ByteArray => True) keyC := by
  have o := listC_ord byteC_ord
  have t : ∀ l : List UInt8, ∀ x ∈ l, True := fun _ _ _ => trivial
  refine ⟨fun x y _ _ => ?_, fun x y _ _ => ?_, fun x y _ _ => ?_, fun x y z _ _ _ => ?_⟩ <;> unfold keyC <;> simp only [cmpS_list]
  · exact o.bd _ _ (t _) (t _)
  · exact o.sw _ _ (t _) (t _)
  · intro h
    have := o.zr _ _ (t _) (t _) h
    rw [Lib.toList_data, Lib.toList_data] at this
    exact Pl.eq_of_toList this
  · exact o.tr _ _ _ (t _) (t _) (t _)

def numC (a b : ByteArray) : Int := Pl.cmpN a.data.toList b.data.toList
theorem formed_inj {a b : List UInt8} (ha : Pl.formed a = true) (hb : Pl.formed b = true) (h : Pl.cmpN a b = 0) : a = b := by
  have hs : ∀ p q : List UInt8, Pl.cmpS p q = 0 → p = q := fun p q h0 => by
    rw [cmpS_list] at h0
    exact (listC_ord byteC_ord).zr p q (fun _ _ => trivial) (fun _ _ => trivial) h0
  have ht : ∀ p q : List UInt8, Pl.cmpT p q = 0 → p = q := fun p q h0 => by
    unfold Pl.cmpT at h0
    split at h0
    · omega
    · split at h0
      · omega
      · exact hs p q h0
  have hbn : ∀ l : List UInt8, Pl.neg l = true → l = 45 :: Pl.body l := fun l h => by
    cases l with
    | nil => simp [Pl.neg] at h
    | cons c r =>
      have h2 : c.toNat = 45 := by simpa [Pl.neg] using h
      have h3 : c = 45 := UInt8.toNat_inj.1 h2
      unfold Pl.body; rw [if_pos h, h3]; rfl
  have hbp : ∀ l : List UInt8, Pl.neg l = false → l = Pl.body l := fun l h => by
    unfold Pl.body; rw [h]; rfl
  unfold Pl.cmpN at h
  rw [ha, hb] at h
  simp only [Bool.and_self, if_true] at h
  cases na : Pl.neg a with
  | true =>
    cases nb : Pl.neg b with
    | true =>
      rw [na, nb] at h
      simp only [if_true] at h
      rw [hbn a na, hbn b nb, ht _ _ h]
    | false => rw [na, nb] at h; simp at h
  | false =>
    cases nb : Pl.neg b with
    | true => rw [na, nb] at h; simp at h
    | false =>
      rw [na, nb] at h
      simp only [Bool.false_eq_true, if_false] at h
      rw [hbp a na, hbp b nb, ht _ _ h]

theorem numC_ord : Ord (fun a : ByteArray => Pl.formed a.data.toList = true) numC := by
  have e : ∀ a b : ByteArray, Pl.formed a.data.toList = true → Pl.formed b.data.toList = true → numC a b = Pl.cmpI (Pl.ival a.data.toList) (Pl.ival b.data.toList) := fun a b ha hb => Pl.cmpN_val ha hb
  refine ⟨fun x y hx hy => ?_, fun x y hx hy => ?_, fun x y hx hy h => ?_, fun x y z hx hy hz h1 h2 => ?_⟩
  · exact Pl.cmpN_bd _ _
  · rw [e _ _ hx hy, e _ _ hy hx]; exact Pl.cmpI_swap _ _
  · exact Pl.eq_of_toList (formed_inj hx hy h)
  · rw [e _ _ hx hy] at h1; rw [e _ _ hy hz] at h2; rw [e _ _ hx hz]
    unfold Pl.cmpI at *
    repeat' split at h1
    all_goals repeat' split at h2
    all_goals repeat' split
    all_goals omega

def cmpV (ka kb : Int) (nc tc kc ic : Int) : Int :=
  if ka < kb then -1 else if kb < ka then 1 else if ka = 3 then nc else if ka = 4 then tc else if ka = 5 then ic else if ka = 6 then (if kc = 0 then ic else kc) else 0
def cmpH : Nat → VT → VT → Int
  | 0, _, _ => 0
  | h + 1, A, B => cmpV A.kind B.kind (numC A.num B.num) (keyC A.text B.text) (listC keyC A.keys B.keys) (listC (cmpH h) A.items B.items)

theorem bare_open {nm tx : ByteArray} {N K : Nat} (h : bareB nm tx N K = true) : nm = .empty ∧ tx = .empty ∧ N = 0 ∧ K = 0 := by
  have em : ∀ s : ByteArray, s.toList.isEmpty = true → s = .empty := fun s hs => by
    rw [Lib.toList_data] at hs
    exact Pl.eq_of_toList (by simpa using hs)
  unfold bareB at h
  simp only [Bool.and_eq_true, decide_eq_true_eq] at h
  exact ⟨em _ h.1.1.1, em _ h.1.1.2, h.1.2, h.2⟩

theorem form_open {h : Nat} {T : VT} (hf : formN (h + 1) T = true) :
    (T = .mk 0 .empty .empty [] [] ∨ T = .mk 1 .empty .empty [] [] ∨ T = .mk 2 .empty .empty [] []) ∨
    (∃ n, T = .mk 3 n .empty [] [] ∧ Pl.formed n.data.toList = true) ∨ (∃ t, T = .mk 4 .empty t [] [] ∧ okB t.data.toList = true) ∨
    (∃ i, T = .mk 5 .empty .empty i [] ∧ ∀ x ∈ i, formN h x = true) ∨ (∃ i k, T = .mk 6 .empty .empty i k ∧ k.length = i.length ∧ rK k k.length = true ∧ oK k k.length = true ∧ ∀ x ∈ i, formN h x = true) := by
  obtain ⟨kd, nm, tx, it, ks⟩ := T
  unfold formN at hf
  simp only [VT.kind, VT.num, VT.text, VT.items, VT.keys] at hf
  unfold formV at hf
  by_cases h0 : kd = 0 ∨ kd = 1 ∨ kd = 2
  · rw [if_pos h0] at hf
    obtain ⟨rfl, rfl, a, b⟩ := bare_open hf
    rw [List.eq_nil_of_length_eq_zero a, List.eq_nil_of_length_eq_zero b]
    rcases h0 with rfl | rfl | rfl <;> simp
  · rw [if_neg h0] at hf
    by_cases h3 : kd = 3
    · rw [if_pos h3] at hf
      subst h3
      simp only [Bool.and_eq_true] at hf
      obtain ⟨_, rfl, a, b⟩ := bare_open hf.2
      rw [List.eq_nil_of_length_eq_zero a, List.eq_nil_of_length_eq_zero b]
      exact .inr (.inl ⟨nm, rfl, hf.1⟩)
    · rw [if_neg h3] at hf
      by_cases h4 : kd = 4
      · rw [if_pos h4] at hf
        subst h4
        simp only [Bool.and_eq_true] at hf
        obtain ⟨rfl, _, a, b⟩ := bare_open hf.2
        rw [List.eq_nil_of_length_eq_zero a, List.eq_nil_of_length_eq_zero b]
        exact .inr (.inr (.inl ⟨tx, rfl, hf.1⟩))
      · rw [if_neg h4] at hf
        by_cases h5 : kd = 5
        · rw [if_pos h5] at hf
          subst h5
          simp only [Bool.and_eq_true, List.all_eq_true] at hf
          obtain ⟨rfl, rfl, _, b⟩ := bare_open hf.2
          rw [List.eq_nil_of_length_eq_zero b]
          exact .inr (.inr (.inr (.inl ⟨it, rfl, hf.1⟩)))
        · rw [if_neg h5] at hf
          by_cases h6 : kd = 6
          · rw [if_pos h6] at hf
            subst h6
            simp only [Bool.and_eq_true, List.all_eq_true, decide_eq_true_eq] at hf
            obtain ⟨rfl, rfl, _, _⟩ := bare_open hf.2
            exact .inr (.inr (.inr (.inr ⟨it, ks, rfl, hf.1.1.1, hf.1.1.2.1, hf.1.1.2.2, hf.1.2⟩)))
          · rw [if_neg h6] at hf; cases hf
end Go.Proofs.YtfjmgccbpiolhaaGreatDoor
namespace Go.Proofs.YtfjmgccbpiolhaaGreatDoor
open Go.RowKit
set_option linter.unusedVariables false
set_option linter.unusedSimpArgs false

set_option maxRecDepth 100000 in
set_option maxHeartbeats 3200000 in
theorem formv_0 (nm tx : ByteArray) (io : Option Addr) (N icap : Nat) (ko : Option Addr) (K kcap : Nat) (A R O : Bool) (w : World)
    (HAll : Hid (∀ u, Below w.heap.size w u → Calls Tryz.prog 60 #[.slice io N icap] u fun e w' => e = .returned (.bool A) ∧ Below u.heap.size u w'))
    (HR : Hid (∀ u, Below w.heap.size w u → Calls Tryz.prog 61 #[.slice ko K kcap] u fun e w' => e = .returned (.bool R) ∧ Below u.heap.size u w'))
    (HO : Hid (∀ u, Below w.heap.size w u → Calls Tryz.prog 62 #[.slice ko K kcap] u fun e w' => e = .returned (.bool O) ∧ Below u.heap.size u w'))
    (hn : nm.size ≤ 140737488355328) (ht : tx.size ≤ 140737488355328) (hN : N ≤ icap) (hK : K ≤ kcap) :
    Calls Tryz.prog 24 #[.agg #[.int .i64 0, .string nm, .string tx, .slice io N icap, .slice ko K kcap]] w fun e w' => e = .returned (.bool (formV 0 nm tx N K A (R && O))) ∧ Below w.heap.size w w' := by
  have HNum : Hid (∀ u, Below w.heap.size w u → Calls Tryz.prog 58 #[.string nm] u fun e w' => e = .returned (.bool (Pl.formed nm.data.toList)) ∧ Below u.heap.size u w') := fun u _ => w_Formed nm u (by unfold maxLen; omega)
  have HUtf : Hid (∀ u, Below w.heap.size w u → Calls Tryz.prog 59 #[.string tx] u fun e w' => e = .returned (.bool (okB tx.data.toList)) ∧ Below u.heap.size u w') := fun u _ => w_Valid tx u (by omega)
  have HX := Hid.mk (vb2_new w (.int .i64 0) (.string nm) (.string tx) (.slice io N icap) (.slice ko K kcap) (.string nm) (.string tx) (.slice io N icap) (.slice ko K kcap))
  have HF : Hid (formV 0 nm tx N K A (R && O) = bareB nm tx N K) := by show _ = _; unfold formV; rw [if_pos (by omega)]
  go_enter Tryz.func24, Tryz.ntmps24
  go_wp2_with fail
  refine (w_bare 0 nm tx io N icap ko K kcap _).mono ?_
  rintro e w9 ⟨rfl, hb9⟩
  have HX9 := Hid.mk (HX.out.keep hb9)
  clear hb9
  go_wp2_with fail
  go_ret
  exact ⟨by rw [HF.out]; rfl, HX9.out.one.below⟩

set_option maxRecDepth 100000 in
set_option maxHeartbeats 3200000 in
theorem formv_1 (nm tx : ByteArray) (io : Option Addr) (N icap : Nat) (ko : Option Addr) (K kcap : Nat) (A R O : Bool) (w : World)
    (HAll : Hid (∀ u, Below w.heap.size w u → Calls Tryz.prog 60 #[.slice io N icap] u fun e w' => e = .returned (.bool A) ∧ Below u.heap.size u w'))
    (HR : Hid (∀ u, Below w.heap.size w u → Calls Tryz.prog 61 #[.slice ko K kcap] u fun e w' => e = .returned (.bool R) ∧ Below u.heap.size u w'))
    (HO : Hid (∀ u, Below w.heap.size w u → Calls Tryz.prog 62 #[.slice ko K kcap] u fun e w' => e = .returned (.bool O) ∧ Below u.heap.size u w'))
    (hn : nm.size ≤ 140737488355328) (ht : tx.size ≤ 140737488355328) (hN : N ≤ icap) (hK : K ≤ kcap) :
    Calls Tryz.prog 24 #[.agg #[.int .i64 1, .string nm, .string tx, .slice io N icap, .slice ko K kcap]] w fun e w' => e = .returned (.bool (formV 1 nm tx N K A (R && O))) ∧ Below w.heap.size w w' := by
  have HNum : Hid (∀ u, Below w.heap.size w u → Calls Tryz.prog 58 #[.string nm] u fun e w' => e = .returned (.bool (Pl.formed nm.data.toList)) ∧ Below u.heap.size u w') := fun u _ => w_Formed nm u (by unfold maxLen; omega)
  have HUtf : Hid (∀ u, Below w.heap.size w u → Calls Tryz.prog 59 #[.string tx] u fun e w' => e = .returned (.bool (okB tx.data.toList)) ∧ Below u.heap.size u w') := fun u _ => w_Valid tx u (by omega)
  have HX := Hid.mk (vb2_new w (.int .i64 1) (.string nm) (.string tx) (.slice io N icap) (.slice ko K kcap) (.string nm) (.string tx) (.slice io N icap) (.slice ko K kcap))
  have HF : Hid (formV 1 nm tx N K A (R && O) = bareB nm tx N K) := by show _ = _; unfold formV; rw [if_pos (by omega)]
  go_enter Tryz.func24, Tryz.ntmps24
  go_wp2_with fail
  refine (w_bare 1 nm tx io N icap ko K kcap _).mono ?_
  rintro e w9 ⟨rfl, hb9⟩
  have HX9 := Hid.mk (HX.out.keep hb9)
  clear hb9
  go_wp2_with fail
  go_ret
  exact ⟨by rw [HF.out]; rfl, HX9.out.one.below⟩

set_option maxRecDepth 100000 in
set_option maxHeartbeats 3200000 in
theorem formv_2 (nm tx : ByteArray) (io : Option Addr) (N icap : Nat) (ko : Option Addr) (K kcap : Nat) (A R O : Bool) (w : World)
    (HAll : Hid (∀ u, Below w.heap.size w u → Calls Tryz.prog 60 #[.slice io N icap] u fun e w' => e = .returned (.bool A) ∧ Below u.heap.size u w'))
    (HR : Hid (∀ u, Below w.heap.size w u → Calls Tryz.prog 61 #[.slice ko K kcap] u fun e w' => e = .returned (.bool R) ∧ Below u.heap.size u w'))
    (HO : Hid (∀ u, Below w.heap.size w u → Calls Tryz.prog 62 #[.slice ko K kcap] u fun e w' => e = .returned (.bool O) ∧ Below u.heap.size u w'))
    (hn : nm.size ≤ 140737488355328) (ht : tx.size ≤ 140737488355328) (hN : N ≤ icap) (hK : K ≤ kcap) :
    Calls Tryz.prog 24 #[.agg #[.int .i64 2, .string nm, .string tx, .slice io N icap, .slice ko K kcap]] w fun e w' => e = .returned (.bool (formV 2 nm tx N K A (R && O))) ∧ Below w.heap.size w w' := by
  have HNum : Hid (∀ u, Below w.heap.size w u → Calls Tryz.prog 58 #[.string nm] u fun e w' => e = .returned (.bool (Pl.formed nm.data.toList)) ∧ Below u.heap.size u w') := fun u _ => w_Formed nm u (by unfold maxLen; omega)
  have HUtf : Hid (∀ u, Below w.heap.size w u → Calls Tryz.prog 59 #[.string tx] u fun e w' => e = .returned (.bool (okB tx.data.toList)) ∧ Below u.heap.size u w') := fun u _ => w_Valid tx u (by omega)
  have HX := Hid.mk (vb2_new w (.int .i64 2) (.string nm) (.string tx) (.slice io N icap) (.slice ko K kcap) (.string nm) (.string tx) (.slice io N icap) (.slice ko K kcap))
  have HF : Hid (formV 2 nm tx N K A (R && O) = bareB nm tx N K) := by show _ = _; unfold formV; rw [if_pos (by omega)]
  go_enter Tryz.func24, Tryz.ntmps24
  go_wp2_with fail
  refine (w_bare 2 nm tx io N icap ko K kcap _).mono ?_
  rintro e w9 ⟨rfl, hb9⟩
  have HX9 := Hid.mk (HX.out.keep hb9)
  clear hb9
  go_wp2_with fail
  go_ret
  exact ⟨by rw [HF.out]; rfl, HX9.out.one.below⟩

end Go.Proofs.YtfjmgccbpiolhaaGreatDoor
