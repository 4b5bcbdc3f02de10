import Derived.Test.YtapjfocjeligiaaGreatDoorM10
namespace Go.Proofs.YtapjfocjeligiaaGreatDoor
open Go.RowKit
set_option linter.unusedVariables false
set_option linter.unusedSimpArgs false

/-- All answers, where Formed does -/
def FmOk (h : Nat) : Prop := ∀ (T : VT) (v : Value) (w : World), InH w h T v → Calls Tryz.prog 13 #[v] w fun e w' => e = .returned (.bool (formN h T)) ∧ Below w.heap.size w w'

theorem all_up {ts : List VT} {f : VT → Bool} {k : Nat} (hk : k < ts.length) : (ts.take (k + 1)).all f = ((ts.take k).all f && f ts[k]) := by
  rw [List.take_succ_eq_append_getElem hk, List.all_append]; simp
theorem all_no {ts : List VT} {f : VT → Bool} {k : Nat} (hk : k < ts.length) (h : f ts[k] = false) : ts.all f = false := by
  rw [List.all_eq_false]; exact ⟨ts[k], List.getElem_mem hk, by simp [h]⟩

set_option maxRecDepth 100000 in
set_option maxHeartbeats 3200000 in
theorem w_All (h : Nat) (ih : FmOk h) (io : Option Addr) (N icap : Nat) (ts : List VT) (w : World) (hi : IIn w h io ts) (hN : ts.length = N) (hcap : N ≤ icap) (hN2 : N ≤ 140737488355328) :
    Calls Tryz.prog 18 #[.slice io N icap] w fun e w' => e = .returned (.bool (ts.all (formN h))) ∧ Below w.heap.size w w' := by
  have HI := Hid.mk hi
  have HNN := Hid.mk hN
  have HIh := Hid.mk ih
  clear hi hN ih
  go_enter Tryz.func18, Tryz.ntmps18
  go_wp2_with fail
  go_loopw [3] (fun i wr => ∃ k : Nat, k ≤ N ∧ i = .int .i64 (k : Int) ∧ Hid (Below w.heap.size w wr) ∧ Hid ((ts.take k).all (formN h) = true)) (fun i _ => N - (intOf i).toNat)
  case atStart => exact ⟨0, Nat.zero_le _, rfl, Below.refl _ _, rfl⟩
  case round =>
    obtain ⟨k, hk, rfl, HB, HQ⟩ := hrel
    by_cases hlt : k < N
    · have hl1 : (k : Int) < (N : Int) := by omega
      have hkl : k < ts.length := by rw [HNN.out]; exact hlt
      obtain ⟨b, off, hio, hbl, hrow⟩ := (HI.out.keep HB.out).row (by omega)
      subst hio
      obtain ⟨v0, v1, v2, v3, v4, ⟨c0, c1, c2, c3, c4⟩, ht⟩ := hrow k hkl
      have HC := Hid.mk (HIh.out _ _ wr ht)
      have HUp := Hid.mk (all_up (f := formN h) hkl)
      have HNo := Hid.mk (fun hh => all_no (f := formN h) hkl hh)
      clear hrow hbl ht
      cases hf : formN h ts[k] with
      | true =>
        rw [hf] at HC
        have HN : Hid ((ts.take (k + 1)).all (formN h) = true) := by show _ = _; rw [HUp.out, HQ.out, hf]; rfl
        clear hf hkl HUp HNo
        go_wp2_with fail
        refine HC.out.mono ?_
        rintro e w2 ⟨rfl, hb2⟩
        have HB2 := Hid.mk (HB.out.trans (hb2.mono HB.out.size))
        clear hb2 c0 c1 c2 c3 c4
        go_wp2_with fail
        go_roundw
        case rel => exact ⟨k + 1, hlt, by go_num, HB2, HN⟩
        case measure => simp [intOf]; omega
      | false =>
        rw [hf] at HC
        have HF := Hid.mk (HNo.out hf)
        clear hf hkl HUp HNo
        go_wp2_with fail
        refine HC.out.mono ?_
        rintro e w2 ⟨rfl, hb2⟩
        have HB2 := Hid.mk (HB.out.trans (hb2.mono HB.out.size))
        clear hb2 c0 c1 c2 c3 c4
        go_wp2_with fail
        go_ret
        exact ⟨by rw [HF.out]; rfl, HB2.out⟩
    · have hl1 : ¬ (k : Int) < (N : Int) := by omega
      have HF : Hid (ts.all (formN h) = true) := by
        have h1 := HQ.out
        rw [List.take_of_length_le (by rw [HNN.out]; omega)] at h1
        exact h1
      go_wp2_with fail
      go_ret
      exact ⟨by rw [HF.out]; rfl, HB.out⟩
end Go.Proofs.YtapjfocjeligiaaGreatDoor
namespace Go.Proofs.YtapjfocjeligiaaGreatDoor
open Go.RowKit
set_option linter.unusedVariables false
set_option linter.unusedSimpArgs false

set_option maxRecDepth 100000 in
set_option maxHeartbeats 3200000 in
theorem formr_0 (nm tx : ByteArray) (io : Option Addr) (N icap : Nat) (ko : Option Addr) (K kcap : Nat) (A RO : Bool) (w : World)
    (HAll : Hid (∀ u, Below w.heap.size w u → Calls Tryz.prog 18 #[.slice io N icap] u fun e w' => e = .returned (.bool A) ∧ Below u.heap.size u w'))
    (HRise : Hid (∀ u, Below w.heap.size w u → Calls Tryz.prog 25 #[.slice ko K kcap] u fun e w' => e = .returned (.bool RO) ∧ Below u.heap.size u w'))
    (HA0 : Hid (N = 0 → A = true)) (hn : nm.size ≤ 140737488355328) (ht : tx.size ≤ 140737488355328) (hN : N ≤ icap) (hK : K ≤ kcap) :
    Calls Tryz.prog 13 #[.agg #[.int .i64 0, .string nm, .string tx, .slice io N icap, .slice ko K kcap]] w fun e w' => e = .returned (.bool (formV 0 nm tx N K A RO)) ∧ Below w.heap.size w w' := by
  have HX := Hid.mk (vbx_new w (.int .i64 0) (.string nm) (.string tx) (.slice io N icap) (.slice ko K kcap))
  have HNum := Hid.mk (fun u => w_Number nm u (by omega))
  have HUtf := Hid.mk (fun u => w_UTF tx u (by omega))
  cases he1 : nm.toList.isEmpty with
  | false =>
    have HF : Hid (formV 0 nm tx N K A RO = false) := by show _ = _; unfold formV bareB; rw [if_pos (by omega), he1]; rfl
    go_enter Tryz.func13, Tryz.ntmps13
    go_wp2_with fail
    go_ret
    exact ⟨by rw [HF.out]; rfl, HX.out.below⟩
  | true =>
    cases he2 : tx.toList.isEmpty with
    | false =>
      have HF : Hid (formV 0 nm tx N K A RO = false) := by show _ = _; unfold formV bareB; rw [if_pos (by omega), he1, he2]; rfl
      go_enter Tryz.func13, Tryz.ntmps13
      go_wp2_with fail
      go_ret
      exact ⟨by rw [HF.out]; rfl, HX.out.below⟩
    | true =>
      by_cases hN0 : N = 0
      · subst hN0
        by_cases hK0 : K = 0
        · subst hK0
          have HF : Hid (formV 0 nm tx 0 0 A RO = A) := by show _ = _; rw [HA0.out rfl]; unfold formV bareB; rw [if_pos (by omega), he1, he2]; rfl
          go_enter Tryz.func13, Tryz.ntmps13
          go_wp2_with fail
          refine (HAll.out _ HX.out.below).mono ?_
          rintro e w9 ⟨rfl, hb9⟩
          have HX9 := Hid.mk (HX.out.keep hb9)
          clear hb9
          go_wp2_with fail
          go_ret
          exact ⟨by rw [HF.out]; rfl, HX9.out.below⟩
        · have hK1 : (0 : Int) < (K : Int) := by omega
          have HF : Hid (formV 0 nm tx 0 K A RO = false) := by show _ = _; unfold formV bareB; rw [if_pos (by omega), he1, he2, decide_eq_false hK0]; simp
          clear hK0
          go_enter Tryz.func13, Tryz.ntmps13
          go_wp2_with fail
          go_ret
          exact ⟨by rw [HF.out]; rfl, HX.out.below⟩
      · have hN1 : (0 : Int) < (N : Int) := by omega
        have HF : Hid (formV 0 nm tx N K A RO = false) := by show _ = _; unfold formV bareB; rw [if_pos (by omega), he1, he2, decide_eq_false hN0]; simp
        clear hN0
        go_enter Tryz.func13, Tryz.ntmps13
        go_wp2_with fail
        go_ret
        exact ⟨by rw [HF.out]; rfl, HX.out.below⟩

end Go.Proofs.YtapjfocjeligiaaGreatDoor
namespace Go.Proofs.YtapjfocjeligiaaGreatDoor
open Go.RowKit
set_option linter.unusedVariables false
set_option linter.unusedSimpArgs false

set_option maxRecDepth 100000 in
set_option maxHeartbeats 3200000 in
theorem formr_1 (nm tx : ByteArray) (io : Option Addr) (N icap : Nat) (ko : Option Addr) (K kcap : Nat) (A RO : Bool) (w : World)
    (HAll : Hid (∀ u, Below w.heap.size w u → Calls Tryz.prog 18 #[.slice io N icap] u fun e w' => e = .returned (.bool A) ∧ Below u.heap.size u w'))
    (HRise : Hid (∀ u, Below w.heap.size w u → Calls Tryz.prog 25 #[.slice ko K kcap] u fun e w' => e = .returned (.bool RO) ∧ Below u.heap.size u w'))
    (HA0 : Hid (N = 0 → A = true)) (hn : nm.size ≤ 140737488355328) (ht : tx.size ≤ 140737488355328) (hN : N ≤ icap) (hK : K ≤ kcap) :
    Calls Tryz.prog 13 #[.agg #[.int .i64 1, .string nm, .string tx, .slice io N icap, .slice ko K kcap]] w fun e w' => e = .returned (.bool (formV 1 nm tx N K A RO)) ∧ Below w.heap.size w w' := by
  have HX := Hid.mk (vbx_new w (.int .i64 1) (.string nm) (.string tx) (.slice io N icap) (.slice ko K kcap))
  have HNum := Hid.mk (fun u => w_Number nm u (by omega))
  have HUtf := Hid.mk (fun u => w_UTF tx u (by omega))
  cases he1 : nm.toList.isEmpty with
  | false =>
    have HF : Hid (formV 1 nm tx N K A RO = false) := by show _ = _; unfold formV bareB; rw [if_pos (by omega), he1]; rfl
    go_enter Tryz.func13, Tryz.ntmps13
    go_wp2_with fail
    go_ret
    exact ⟨by rw [HF.out]; rfl, HX.out.below⟩
  | true =>
    cases he2 : tx.toList.isEmpty with
    | false =>
      have HF : Hid (formV 1 nm tx N K A RO = false) := by show _ = _; unfold formV bareB; rw [if_pos (by omega), he1, he2]; rfl
      go_enter Tryz.func13, Tryz.ntmps13
      go_wp2_with fail
      go_ret
      exact ⟨by rw [HF.out]; rfl, HX.out.below⟩
    | true =>
      by_cases hN0 : N = 0
      · subst hN0
        by_cases hK0 : K = 0
        · subst hK0
          have HF : Hid (formV 1 nm tx 0 0 A RO = A) := by show _ = _; rw [HA0.out rfl]; unfold formV bareB; rw [if_pos (by omega), he1, he2]; rfl
          go_enter Tryz.func13, Tryz.ntmps13
          go_wp2_with fail
          refine (HAll.out _ HX.out.below).mono ?_
          rintro e w9 ⟨rfl, hb9⟩
          have HX9 := Hid.mk (HX.out.keep hb9)
          clear hb9
          go_wp2_with fail
          go_ret
          exact ⟨by rw [HF.out]; rfl, HX9.out.below⟩
        · have hK1 : (0 : Int) < (K : Int) := by omega
          have HF : Hid (formV 1 nm tx 0 K A RO = false) := by show _ = _; unfold formV bareB; rw [if_pos (by omega), he1, he2, decide_eq_false hK0]; simp
          clear hK0
          go_enter Tryz.func13, Tryz.ntmps13
          go_wp2_with fail
          go_ret
          exact ⟨by rw [HF.out]; rfl, HX.out.below⟩
      · have hN1 : (0 : Int) < (N : Int) := by omega
        have HF : Hid (formV 1 nm tx N K A RO = false) := by show _ = _; unfold formV bareB; rw [if_pos (by omega), he1, he2, decide_eq_false hN0]; simp
        clear hN0
        go_enter Tryz.func13, Tryz.ntmps13
        go_wp2_with fail
        go_ret
        exact ⟨by rw [HF.out]; rfl, HX.out.below⟩

end Go.Proofs.YtapjfocjeligiaaGreatDoor
namespace Go.Proofs.YtapjfocjeligiaaGreatDoor
open Go.RowKit
set_option linter.unusedVariables false
set_option linter.unusedSimpArgs false

set_option maxRecDepth 100000 in
set_option maxHeartbeats 3200000 in
theorem formr_2 (nm tx : ByteArray) (io : Option Addr) (N icap : Nat) (ko : Option Addr) (K kcap : Nat) (A RO : Bool) (w : World)
    (HAll : Hid (∀ u, Below w.heap.size w u → Calls Tryz.prog 18 #[.slice io N icap] u fun e w' => e = .returned (.bool A) ∧ Below u.heap.size u w'))
    (HRise : Hid (∀ u, Below w.heap.size w u → Calls Tryz.prog 25 #[.slice ko K kcap] u fun e w' => e = .returned (.bool RO) ∧ Below u.heap.size u w'))
    (HA0 : Hid (N = 0 → A = true)) (hn : nm.size ≤ 140737488355328) (ht : tx.size ≤ 140737488355328) (hN : N ≤ icap) (hK : K ≤ kcap) :
    Calls Tryz.prog 13 #[.agg #[.int .i64 2, .string nm, .string tx, .slice io N icap, .slice ko K kcap]] w fun e w' => e = .returned (.bool (formV 2 nm tx N K A RO)) ∧ Below w.heap.size w w' := by
  have HX := Hid.mk (vbx_new w (.int .i64 2) (.string nm) (.string tx) (.slice io N icap) (.slice ko K kcap))
  have HNum := Hid.mk (fun u => w_Number nm u (by omega))
  have HUtf := Hid.mk (fun u => w_UTF tx u (by omega))
  cases he1 : nm.toList.isEmpty with
  | false =>
    have HF : Hid (formV 2 nm tx N K A RO = false) := by show _ = _; unfold formV bareB; rw [if_pos (by omega), he1]; rfl
    go_enter Tryz.func13, Tryz.ntmps13
    go_wp2_with fail
    go_ret
    exact ⟨by rw [HF.out]; rfl, HX.out.below⟩
  | true =>
    cases he2 : tx.toList.isEmpty with
    | false =>
      have HF : Hid (formV 2 nm tx N K A RO = false) := by show _ = _; unfold formV bareB; rw [if_pos (by omega), he1, he2]; rfl
      go_enter Tryz.func13, Tryz.ntmps13
      go_wp2_with fail
      go_ret
      exact ⟨by rw [HF.out]; rfl, HX.out.below⟩
    | true =>
      by_cases hN0 : N = 0
      · subst hN0
        by_cases hK0 : K = 0
        · subst hK0
          have HF : Hid (formV 2 nm tx 0 0 A RO = A) := by show _ = _; rw [HA0.out rfl]; unfold formV bareB; rw [if_pos (by omega), he1, he2]; rfl
          go_enter Tryz.func13, Tryz.ntmps13
          go_wp2_with fail
          refine (HAll.out _ HX.out.below).mono ?_
          rintro e w9 ⟨rfl, hb9⟩
          have HX9 := Hid.mk (HX.out.keep hb9)
          clear hb9
          go_wp2_with fail
          go_ret
          exact ⟨by rw [HF.out]; rfl, HX9.out.below⟩
        · have hK1 : (0 : Int) < (K : Int) := by omega
          have HF : Hid (formV 2 nm tx 0 K A RO = false) := by show _ = _; unfold formV bareB; rw [if_pos (by omega), he1, he2, decide_eq_false hK0]; simp
          clear hK0
          go_enter Tryz.func13, Tryz.ntmps13
          go_wp2_with fail
          go_ret
          exact ⟨by rw [HF.out]; rfl, HX.out.below⟩
      · have hN1 : (0 : Int) < (N : Int) := by omega
        have HF : Hid (formV 2 nm tx N K A RO = false) := by show _ = _; unfold formV bareB; rw [if_pos (by omega), he1, he2, decide_eq_false hN0]; simp
        clear hN0
        go_enter Tryz.func13, Tryz.ntmps13
        go_wp2_with fail
        go_ret
        exact ⟨by rw [HF.out]; rfl, HX.out.below⟩

end Go.Proofs.YtapjfocjeligiaaGreatDoor
namespace Go.Proofs.YtapjfocjeligiaaGreatDoor
open Go.RowKit
set_option linter.unusedVariables false
set_option linter.unusedSimpArgs false

set_option maxRecDepth 100000 in
set_option maxHeartbeats 3200000 in
theorem formr_3 (nm tx : ByteArray) (io : Option Addr) (N icap : Nat) (ko : Option Addr) (K kcap : Nat) (A RO : Bool) (w : World)
    (HAll : Hid (∀ u, Below w.heap.size w u → Calls Tryz.prog 18 #[.slice io N icap] u fun e w' => e = .returned (.bool A) ∧ Below u.heap.size u w'))
    (HRise : Hid (∀ u, Below w.heap.size w u → Calls Tryz.prog 25 #[.slice ko K kcap] u fun e w' => e = .returned (.bool RO) ∧ Below u.heap.size u w'))
    (HA0 : Hid (N = 0 → A = true)) (hn : nm.size ≤ 140737488355328) (ht : tx.size ≤ 140737488355328) (hN : N ≤ icap) (hK : K ≤ kcap) :
    Calls Tryz.prog 13 #[.agg #[.int .i64 3, .string nm, .string tx, .slice io N icap, .slice ko K kcap]] w fun e w' => e = .returned (.bool (formV 3 nm tx N K A RO)) ∧ Below w.heap.size w w' := by
  have HX := Hid.mk (vbx_new w (.int .i64 3) (.string nm) (.string tx) (.slice io N icap) (.slice ko K kcap))
  have HNum := Hid.mk (fun u => w_Number nm u (by omega))
  have HUtf := Hid.mk (fun u => w_UTF tx u (by omega))
  cases hFm : Pl.formed nm.data.toList with
  | false =>
    have HF : Hid (formV 3 nm tx N K A RO = false) := by show _ = _; unfold formV bareB; rw [if_neg (by omega), if_pos rfl, hFm]; rfl
    rw [hFm] at HNum
    go_enter Tryz.func13, Tryz.ntmps13
    go_wp2_with fail
    refine (HNum.out _).mono ?_
    rintro e w2 ⟨rfl, hw⟩
    obtain rfl := hw.symm
    clear hw
    go_wp2_with fail
    go_ret
    exact ⟨by rw [HF.out]; rfl, HX.out.below⟩
  | true =>
    rw [hFm] at HNum
    cases he2 : tx.toList.isEmpty with
    | false =>
      have HF : Hid (formV 3 nm tx N K A RO = false) := by show _ = _; unfold formV bareB; rw [if_neg (by omega), if_pos rfl, hFm, he2]; simp
      go_enter Tryz.func13, Tryz.ntmps13
      go_wp2_with fail
      refine (HNum.out _).mono ?_
      rintro e w2 ⟨rfl, hw⟩
      obtain rfl := hw.symm
      clear hw
      go_wp2_with fail
      go_ret
      exact ⟨by rw [HF.out]; rfl, HX.out.below⟩
    | true =>
      by_cases hN0 : N = 0
      · subst hN0
        by_cases hK0 : K = 0
        · subst hK0
          have HF : Hid (formV 3 nm tx 0 0 A RO = A) := by show _ = _; rw [HA0.out rfl]; unfold formV bareB; rw [if_neg (by omega), if_pos rfl, hFm, he2, emp_e]; rfl
          go_enter Tryz.func13, Tryz.ntmps13
          go_wp2_with fail
          refine (HNum.out _).mono ?_
          rintro e w2 ⟨rfl, hw⟩
          obtain rfl := hw.symm
          clear hw
          go_wp2_with fail
          refine (HAll.out _ HX.out.below).mono ?_
          rintro e w9 ⟨rfl, hb9⟩
          have HX9 := Hid.mk (HX.out.keep hb9)
          clear hb9
          go_wp2_with fail
          go_ret
          exact ⟨by rw [HF.out]; rfl, HX9.out.below⟩
        · have hK1 : (0 : Int) < (K : Int) := by omega
          have HF : Hid (formV 3 nm tx 0 K A RO = false) := by show _ = _; unfold formV bareB; rw [if_neg (by omega), if_pos rfl, hFm, he2, decide_eq_false hK0]; simp
          clear hK0
          go_enter Tryz.func13, Tryz.ntmps13
          go_wp2_with fail
          refine (HNum.out _).mono ?_
          rintro e w2 ⟨rfl, hw⟩
          obtain rfl := hw.symm
          clear hw
          go_wp2_with fail
          go_ret
          exact ⟨by rw [HF.out]; rfl, HX.out.below⟩
      · have hN1 : (0 : Int) < (N : Int) := by omega
        have HF : Hid (formV 3 nm tx N K A RO = false) := by show _ = _; unfold formV bareB; rw [if_neg (by omega), if_pos rfl, hFm, he2, decide_eq_false hN0]; simp
        clear hN0
        go_enter Tryz.func13, Tryz.ntmps13
        go_wp2_with fail
        refine (HNum.out _).mono ?_
        rintro e w2 ⟨rfl, hw⟩
        obtain rfl := hw.symm
        clear hw
        go_wp2_with fail
        go_ret
        exact ⟨by rw [HF.out]; rfl, HX.out.below⟩

end Go.Proofs.YtapjfocjeligiaaGreatDoor
namespace Go.Proofs.YtapjfocjeligiaaGreatDoor
open Go.RowKit
set_option linter.unusedVariables false
set_option linter.unusedSimpArgs false

set_option maxRecDepth 100000 in
set_option maxHeartbeats 3200000 in
theorem formr_4 (nm tx : ByteArray) (io : Option Addr) (N icap : Nat) (ko : Option Addr) (K kcap : Nat) (A RO : Bool) (w : World)
    (HAll : Hid (∀ u, Below w.heap.size w u → Calls Tryz.prog 18 #[.slice io N icap] u fun e w' => e = .returned (.bool A) ∧ Below u.heap.size u w'))
    (HRise : Hid (∀ u, Below w.heap.size w u → Calls Tryz.prog 25 #[.slice ko K kcap] u fun e w' => e = .returned (.bool RO) ∧ Below u.heap.size u w'))
    (HA0 : Hid (N = 0 → A = true)) (hn : nm.size ≤ 140737488355328) (ht : tx.size ≤ 140737488355328) (hN : N ≤ icap) (hK : K ≤ kcap) :
    Calls Tryz.prog 13 #[.agg #[.int .i64 4, .string nm, .string tx, .slice io N icap, .slice ko K kcap]] w fun e w' => e = .returned (.bool (formV 4 nm tx N K A RO)) ∧ Below w.heap.size w w' := by
  have HX := Hid.mk (vbx_new w (.int .i64 4) (.string nm) (.string tx) (.slice io N icap) (.slice ko K kcap))
  have HNum := Hid.mk (fun u => w_Number nm u (by omega))
  have HUtf := Hid.mk (fun u => w_UTF tx u (by omega))
  cases he1 : nm.toList.isEmpty with
  | false =>
    have HF : Hid (formV 4 nm tx N K A RO = false) := by show _ = _; unfold formV bareB; rw [if_neg (by omega), if_neg (by omega), if_pos rfl, he1]; simp
    go_enter Tryz.func13, Tryz.ntmps13
    go_wp2_with fail
    go_ret
    exact ⟨by rw [HF.out]; rfl, HX.out.below⟩
  | true =>
    cases hV : okB tx.data.toList with
    | false =>
      have HF : Hid (formV 4 nm tx N K A RO = false) := by show _ = _; unfold formV bareB; rw [if_neg (by omega), if_neg (by omega), if_pos rfl, hV]; rfl
      rw [hV] at HUtf
      go_enter Tryz.func13, Tryz.ntmps13
      go_wp2_with fail
      refine (HUtf.out _).mono ?_
      rintro e w2 ⟨rfl, hw⟩
      obtain rfl := hw.symm
      clear hw
      go_wp2_with fail
      go_ret
      exact ⟨by rw [HF.out]; rfl, HX.out.below⟩
    | true =>
      rw [hV] at HUtf
      by_cases hN0 : N = 0
      · subst hN0
        by_cases hK0 : K = 0
        · subst hK0
          have HF : Hid (formV 4 nm tx 0 0 A RO = A) := by show _ = _; rw [HA0.out rfl]; unfold formV bareB; rw [if_neg (by omega), if_neg (by omega), if_pos rfl, hV, he1, emp_e]; rfl
          go_enter Tryz.func13, Tryz.ntmps13
          go_wp2_with fail
          refine (HUtf.out _).mono ?_
          rintro e w2 ⟨rfl, hw⟩
          obtain rfl := hw.symm
          clear hw
          go_wp2_with fail
          refine (HAll.out _ HX.out.below).mono ?_
          rintro e w9 ⟨rfl, hb9⟩
          have HX9 := Hid.mk (HX.out.keep hb9)
          clear hb9
          go_wp2_with fail
          go_ret
          exact ⟨by rw [HF.out]; rfl, HX9.out.below⟩
        · have hK1 : (0 : Int) < (K : Int) := by omega
          have HF : Hid (formV 4 nm tx 0 K A RO = false) := by show _ = _; unfold formV bareB; rw [if_neg (by omega), if_neg (by omega), if_pos rfl, hV, he1, decide_eq_false hK0]; simp
          clear hK0
          go_enter Tryz.func13, Tryz.ntmps13
          go_wp2_with fail
          refine (HUtf.out _).mono ?_
          rintro e w2 ⟨rfl, hw⟩
          obtain rfl := hw.symm
          clear hw
          go_wp2_with fail
          go_ret
          exact ⟨by rw [HF.out]; rfl, HX.out.below⟩
      · have hN1 : (0 : Int) < (N : Int) := by omega
        have HF : Hid (formV 4 nm tx N K A RO = false) := by show _ = _; unfold formV bareB; rw [if_neg (by omega), if_neg (by omega), if_pos rfl, hV, he1, decide_eq_false hN0]; simp
        clear hN0
        go_enter Tryz.func13, Tryz.ntmps13
        go_wp2_with fail
        refine (HUtf.out _).mono ?_
        rintro e w2 ⟨rfl, hw⟩
        obtain rfl := hw.symm
        clear hw
        go_wp2_with fail
        go_ret
        exact ⟨by rw [HF.out]; rfl, HX.out.below⟩

end Go.Proofs.YtapjfocjeligiaaGreatDoor
namespace Go.Proofs.YtapjfocjeligiaaGreatDoor
open Go.RowKit
set_option linter.unusedVariables false
set_option linter.unusedSimpArgs false

set_option maxRecDepth 100000 in
set_option maxHeartbeats 3200000 in
theorem formr_5 (nm tx : ByteArray) (io : Option Addr) (N icap : Nat) (ko : Option Addr) (K kcap : Nat) (A RO : Bool) (w : World)
    (HAll : Hid (∀ u, Below w.heap.size w u → Calls Tryz.prog 18 #[.slice io N icap] u fun e w' => e = .returned (.bool A) ∧ Below u.heap.size u w'))
    (HRise : Hid (∀ u, Below w.heap.size w u → Calls Tryz.prog 25 #[.slice ko K kcap] u fun e w' => e = .returned (.bool RO) ∧ Below u.heap.size u w'))
    (HA0 : Hid (N = 0 → A = true)) (hn : nm.size ≤ 140737488355328) (ht : tx.size ≤ 140737488355328) (hN : N ≤ icap) (hK : K ≤ kcap) :
    Calls Tryz.prog 13 #[.agg #[.int .i64 5, .string nm, .string tx, .slice io N icap, .slice ko K kcap]] w fun e w' => e = .returned (.bool (formV 5 nm tx N K A RO)) ∧ Below w.heap.size w w' := by
  have HX := Hid.mk (vbx_new w (.int .i64 5) (.string nm) (.string tx) (.slice io N icap) (.slice ko K kcap))
  have HNum := Hid.mk (fun u => w_Number nm u (by omega))
  have HUtf := Hid.mk (fun u => w_UTF tx u (by omega))
  cases he1 : nm.toList.isEmpty with
  | false =>
    have HF : Hid (formV 5 nm tx N K A RO = false) := by show _ = _; unfold formV bareB; rw [if_neg (by omega), if_neg (by omega), if_neg (by omega), if_pos rfl, he1]; simp
    go_enter Tryz.func13, Tryz.ntmps13
    go_wp2_with fail
    go_ret
    exact ⟨by rw [HF.out]; rfl, HX.out.below⟩
  | true =>
    cases he2 : tx.toList.isEmpty with
    | false =>
      have HF : Hid (formV 5 nm tx N K A RO = false) := by show _ = _; unfold formV bareB; rw [if_neg (by omega), if_neg (by omega), if_neg (by omega), if_pos rfl, he1, he2]; simp
      go_enter Tryz.func13, Tryz.ntmps13
      go_wp2_with fail
      go_ret
      exact ⟨by rw [HF.out]; rfl, HX.out.below⟩
    | true =>
      by_cases hK0 : K = 0
      · have hK1 : ¬ (0 : Int) < (K : Int) := by omega
        have HF : Hid (formV 5 nm tx N K A RO = A) := by show _ = _; unfold formV bareB; rw [if_neg (by omega), if_neg (by omega), if_neg (by omega), if_pos rfl, he1, he2, decide_eq_true hK0]; simp
        clear hK0
        go_enter Tryz.func13, Tryz.ntmps13
        go_wp2_with fail
        refine (HAll.out _ HX.out.below).mono ?_
        rintro e w9 ⟨rfl, hb9⟩
        have HX9 := Hid.mk (HX.out.keep hb9)
        clear hb9
        go_wp2_with fail
        go_ret
        exact ⟨by rw [HF.out]; rfl, HX9.out.below⟩
      · have hK1 : (0 : Int) < (K : Int) := by omega
        have HF : Hid (formV 5 nm tx N K A RO = false) := by show _ = _; unfold formV bareB; rw [if_neg (by omega), if_neg (by omega), if_neg (by omega), if_pos rfl, decide_eq_false hK0]; simp
        clear hK0
        go_enter Tryz.func13, Tryz.ntmps13
        go_wp2_with fail
        go_ret
        exact ⟨by rw [HF.out]; rfl, HX.out.below⟩

end Go.Proofs.YtapjfocjeligiaaGreatDoor
namespace Go.Proofs.YtapjfocjeligiaaGreatDoor
open Go.RowKit
set_option linter.unusedVariables false
set_option linter.unusedSimpArgs false

set_option maxRecDepth 100000 in
set_option maxHeartbeats 3200000 in
theorem formr_6 (nm tx : ByteArray) (io : Option Addr) (N icap : Nat) (ko : Option Addr) (K kcap : Nat) (A RO : Bool) (w : World)
    (HAll : Hid (∀ u, Below w.heap.size w u → Calls Tryz.prog 18 #[.slice io N icap] u fun e w' => e = .returned (.bool A) ∧ Below u.heap.size u w'))
    (HRise : Hid (∀ u, Below w.heap.size w u → Calls Tryz.prog 25 #[.slice ko K kcap] u fun e w' => e = .returned (.bool RO) ∧ Below u.heap.size u w'))
    (HA0 : Hid (N = 0 → A = true)) (hn : nm.size ≤ 140737488355328) (ht : tx.size ≤ 140737488355328) (hN : N ≤ icap) (hK : K ≤ kcap) :
    Calls Tryz.prog 13 #[.agg #[.int .i64 6, .string nm, .string tx, .slice io N icap, .slice ko K kcap]] w fun e w' => e = .returned (.bool (formV 6 nm tx N K A RO)) ∧ Below w.heap.size w w' := by
  have HX := Hid.mk (vbx_new w (.int .i64 6) (.string nm) (.string tx) (.slice io N icap) (.slice ko K kcap))
  have HNum := Hid.mk (fun u => w_Number nm u (by omega))
  have HUtf := Hid.mk (fun u => w_UTF tx u (by omega))
  cases he1 : nm.toList.isEmpty with
  | false =>
    have HF : Hid (formV 6 nm tx N K A RO = false) := by show _ = _; unfold formV bareB; rw [if_neg (by omega), if_neg (by omega), if_neg (by omega), if_neg (by omega), if_pos rfl, he1]; simp
    go_enter Tryz.func13, Tryz.ntmps13
    go_wp2_with fail
    go_ret
    exact ⟨by rw [HF.out]; rfl, HX.out.below⟩
  | true =>
    cases he2 : tx.toList.isEmpty with
    | false =>
      have HF : Hid (formV 6 nm tx N K A RO = false) := by show _ = _; unfold formV bareB; rw [if_neg (by omega), if_neg (by omega), if_neg (by omega), if_neg (by omega), if_pos rfl, he1, he2]; simp
      go_enter Tryz.func13, Tryz.ntmps13
      go_wp2_with fail
      go_ret
      exact ⟨by rw [HF.out]; rfl, HX.out.below⟩
    | true =>
      by_cases hKN : K = N
      · have hKN1 : ((K : Int) != (N : Int)) = false := by simp; omega
        cases hRO : RO with
        | false =>
          have HF : Hid (formV 6 nm tx N K A false = false) := by show _ = _; unfold formV bareB; rw [if_neg (by omega), if_neg (by omega), if_neg (by omega), if_neg (by omega), if_pos rfl]; simp
          rw [hRO] at HRise
          clear hKN
          go_enter Tryz.func13, Tryz.ntmps13
          go_wp2_with fail
          refine (HRise.out _ HX.out.below).mono ?_
          rintro e w3 ⟨rfl, hb3⟩
          have HX3 := Hid.mk (HX.out.keep hb3)
          have g0 := HX3.out.c0
          have g3 := HX3.out.c3
          have g4 := HX3.out.c4
          clear hb3
          go_wp2_with fail
          go_ret
          exact ⟨by rw [HF.out]; rfl, HX3.out.below⟩
        | true =>
          have HF : Hid (formV 6 nm tx N K A true = A) := by show _ = _; unfold formV bareB; rw [if_neg (by omega), if_neg (by omega), if_neg (by omega), if_neg (by omega), if_pos rfl, he1, he2, decide_eq_true hKN]; simp
          rw [hRO] at HRise
          clear hKN
          go_enter Tryz.func13, Tryz.ntmps13
          go_wp2_with fail
          refine (HRise.out _ HX.out.below).mono ?_
          rintro e w3 ⟨rfl, hb3⟩
          have HX3 := Hid.mk (HX.out.keep hb3)
          have g0 := HX3.out.c0
          have g3 := HX3.out.c3
          have g4 := HX3.out.c4
          clear hb3
          go_wp2_with fail
          refine (HAll.out _ HX3.out.below).mono ?_
          rintro e w9 ⟨rfl, hb9⟩
          have HX9 := Hid.mk (HX3.out.keep hb9)
          clear hb9
          go_wp2_with fail
          go_ret
          exact ⟨by rw [HF.out]; rfl, HX9.out.below⟩
      · have hKN1 : ((K : Int) != (N : Int)) = true := by simp; omega
        have HF : Hid (formV 6 nm tx N K A RO = false) := by show _ = _; unfold formV bareB; rw [if_neg (by omega), if_neg (by omega), if_neg (by omega), if_neg (by omega), if_pos rfl, decide_eq_false hKN]; simp
        clear hKN
        go_enter Tryz.func13, Tryz.ntmps13
        go_wp2_with fail
        go_ret
        exact ⟨by rw [HF.out]; rfl, HX.out.below⟩

end Go.Proofs.YtapjfocjeligiaaGreatDoor
