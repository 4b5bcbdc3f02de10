import Derived.Test.YtaflpeajapdkdaaM12
namespace Go.Proofs.Ytaflpeajapdkdaa
open Go.RowKit
set_option linter.unusedVariables false
set_option linter.unusedSimpArgs false

set_option maxRecDepth 100000 in
set_option maxHeartbeats 3200000 in
theorem formr_1 (nm tx : ByteArray) (io : Option Addr) (N icap : Nat) (ko : Option Addr) (K kcap : Nat) (A RO : Bool) (w : World)
    (HAll : Hid (∀ u, Below w.heap.size w u → Calls Try.prog 20 #[.slice io N icap] u fun e w' => e = .returned (.bool A) ∧ Below u.heap.size u w'))
    (HRise : Hid (∀ u, Below w.heap.size w u → Calls Try.prog 19 #[.slice ko K kcap] u fun e w' => e = .returned (.bool RO) ∧ Below u.heap.size u w'))
    (HA0 : Hid (N = 0 → A = true)) (hn : nm.size ≤ 140737488355328) (ht : tx.size ≤ 140737488355328) (hN : N ≤ icap) (hK : K ≤ kcap) :
    Calls Try.prog 6 #[.agg #[.int .i64 1, .string nm, .string tx, .slice io N icap, .slice ko K kcap]] w fun e w' => e = .returned (.bool (formV 1 nm tx N K A RO)) ∧ Below w.heap.size w w' := by
  have HX := Hid.mk (vbx_new w (.int .i64 1) (.string nm) (.string tx) (.slice io N icap) (.slice ko K kcap))
  have HNum := Hid.mk (fun u => w_Number nm u (by omega))
  have HUtf := Hid.mk (fun u => w_UTF tx u (by omega))
  cases he1 : nm.toList.isEmpty with
  | false =>
    have HF : Hid (formV 1 nm tx N K A RO = false) := by show _ = _; unfold formV bareB; rw [if_pos (by omega), he1]; rfl
    go_enter Try.func6, Try.ntmps6
    go_wp2_with fail
    go_ret
    exact ⟨by rw [HF.out]; rfl, HX.out.below⟩
  | true =>
    cases he2 : tx.toList.isEmpty with
    | false =>
      have HF : Hid (formV 1 nm tx N K A RO = false) := by show _ = _; unfold formV bareB; rw [if_pos (by omega), he1, he2]; rfl
      go_enter Try.func6, Try.ntmps6
      go_wp2_with fail
      go_ret
      exact ⟨by rw [HF.out]; rfl, HX.out.below⟩
    | true =>
      by_cases hN0 : N = 0
      · subst hN0
        by_cases hK0 : K = 0
        · subst hK0
          have HF : Hid (formV 1 nm tx 0 0 A RO = A) := by show _ = _; rw [HA0.out rfl]; unfold formV bareB; rw [if_pos (by omega), he1, he2]; rfl
          go_enter Try.func6, Try.ntmps6
          go_wp2_with fail
          refine (HAll.out _ HX.out.below).mono ?_
          rintro e w9 ⟨rfl, hb9⟩
          have HX9 := Hid.mk (HX.out.keep hb9)
          clear hb9
          go_wp2_with fail
          go_ret
          exact ⟨by rw [HF.out]; rfl, HX9.out.below⟩
        · have hK1 : (0 : Int) < (K : Int) := by omega
          have HF : Hid (formV 1 nm tx 0 K A RO = false) := by show _ = _; unfold formV bareB; rw [if_pos (by omega), he1, he2, decide_eq_false hK0]; simp
          clear hK0
          go_enter Try.func6, Try.ntmps6
          go_wp2_with fail
          go_ret
          exact ⟨by rw [HF.out]; rfl, HX.out.below⟩
      · have hN1 : (0 : Int) < (N : Int) := by omega
        have HF : Hid (formV 1 nm tx N K A RO = false) := by show _ = _; unfold formV bareB; rw [if_pos (by omega), he1, he2, decide_eq_false hN0]; simp
        clear hN0
        go_enter Try.func6, Try.ntmps6
        go_wp2_with fail
        go_ret
        exact ⟨by rw [HF.out]; rfl, HX.out.below⟩

end Go.Proofs.Ytaflpeajapdkdaa
namespace Go.Proofs.Ytaflpeajapdkdaa
open Go.RowKit
set_option linter.unusedVariables false
set_option linter.unusedSimpArgs false

set_option maxRecDepth 100000 in
set_option maxHeartbeats 3200000 in
theorem formr_2 (nm tx : ByteArray) (io : Option Addr) (N icap : Nat) (ko : Option Addr) (K kcap : Nat) (A RO : Bool) (w : World)
    (HAll : Hid (∀ u, Below w.heap.size w u → Calls Try.prog 20 #[.slice io N icap] u fun e w' => e = .returned (.bool A) ∧ Below u.heap.size u w'))
    (HRise : Hid (∀ u, Below w.heap.size w u → Calls Try.prog 19 #[.slice ko K kcap] u fun e w' => e = .returned (.bool RO) ∧ Below u.heap.size u w'))
    (HA0 : Hid (N = 0 → A = true)) (hn : nm.size ≤ 140737488355328) (ht : tx.size ≤ 140737488355328) (hN : N ≤ icap) (hK : K ≤ kcap) :
    Calls Try.prog 6 #[.agg #[.int .i64 2, .string nm, .string tx, .slice io N icap, .slice ko K kcap]] w fun e w' => e = .returned (.bool (formV 2 nm tx N K A RO)) ∧ Below w.heap.size w w' := by
  have HX := Hid.mk (vbx_new w (.int .i64 2) (.string nm) (.string tx) (.slice io N icap) (.slice ko K kcap))
  have HNum := Hid.mk (fun u => w_Number nm u (by omega))
  have HUtf := Hid.mk (fun u => w_UTF tx u (by omega))
  cases he1 : nm.toList.isEmpty with
  | false =>
    have HF : Hid (formV 2 nm tx N K A RO = false) := by show _ = _; unfold formV bareB; rw [if_pos (by omega), he1]; rfl
    go_enter Try.func6, Try.ntmps6
    go_wp2_with fail
    go_ret
    exact ⟨by rw [HF.out]; rfl, HX.out.below⟩
  | true =>
    cases he2 : tx.toList.isEmpty with
    | false =>
      have HF : Hid (formV 2 nm tx N K A RO = false) := by show _ = _; unfold formV bareB; rw [if_pos (by omega), he1, he2]; rfl
      go_enter Try.func6, Try.ntmps6
      go_wp2_with fail
      go_ret
      exact ⟨by rw [HF.out]; rfl, HX.out.below⟩
    | true =>
      by_cases hN0 : N = 0
      · subst hN0
        by_cases hK0 : K = 0
        · subst hK0
          have HF : Hid (formV 2 nm tx 0 0 A RO = A) := by show _ = _; rw [HA0.out rfl]; unfold formV bareB; rw [if_pos (by omega), he1, he2]; rfl
          go_enter Try.func6, Try.ntmps6
          go_wp2_with fail
          refine (HAll.out _ HX.out.below).mono ?_
          rintro e w9 ⟨rfl, hb9⟩
          have HX9 := Hid.mk (HX.out.keep hb9)
          clear hb9
          go_wp2_with fail
          go_ret
          exact ⟨by rw [HF.out]; rfl, HX9.out.below⟩
        · have hK1 : (0 : Int) < (K : Int) := by omega
          have HF : Hid (formV 2 nm tx 0 K A RO = false) := by show _ = _; unfold formV bareB; rw [if_pos (by omega), he1, he2, decide_eq_false hK0]; simp
          clear hK0
          go_enter Try.func6, Try.ntmps6
          go_wp2_with fail
          go_ret
          exact ⟨by rw [HF.out]; rfl, HX.out.below⟩
      · have hN1 : (0 : Int) < (N : Int) := by omega
        have HF : Hid (formV 2 nm tx N K A RO = false) := by show _ = _; unfold formV bareB; rw [if_pos (by omega), he1, he2, decide_eq_false hN0]; simp
        clear hN0
        go_enter Try.func6, Try.ntmps6
        go_wp2_with fail
        go_ret
        exact ⟨by rw [HF.out]; rfl, HX.out.below⟩

end Go.Proofs.Ytaflpeajapdkdaa
namespace Go.Proofs.Ytaflpeajapdkdaa
open Go.RowKit
set_option linter.unusedVariables false
set_option linter.unusedSimpArgs false

set_option maxRecDepth 100000 in
set_option maxHeartbeats 3200000 in
theorem formr_3 (nm tx : ByteArray) (io : Option Addr) (N icap : Nat) (ko : Option Addr) (K kcap : Nat) (A RO : Bool) (w : World)
    (HAll : Hid (∀ u, Below w.heap.size w u → Calls Try.prog 20 #[.slice io N icap] u fun e w' => e = .returned (.bool A) ∧ Below u.heap.size u w'))
    (HRise : Hid (∀ u, Below w.heap.size w u → Calls Try.prog 19 #[.slice ko K kcap] u fun e w' => e = .returned (.bool RO) ∧ Below u.heap.size u w'))
    (HA0 : Hid (N = 0 → A = true)) (hn : nm.size ≤ 140737488355328) (ht : tx.size ≤ 140737488355328) (hN : N ≤ icap) (hK : K ≤ kcap) :
    Calls Try.prog 6 #[.agg #[.int .i64 3, .string nm, .string tx, .slice io N icap, .slice ko K kcap]] w fun e w' => e = .returned (.bool (formV 3 nm tx N K A RO)) ∧ Below w.heap.size w w' := by
  have HX := Hid.mk (vbx_new w (.int .i64 3) (.string nm) (.string tx) (.slice io N icap) (.slice ko K kcap))
  have HNum := Hid.mk (fun u => w_Number nm u (by omega))
  have HUtf := Hid.mk (fun u => w_UTF tx u (by omega))
  cases hFm : Pl.formed nm.data.toList with
  | false =>
    have HF : Hid (formV 3 nm tx N K A RO = false) := by show _ = _; unfold formV bareB; rw [if_neg (by omega), if_pos rfl, hFm]; rfl
    rw [hFm] at HNum
    go_enter Try.func6, Try.ntmps6
    go_wp2_with fail
    refine (HNum.out _).mono ?_
    rintro e w2 ⟨rfl, hw⟩
    obtain rfl := hw.symm
    clear hw
    go_wp2_with fail
    go_ret
    exact ⟨by rw [HF.out]; rfl, HX.out.below⟩
  | true =>
    rw [hFm] at HNum
    cases he2 : tx.toList.isEmpty with
    | false =>
      have HF : Hid (formV 3 nm tx N K A RO = false) := by show _ = _; unfold formV bareB; rw [if_neg (by omega), if_pos rfl, hFm, he2]; simp
      go_enter Try.func6, Try.ntmps6
      go_wp2_with fail
      refine (HNum.out _).mono ?_
      rintro e w2 ⟨rfl, hw⟩
      obtain rfl := hw.symm
      clear hw
      go_wp2_with fail
      go_ret
      exact ⟨by rw [HF.out]; rfl, HX.out.below⟩
    | true =>
      by_cases hN0 : N = 0
      · subst hN0
        by_cases hK0 : K = 0
        · subst hK0
          have HF : Hid (formV 3 nm tx 0 0 A RO = A) := by show _ = _; rw [HA0.out rfl]; unfold formV bareB; rw [if_neg (by omega), if_pos rfl, hFm, he2, emp_e]; rfl
          go_enter Try.func6, Try.ntmps6
          go_wp2_with fail
          refine (HNum.out _).mono ?_
          rintro e w2 ⟨rfl, hw⟩
          obtain rfl := hw.symm
          clear hw
          go_wp2_with fail
          refine (HAll.out _ HX.out.below).mono ?_
          rintro e w9 ⟨rfl, hb9⟩
          have HX9 := Hid.mk (HX.out.keep hb9)
          clear hb9
          go_wp2_with fail
          go_ret
          exact ⟨by rw [HF.out]; rfl, HX9.out.below⟩
        · have hK1 : (0 : Int) < (K : Int) := by omega
          have HF : Hid (formV 3 nm tx 0 K A RO = false) := by show _ = _; unfold formV bareB; rw [if_neg (by omega), if_pos rfl, hFm, he2, decide_eq_false hK0]; simp
          clear hK0
          go_enter Try.func6, Try.ntmps6
          go_wp2_with fail
          refine (HNum.out _).mono ?_
          rintro e w2 ⟨rfl, hw⟩
          obtain rfl := hw.symm
          clear hw
          go_wp2_with fail
          go_ret
          exact ⟨by rw [HF.out]; rfl, HX.out.below⟩
      · have hN1 : (0 : Int) < (N : Int) := by omega
        have HF : Hid (formV 3 nm tx N K A RO = false) := by show _ = _; unfold formV bareB; rw [if_neg (by omega), if_pos rfl, hFm, he2, decide_eq_false hN0]; simp
        clear hN0
        go_enter Try.func6, Try.ntmps6
        go_wp2_with fail
        refine (HNum.out _).mono ?_
        rintro e w2 ⟨rfl, hw⟩
        obtain rfl := hw.symm
        clear hw
        go_wp2_with fail
        go_ret
        exact ⟨by rw [HF.out]; rfl, HX.out.below⟩

end Go.Proofs.Ytaflpeajapdkdaa
namespace Go.Proofs.Ytaflpeajapdkdaa
open Go.RowKit
set_option linter.unusedVariables false
set_option linter.unusedSimpArgs false

set_option maxRecDepth 100000 in
set_option maxHeartbeats 3200000 in
theorem formr_4 (nm tx : ByteArray) (io : Option Addr) (N icap : Nat) (ko : Option Addr) (K kcap : Nat) (A RO : Bool) (w : World)
    (HAll : Hid (∀ u, Below w.heap.size w u → Calls Try.prog 20 #[.slice io N icap] u fun e w' => e = .returned (.bool A) ∧ Below u.heap.size u w'))
    (HRise : Hid (∀ u, Below w.heap.size w u → Calls Try.prog 19 #[.slice ko K kcap] u fun e w' => e = .returned (.bool RO) ∧ Below u.heap.size u w'))
    (HA0 : Hid (N = 0 → A = true)) (hn : nm.size ≤ 140737488355328) (ht : tx.size ≤ 140737488355328) (hN : N ≤ icap) (hK : K ≤ kcap) :
    Calls Try.prog 6 #[.agg #[.int .i64 4, .string nm, .string tx, .slice io N icap, .slice ko K kcap]] w fun e w' => e = .returned (.bool (formV 4 nm tx N K A RO)) ∧ Below w.heap.size w w' := by
  have HX := Hid.mk (vbx_new w (.int .i64 4) (.string nm) (.string tx) (.slice io N icap) (.slice ko K kcap))
  have HNum := Hid.mk (fun u => w_Number nm u (by omega))
  have HUtf := Hid.mk (fun u => w_UTF tx u (by omega))
  cases he1 : nm.toList.isEmpty with
  | false =>
    have HF : Hid (formV 4 nm tx N K A RO = false) := by show _ = _; unfold formV bareB; rw [if_neg (by omega), if_neg (by omega), if_pos rfl, he1]; simp
    go_enter Try.func6, Try.ntmps6
    go_wp2_with fail
    go_ret
    exact ⟨by rw [HF.out]; rfl, HX.out.below⟩
  | true =>
    cases hV : okB tx.data.toList with
    | false =>
      have HF : Hid (formV 4 nm tx N K A RO = false) := by show _ = _; unfold formV bareB; rw [if_neg (by omega), if_neg (by omega), if_pos rfl, hV]; rfl
      rw [hV] at HUtf
      go_enter Try.func6, Try.ntmps6
      go_wp2_with fail
      refine (HUtf.out _).mono ?_
      rintro e w2 ⟨rfl, hw⟩
      obtain rfl := hw.symm
      clear hw
      go_wp2_with fail
      go_ret
      exact ⟨by rw [HF.out]; rfl, HX.out.below⟩
    | true =>
      rw [hV] at HUtf
      by_cases hN0 : N = 0
      · subst hN0
        by_cases hK0 : K = 0
        · subst hK0
          have HF : Hid (formV 4 nm tx 0 0 A RO = A) := by show _ = _; rw [HA0.out rfl]; unfold formV bareB; rw [if_neg (by omega), if_neg (by omega), if_pos rfl, hV, he1, emp_e]; rfl
          go_enter Try.func6, Try.ntmps6
          go_wp2_with fail
          refine (HUtf.out _).mono ?_
          rintro e w2 ⟨rfl, hw⟩
          obtain rfl := hw.symm
          clear hw
          go_wp2_with fail
          refine (HAll.out _ HX.out.below).mono ?_
          rintro e w9 ⟨rfl, hb9⟩
          have HX9 := Hid.mk (HX.out.keep hb9)
          clear hb9
          go_wp2_with fail
          go_ret
          exact ⟨by rw [HF.out]; rfl, HX9.out.below⟩
        · have hK1 : (0 : Int) < (K : Int) := by omega
          have HF : Hid (formV 4 nm tx 0 K A RO = false) := by show _ = _; unfold formV bareB; rw [if_neg (by omega), if_neg (by omega), if_pos rfl, hV, he1, decide_eq_false hK0]; simp
          clear hK0
          go_enter Try.func6, Try.ntmps6
          go_wp2_with fail
          refine (HUtf.out _).mono ?_
          rintro e w2 ⟨rfl, hw⟩
          obtain rfl := hw.symm
          clear hw
          go_wp2_with fail
          go_ret
          exact ⟨by rw [HF.out]; rfl, HX.out.below⟩
      · have hN1 : (0 : Int) < (N : Int) := by omega
        have HF : Hid (formV 4 nm tx N K A RO = false) := by show _ = _; unfold formV bareB; rw [if_neg (by omega), if_neg (by omega), if_pos rfl, hV, he1, decide_eq_false hN0]; simp
        clear hN0
        go_enter Try.func6, Try.ntmps6
        go_wp2_with fail
        refine (HUtf.out _).mono ?_
        rintro e w2 ⟨rfl, hw⟩
        obtain rfl := hw.symm
        clear hw
        go_wp2_with fail
        go_ret
        exact ⟨by rw [HF.out]; rfl, HX.out.below⟩

end Go.Proofs.Ytaflpeajapdkdaa
