import Derived.Test.YtfjmgccbpiolhaaGreatDoorM17
namespace Go.Proofs.YtfjmgccbpiolhaaGreatDoor
open Go.RowKit
set_option linter.unusedVariables false
set_option linter.unusedSimpArgs false

set_option maxRecDepth 100000 in
set_option maxHeartbeats 3200000 in
theorem formv_3 (nm tx : ByteArray) (io : Option Addr) (N icap : Nat) (ko : Option Addr) (K kcap : Nat) (A R O : Bool) (w : World)
    (HAll : Hid (∀ u, Below w.heap.size w u → Calls Tryz.prog 60 #[.slice io N icap] u fun e w' => e = .returned (.bool A) ∧ Below u.heap.size u w'))
    (HR : Hid (∀ u, Below w.heap.size w u → Calls Tryz.prog 61 #[.slice ko K kcap] u fun e w' => e = .returned (.bool R) ∧ Below u.heap.size u w'))
    (HO : Hid (∀ u, Below w.heap.size w u → Calls Tryz.prog 62 #[.slice ko K kcap] u fun e w' => e = .returned (.bool O) ∧ Below u.heap.size u w'))
    (hn : nm.size ≤ 140737488355328) (ht : tx.size ≤ 140737488355328) (hN : N ≤ icap) (hK : K ≤ kcap) :
    Calls Tryz.prog 24 #[.agg #[.int .i64 3, .string nm, .string tx, .slice io N icap, .slice ko K kcap]] w fun e w' => e = .returned (.bool (formV 3 nm tx N K A (R && O))) ∧ Below w.heap.size w w' := by
  have HNum : Hid (∀ u, Below w.heap.size w u → Calls Tryz.prog 58 #[.string nm] u fun e w' => e = .returned (.bool (Pl.formed nm.data.toList)) ∧ Below u.heap.size u w') := fun u _ => w_Formed nm u (by unfold maxLen; omega)
  have HUtf : Hid (∀ u, Below w.heap.size w u → Calls Tryz.prog 59 #[.string tx] u fun e w' => e = .returned (.bool (okB tx.data.toList)) ∧ Below u.heap.size u w') := fun u _ => w_Valid tx u (by omega)
  have HX := Hid.mk (vb2_new w (.int .i64 3) (.string nm) (.string tx) (.slice io N icap) (.slice ko K kcap) (.string (⟨#[]⟩ : ByteArray)) (.string tx) (.slice io N icap) (.slice ko K kcap))
  cases hc : Pl.formed nm.data.toList with
  | false =>
    have HF : Hid (formV 3 nm tx N K A (R && O) = false) := by show _ = _; unfold formV; rw [if_neg (by omega), if_pos rfl, hc]; rfl
    rw [hc] at HNum
    go_enter Tryz.func24, Tryz.ntmps24
    go_wp2_with fail
    refine (HNum.out _ HX.out.one.below).mono ?_
    rintro e w2 ⟨rfl, hw2⟩
    have HX2 := Hid.mk (HX.out.keep hw2)
    clear hw2
    go_wp2_with fail
    go_ret
    exact ⟨by rw [HF.out]; rfl, HX2.out.one.below⟩
  | true =>
    have HF : Hid (formV 3 nm tx N K A (R && O) = bareB .empty tx N K) := by show _ = _; unfold formV; rw [if_neg (by omega), if_pos rfl, hc]; rfl
    rw [hc] at HNum
    go_enter Tryz.func24, Tryz.ntmps24
    go_wp2_with fail
    refine (HNum.out _ HX.out.one.below).mono ?_
    rintro e w2 ⟨rfl, hw2⟩
    have HX2 := Hid.mk (HX.out.keep hw2)
    clear hw2
    have q0HX2 := HX2.out.d0
    have q1HX2 := HX2.out.d1
    have q2HX2 := HX2.out.d2
    have q3HX2 := HX2.out.d3
    have q4HX2 := HX2.out.d4
    go_wp2_with fail
    refine (w_bare 3 (⟨#[]⟩ : ByteArray) tx io N icap ko K kcap _).mono ?_
    rintro e w9 ⟨rfl, hb9⟩
    have HX9 := Hid.mk (HX2.out.keep hb9)
    clear hb9
    go_wp2_with fail
    go_ret
    exact ⟨by rw [HF.out]; rfl, HX9.out.one.below⟩

set_option maxRecDepth 100000 in
set_option maxHeartbeats 3200000 in
theorem formv_4 (nm tx : ByteArray) (io : Option Addr) (N icap : Nat) (ko : Option Addr) (K kcap : Nat) (A R O : Bool) (w : World)
    (HAll : Hid (∀ u, Below w.heap.size w u → Calls Tryz.prog 60 #[.slice io N icap] u fun e w' => e = .returned (.bool A) ∧ Below u.heap.size u w'))
    (HR : Hid (∀ u, Below w.heap.size w u → Calls Tryz.prog 61 #[.slice ko K kcap] u fun e w' => e = .returned (.bool R) ∧ Below u.heap.size u w'))
    (HO : Hid (∀ u, Below w.heap.size w u → Calls Tryz.prog 62 #[.slice ko K kcap] u fun e w' => e = .returned (.bool O) ∧ Below u.heap.size u w'))
    (hn : nm.size ≤ 140737488355328) (ht : tx.size ≤ 140737488355328) (hN : N ≤ icap) (hK : K ≤ kcap) :
    Calls Tryz.prog 24 #[.agg #[.int .i64 4, .string nm, .string tx, .slice io N icap, .slice ko K kcap]] w fun e w' => e = .returned (.bool (formV 4 nm tx N K A (R && O))) ∧ Below w.heap.size w w' := by
  have HNum : Hid (∀ u, Below w.heap.size w u → Calls Tryz.prog 58 #[.string nm] u fun e w' => e = .returned (.bool (Pl.formed nm.data.toList)) ∧ Below u.heap.size u w') := fun u _ => w_Formed nm u (by unfold maxLen; omega)
  have HUtf : Hid (∀ u, Below w.heap.size w u → Calls Tryz.prog 59 #[.string tx] u fun e w' => e = .returned (.bool (okB tx.data.toList)) ∧ Below u.heap.size u w') := fun u _ => w_Valid tx u (by omega)
  have HX := Hid.mk (vb2_new w (.int .i64 4) (.string nm) (.string tx) (.slice io N icap) (.slice ko K kcap) (.string nm) (.string (⟨#[]⟩ : ByteArray)) (.slice io N icap) (.slice ko K kcap))
  cases hc : okB tx.data.toList with
  | false =>
    have HF : Hid (formV 4 nm tx N K A (R && O) = false) := by show _ = _; unfold formV; rw [if_neg (by omega), if_neg (by omega), if_pos rfl, hc]; rfl
    rw [hc] at HUtf
    go_enter Tryz.func24, Tryz.ntmps24
    go_wp2_with fail
    refine (HUtf.out _ HX.out.one.below).mono ?_
    rintro e w2 ⟨rfl, hw2⟩
    have HX2 := Hid.mk (HX.out.keep hw2)
    clear hw2
    go_wp2_with fail
    go_ret
    exact ⟨by rw [HF.out]; rfl, HX2.out.one.below⟩
  | true =>
    have HF : Hid (formV 4 nm tx N K A (R && O) = bareB nm .empty N K) := by show _ = _; unfold formV; rw [if_neg (by omega), if_neg (by omega), if_pos rfl, hc]; rfl
    rw [hc] at HUtf
    go_enter Tryz.func24, Tryz.ntmps24
    go_wp2_with fail
    refine (HUtf.out _ HX.out.one.below).mono ?_
    rintro e w2 ⟨rfl, hw2⟩
    have HX2 := Hid.mk (HX.out.keep hw2)
    clear hw2
    have q0HX2 := HX2.out.d0
    have q1HX2 := HX2.out.d1
    have q2HX2 := HX2.out.d2
    have q3HX2 := HX2.out.d3
    have q4HX2 := HX2.out.d4
    go_wp2_with fail
    refine (w_bare 4 nm (⟨#[]⟩ : ByteArray) io N icap ko K kcap _).mono ?_
    rintro e w9 ⟨rfl, hb9⟩
    have HX9 := Hid.mk (HX2.out.keep hb9)
    clear hb9
    go_wp2_with fail
    go_ret
    exact ⟨by rw [HF.out]; rfl, HX9.out.one.below⟩

end Go.Proofs.YtfjmgccbpiolhaaGreatDoor
namespace Go.Proofs.YtfjmgccbpiolhaaGreatDoor
open Go.RowKit
set_option linter.unusedVariables false
set_option linter.unusedSimpArgs false

set_option maxRecDepth 100000 in
set_option maxHeartbeats 3200000 in
theorem formv_5 (nm tx : ByteArray) (io : Option Addr) (N icap : Nat) (ko : Option Addr) (K kcap : Nat) (A R O : Bool) (w : World)
    (HAll : Hid (∀ u, Below w.heap.size w u → Calls Tryz.prog 60 #[.slice io N icap] u fun e w' => e = .returned (.bool A) ∧ Below u.heap.size u w'))
    (HR : Hid (∀ u, Below w.heap.size w u → Calls Tryz.prog 61 #[.slice ko K kcap] u fun e w' => e = .returned (.bool R) ∧ Below u.heap.size u w'))
    (HO : Hid (∀ u, Below w.heap.size w u → Calls Tryz.prog 62 #[.slice ko K kcap] u fun e w' => e = .returned (.bool O) ∧ Below u.heap.size u w'))
    (hn : nm.size ≤ 140737488355328) (ht : tx.size ≤ 140737488355328) (hN : N ≤ icap) (hK : K ≤ kcap) :
    Calls Tryz.prog 24 #[.agg #[.int .i64 5, .string nm, .string tx, .slice io N icap, .slice ko K kcap]] w fun e w' => e = .returned (.bool (formV 5 nm tx N K A (R && O))) ∧ Below w.heap.size w w' := by
  have HNum : Hid (∀ u, Below w.heap.size w u → Calls Tryz.prog 58 #[.string nm] u fun e w' => e = .returned (.bool (Pl.formed nm.data.toList)) ∧ Below u.heap.size u w') := fun u _ => w_Formed nm u (by unfold maxLen; omega)
  have HUtf : Hid (∀ u, Below w.heap.size w u → Calls Tryz.prog 59 #[.string tx] u fun e w' => e = .returned (.bool (okB tx.data.toList)) ∧ Below u.heap.size u w') := fun u _ => w_Valid tx u (by omega)
  have HX := Hid.mk (vb2_new w (.int .i64 5) (.string nm) (.string tx) (.slice io N icap) (.slice ko K kcap) (.string nm) (.string tx) (.slice none 0 0) (.slice ko K kcap))
  cases hc : A with
  | false =>
    have HF : Hid (formV 5 nm tx N K false (R && O) = false) := by show _ = _; unfold formV; rw [if_neg (by omega), if_neg (by omega), if_neg (by omega), if_pos rfl]; rfl
    rw [hc] at HAll
    go_enter Tryz.func24, Tryz.ntmps24
    go_wp2_with fail
    refine (HAll.out _ HX.out.one.below).mono ?_
    rintro e w2 ⟨rfl, hw2⟩
    have HX2 := Hid.mk (HX.out.keep hw2)
    clear hw2
    go_wp2_with fail
    go_ret
    exact ⟨by rw [HF.out]; rfl, HX2.out.one.below⟩
  | true =>
    have HF : Hid (formV 5 nm tx N K true (R && O) = bareB nm tx 0 K) := by show _ = _; unfold formV; rw [if_neg (by omega), if_neg (by omega), if_neg (by omega), if_pos rfl]; rfl
    rw [hc] at HAll
    go_enter Tryz.func24, Tryz.ntmps24
    go_wp2_with fail
    refine (HAll.out _ HX.out.one.below).mono ?_
    rintro e w2 ⟨rfl, hw2⟩
    have HX2 := Hid.mk (HX.out.keep hw2)
    clear hw2
    have q0HX2 := HX2.out.d0
    have q1HX2 := HX2.out.d1
    have q2HX2 := HX2.out.d2
    have q3HX2 := HX2.out.d3
    have q4HX2 := HX2.out.d4
    go_wp2_with fail
    refine (w_bare 5 nm tx none 0 0 ko K kcap _).mono ?_
    rintro e w9 ⟨rfl, hb9⟩
    have HX9 := Hid.mk (HX2.out.keep hb9)
    clear hb9
    go_wp2_with fail
    go_ret
    exact ⟨by rw [HF.out]; rfl, HX9.out.one.below⟩

end Go.Proofs.YtfjmgccbpiolhaaGreatDoor
namespace Go.Proofs.YtfjmgccbpiolhaaGreatDoor
open Go.RowKit
set_option linter.unusedVariables false
set_option linter.unusedSimpArgs false

set_option maxRecDepth 100000 in
set_option maxHeartbeats 3200000 in
theorem formv_6 (nm tx : ByteArray) (io : Option Addr) (N icap : Nat) (ko : Option Addr) (K kcap : Nat) (A R O : Bool) (w : World)
    (HAll : Hid (∀ u, Below w.heap.size w u → Calls Tryz.prog 60 #[.slice io N icap] u fun e w' => e = .returned (.bool A) ∧ Below u.heap.size u w'))
    (HR : Hid (∀ u, Below w.heap.size w u → Calls Tryz.prog 61 #[.slice ko K kcap] u fun e w' => e = .returned (.bool R) ∧ Below u.heap.size u w'))
    (HO : Hid (∀ u, Below w.heap.size w u → Calls Tryz.prog 62 #[.slice ko K kcap] u fun e w' => e = .returned (.bool O) ∧ Below u.heap.size u w'))
    (hn : nm.size ≤ 140737488355328) (ht : tx.size ≤ 140737488355328) (hN : N ≤ icap) (hK : K ≤ kcap) :
    Calls Tryz.prog 24 #[.agg #[.int .i64 6, .string nm, .string tx, .slice io N icap, .slice ko K kcap]] w fun e w' => e = .returned (.bool (formV 6 nm tx N K A (R && O))) ∧ Below w.heap.size w w' := by
  have HNum : Hid (∀ u, Below w.heap.size w u → Calls Tryz.prog 58 #[.string nm] u fun e w' => e = .returned (.bool (Pl.formed nm.data.toList)) ∧ Below u.heap.size u w') := fun u _ => w_Formed nm u (by unfold maxLen; omega)
  have HUtf : Hid (∀ u, Below w.heap.size w u → Calls Tryz.prog 59 #[.string tx] u fun e w' => e = .returned (.bool (okB tx.data.toList)) ∧ Below u.heap.size u w') := fun u _ => w_Valid tx u (by omega)
  have HX := Hid.mk (vb2_new w (.int .i64 6) (.string nm) (.string tx) (.slice io N icap) (.slice ko K kcap) (.string nm) (.string tx) (.slice none 0 0) (.slice none 0 0))
  by_cases hKN : K = N
  · have hKN1 : ((K : Int) == (N : Int)) = true := by rw [beq_iff_eq]; omega
    have HKN : Hid (decide (K = N) = true) := decide_eq_true hKN
    clear hKN
    cases hR : R with
    | false =>
      have HF : Hid (formV 6 nm tx N K A (false && O) = false) := by show _ = _; unfold formV; rw [if_neg (by omega), if_neg (by omega), if_neg (by omega), if_neg (by omega), if_pos rfl]; simp
      rw [hR] at HR
      go_enter Tryz.func24, Tryz.ntmps24
      go_wp2_with fail
      refine (HR.out _ HX.out.one.below).mono ?_
      rintro e w2 ⟨rfl, hw2⟩
      have HX2 := Hid.mk (HX.out.keep hw2)
      clear hw2
      have p3HX2 := HX2.out.one.c3
      have p4HX2 := HX2.out.one.c4
      go_wp2_with fail
      go_ret
      exact ⟨by rw [HF.out]; rfl, HX2.out.one.below⟩
    | true =>
      rw [hR] at HR
      cases hO : O with
      | false =>
        have HF : Hid (formV 6 nm tx N K A (true && false) = false) := by show _ = _; unfold formV; rw [if_neg (by omega), if_neg (by omega), if_neg (by omega), if_neg (by omega), if_pos rfl]; simp
        rw [hO] at HO
        go_enter Tryz.func24, Tryz.ntmps24
        go_wp2_with fail
        refine (HR.out _ HX.out.one.below).mono ?_
        rintro e w2 ⟨rfl, hw2⟩
        have HX2 := Hid.mk (HX.out.keep hw2)
        clear hw2
        have p3HX2 := HX2.out.one.c3
        have p4HX2 := HX2.out.one.c4
        go_wp2_with fail
        refine (HO.out _ HX2.out.one.below).mono ?_
        rintro e w3 ⟨rfl, hw3⟩
        have HX3 := Hid.mk (HX2.out.keep hw3)
        clear hw3
        have p3HX3 := HX3.out.one.c3
        have p4HX3 := HX3.out.one.c4
        go_wp2_with fail
        go_ret
        exact ⟨by rw [HF.out]; rfl, HX3.out.one.below⟩
      | true =>
        rw [hO] at HO
        cases hA : A with
        | false =>
          have HF : Hid (formV 6 nm tx N K false (true && true) = false) := by show _ = _; unfold formV; rw [if_neg (by omega), if_neg (by omega), if_neg (by omega), if_neg (by omega), if_pos rfl]; simp
          rw [hA] at HAll
          go_enter Tryz.func24, Tryz.ntmps24
          go_wp2_with fail
          refine (HR.out _ HX.out.one.below).mono ?_
          rintro e w2 ⟨rfl, hw2⟩
          have HX2 := Hid.mk (HX.out.keep hw2)
          clear hw2
          have p3HX2 := HX2.out.one.c3
          have p4HX2 := HX2.out.one.c4
          go_wp2_with fail
          refine (HO.out _ HX2.out.one.below).mono ?_
          rintro e w3 ⟨rfl, hw3⟩
          have HX3 := Hid.mk (HX2.out.keep hw3)
          clear hw3
          have p3HX3 := HX3.out.one.c3
          have p4HX3 := HX3.out.one.c4
          go_wp2_with fail
          refine (HAll.out _ HX3.out.one.below).mono ?_
          rintro e w4 ⟨rfl, hw4⟩
          have HX4 := Hid.mk (HX3.out.keep hw4)
          clear hw4
          have q0HX4 := HX4.out.d0
          have q1HX4 := HX4.out.d1
          have q2HX4 := HX4.out.d2
          have q3HX4 := HX4.out.d3
          have q4HX4 := HX4.out.d4
          go_wp2_with fail
          go_ret
          exact ⟨by rw [HF.out]; rfl, HX4.out.one.below⟩
        | true =>
          have HF : Hid (formV 6 nm tx N K true (true && true) = bareB nm tx 0 0) := by show _ = _; unfold formV; rw [if_neg (by omega), if_neg (by omega), if_neg (by omega), if_neg (by omega), if_pos rfl, HKN.out]; rfl
          rw [hA] at HAll
          go_enter Tryz.func24, Tryz.ntmps24
          go_wp2_with fail
          refine (HR.out _ HX.out.one.below).mono ?_
          rintro e w2 ⟨rfl, hw2⟩
          have HX2 := Hid.mk (HX.out.keep hw2)
          clear hw2
          have p3HX2 := HX2.out.one.c3
          have p4HX2 := HX2.out.one.c4
          go_wp2_with fail
          refine (HO.out _ HX2.out.one.below).mono ?_
          rintro e w3 ⟨rfl, hw3⟩
          have HX3 := Hid.mk (HX2.out.keep hw3)
          clear hw3
          have p3HX3 := HX3.out.one.c3
          have p4HX3 := HX3.out.one.c4
          go_wp2_with fail
          refine (HAll.out _ HX3.out.one.below).mono ?_
          rintro e w4 ⟨rfl, hw4⟩
          have HX4 := Hid.mk (HX3.out.keep hw4)
          clear hw4
          have q0HX4 := HX4.out.d0
          have q1HX4 := HX4.out.d1
          have q2HX4 := HX4.out.d2
          have q3HX4 := HX4.out.d3
          have q4HX4 := HX4.out.d4
          go_wp2_with fail
          refine (w_bare 6 nm tx none 0 0 none 0 0 _).mono ?_
          rintro e w9 ⟨rfl, hb9⟩
          have HX9 := Hid.mk (HX4.out.keep hb9)
          clear hb9
          go_wp2_with fail
          go_ret
          exact ⟨by rw [HF.out]; rfl, HX9.out.one.below⟩
  · have hKN1 : ((K : Int) == (N : Int)) = false := by rw [beq_eq_false_iff_ne]; omega
    have HF : Hid (formV 6 nm tx N K A (R && O) = false) := by show _ = _; unfold formV; rw [if_neg (by omega), if_neg (by omega), if_neg (by omega), if_neg (by omega), if_pos rfl, decide_eq_false hKN]; simp
    clear hKN
    go_enter Tryz.func24, Tryz.ntmps24
    go_wp2_with fail
    go_ret
    exact ⟨by rw [HF.out]; rfl, HX.out.one.below⟩

end Go.Proofs.YtfjmgccbpiolhaaGreatDoor
namespace Go.Proofs.YtfjmgccbpiolhaaGreatDoor
open Go.RowKit
set_option linter.unusedVariables false
set_option linter.unusedSimpArgs false

set_option maxRecDepth 100000 in
set_option maxHeartbeats 3200000 in
theorem formv_else (kd : Int) (k0 : kd ≠ 0) (k1 : kd ≠ 1) (k2 : kd ≠ 2) (k3 : kd ≠ 3) (k4 : kd ≠ 4) (k5 : kd ≠ 5) (k6 : kd ≠ 6) (nm tx : ByteArray) (io : Option Addr) (N icap : Nat) (ko : Option Addr) (K kcap : Nat) (A R O : Bool) (w : World)
    (HAll : Hid (∀ u, Below w.heap.size w u → Calls Tryz.prog 60 #[.slice io N icap] u fun e w' => e = .returned (.bool A) ∧ Below u.heap.size u w'))
    (HR : Hid (∀ u, Below w.heap.size w u → Calls Tryz.prog 61 #[.slice ko K kcap] u fun e w' => e = .returned (.bool R) ∧ Below u.heap.size u w'))
    (HO : Hid (∀ u, Below w.heap.size w u → Calls Tryz.prog 62 #[.slice ko K kcap] u fun e w' => e = .returned (.bool O) ∧ Below u.heap.size u w'))
    (hn : nm.size ≤ 140737488355328) (ht : tx.size ≤ 140737488355328) (hN : N ≤ icap) (hK : K ≤ kcap) :
    Calls Tryz.prog 24 #[.agg #[.int .i64 kd, .string nm, .string tx, .slice io N icap, .slice ko K kcap]] w fun e w' => e = .returned (.bool (formV kd nm tx N K A (R && O))) ∧ Below w.heap.size w w' := by
  have HNum : Hid (∀ u, Below w.heap.size w u → Calls Tryz.prog 58 #[.string nm] u fun e w' => e = .returned (.bool (Pl.formed nm.data.toList)) ∧ Below u.heap.size u w') := fun u _ => w_Formed nm u (by unfold maxLen; omega)
  have HUtf : Hid (∀ u, Below w.heap.size w u → Calls Tryz.prog 59 #[.string tx] u fun e w' => e = .returned (.bool (okB tx.data.toList)) ∧ Below u.heap.size u w') := fun u _ => w_Valid tx u (by omega)
  have HX := Hid.mk (vb2_new w (.int .i64 kd) (.string nm) (.string tx) (.slice io N icap) (.slice ko K kcap) (.string nm) (.string tx) (.slice io N icap) (.slice ko K kcap))
  have HF : Hid (formV kd nm tx N K A (R && O) = false) := by show _ = _; unfold formV; rw [if_neg (by omega), if_neg (by omega), if_neg (by omega), if_neg (by omega), if_neg (by omega)]
  have b0 : (kd == 0) = false := by rw [beq_eq_false_iff_ne]; exact k0
  have b1 : (kd == 1) = false := by rw [beq_eq_false_iff_ne]; exact k1
  have b2 : (kd == 2) = false := by rw [beq_eq_false_iff_ne]; exact k2
  have b3 : (kd == 3) = false := by rw [beq_eq_false_iff_ne]; exact k3
  have b4 : (kd == 4) = false := by rw [beq_eq_false_iff_ne]; exact k4
  have b5 : (kd == 5) = false := by rw [beq_eq_false_iff_ne]; exact k5
  have b6 : (kd == 6) = false := by rw [beq_eq_false_iff_ne]; exact k6
  clear k0 k1 k2 k3 k4 k5 k6
  go_enter Tryz.func24, Tryz.ntmps24
  go_wp2_with fail
  go_ret
  exact ⟨by rw [HF.out]; rfl, HX.out.one.below⟩

theorem formv_ok (kd : Int) (nm tx : ByteArray) (io : Option Addr) (N icap : Nat) (ko : Option Addr) (K kcap : Nat) (A R O : Bool) (w : World)
    (HAll : Hid (∀ u, Below w.heap.size w u → Calls Tryz.prog 60 #[.slice io N icap] u fun e w' => e = .returned (.bool A) ∧ Below u.heap.size u w'))
    (HR : Hid (∀ u, Below w.heap.size w u → Calls Tryz.prog 61 #[.slice ko K kcap] u fun e w' => e = .returned (.bool R) ∧ Below u.heap.size u w'))
    (HO : Hid (∀ u, Below w.heap.size w u → Calls Tryz.prog 62 #[.slice ko K kcap] u fun e w' => e = .returned (.bool O) ∧ Below u.heap.size u w'))
    (hn : nm.size ≤ 140737488355328) (ht : tx.size ≤ 140737488355328) (hN : N ≤ icap) (hK : K ≤ kcap) :
    Calls Tryz.prog 24 #[.agg #[.int .i64 kd, .string nm, .string tx, .slice io N icap, .slice ko K kcap]] w fun e w' => e = .returned (.bool (formV kd nm tx N K A (R && O))) ∧ Below w.heap.size w w' := by
  by_cases k0 : kd = 0
  · subst k0; exact formv_0 nm tx io N icap ko K kcap A R O w HAll HR HO hn ht hN hK
  by_cases k1 : kd = 1
  · subst k1; exact formv_1 nm tx io N icap ko K kcap A R O w HAll HR HO hn ht hN hK
  by_cases k2 : kd = 2
  · subst k2; exact formv_2 nm tx io N icap ko K kcap A R O w HAll HR HO hn ht hN hK
  by_cases k3 : kd = 3
  · subst k3; exact formv_3 nm tx io N icap ko K kcap A R O w HAll HR HO hn ht hN hK
  by_cases k4 : kd = 4
  · subst k4; exact formv_4 nm tx io N icap ko K kcap A R O w HAll HR HO hn ht hN hK
  by_cases k5 : kd = 5
  · subst k5; exact formv_5 nm tx io N icap ko K kcap A R O w HAll HR HO hn ht hN hK
  by_cases k6 : kd = 6
  · subst k6; exact formv_6 nm tx io N icap ko K kcap A R O w HAll HR HO hn ht hN hK
  exact formv_else kd k0 k1 k2 k3 k4 k5 k6 nm tx io N icap ko K kcap A R O w HAll HR HO hn ht hN hK

theorem w_vFormed : ∀ h, FvOk h
  | 0 => fun T v w hI => hI.elim
  | h + 1 => fun T v w hI => by
    obtain ⟨io, icap, ko, kcap, rfl, a1, a2, a3, a4, a5, a6, a7, hk, hi⟩ := hI.open
    exact formv_ok T.kind T.num T.text io T.items.length icap ko T.keys.length kcap (T.items.all (formN h)) (rK T.keys T.keys.length) (oK T.keys T.keys.length) w
      (fun u hu => w_allFormed h (w_vFormed h) io T.items.length icap T.items u (hi.keep hu) rfl a5 a3)
      (fun u hu => w_rising ko T.keys.length kcap T.keys u (hk.keep hu) rfl a6 a4)
      (fun u hu => w_allValid ko T.keys.length kcap T.keys u (hk.keep hu) rfl a6 a4 a7) a1 a2 a5 a6
end Go.Proofs.YtfjmgccbpiolhaaGreatDoor
namespace Go.Proofs.YtfjmgccbpiolhaaGreatDoor
open Go.RowKit
set_option linter.unusedVariables false
set_option linter.unusedSimpArgs false

theorem Ord.map {α β : Type} {Q : β → Prop} {c : β → β → Int} (o : Ord Q c) {P : α → Prop} {d : α → α → Int} (g : β → α) (hg : ∀ x, P x → ∃ n, x = g n ∧ Q n) (hd : ∀ n m, Q n → Q m → d (g n) (g m) = c n m) : Ord P d where
  bd := fun x y hx hy => by
    obtain ⟨n, rfl, hn⟩ := hg x hx
    obtain ⟨m, rfl, hm⟩ := hg y hy
    rw [hd n m hn hm]; exact o.bd n m hn hm
  sw := fun x y hx hy => by
    obtain ⟨n, rfl, hn⟩ := hg x hx
    obtain ⟨m, rfl, hm⟩ := hg y hy
    rw [hd n m hn hm, hd m n hm hn]; exact o.sw n m hn hm
  zr := fun x y hx hy h => by
    obtain ⟨n, rfl, hn⟩ := hg x hx
    obtain ⟨m, rfl, hm⟩ := hg y hy
    rw [hd n m hn hm] at h; rw [o.zr n m hn hm h]
  tr := fun x y z hx hy hz h1 h2 => by
    obtain ⟨n, rfl, hn⟩ := hg x hx
    obtain ⟨m, rfl, hm⟩ := hg y hy
    obtain ⟨k, rfl, hk⟩ := hg z hz
    rw [hd n m hn hm] at h1; rw [hd m k hm hk] at h2; rw [hd n k hn hk]; exact o.tr n m k hn hm hk h1 h2

theorem Ord.pair {α β : Type} {P : α → Prop} {c : α → α → Int} (o : Ord P c) {Q : β → Prop} {d : β → β → Int} (p : Ord Q d) :
    Ord (fun x : α × β => P x.1 ∧ Q x.2) (fun x y => if c x.1 y.1 = 0 then d x.2 y.2 else c x.1 y.1) where
  bd := fun x y hx hy => by
    show -1 ≤ (if c x.1 y.1 = 0 then d x.2 y.2 else c x.1 y.1) ∧ (if c x.1 y.1 = 0 then d x.2 y.2 else c x.1 y.1) ≤ 1
    split
    · exact p.bd _ _ hx.2 hy.2
    · exact o.bd _ _ hx.1 hy.1
  sw := fun x y hx hy => by
    show (if c y.1 x.1 = 0 then d y.2 x.2 else c y.1 x.1) = -(if c x.1 y.1 = 0 then d x.2 y.2 else c x.1 y.1)
    have e := o.sw _ _ hx.1 hy.1
    by_cases h0 : c x.1 y.1 = 0
    · rw [if_pos h0, if_pos (by omega)]; exact p.sw _ _ hx.2 hy.2
    · rw [if_neg h0, if_neg (by omega)]; exact e
  zr := fun x y hx hy h => by
    have h' : (if c x.1 y.1 = 0 then d x.2 y.2 else c x.1 y.1) = 0 := h
    by_cases h0 : c x.1 y.1 = 0
    · rw [if_pos h0] at h'
      exact Prod.ext (o.zr _ _ hx.1 hy.1 h0) (p.zr _ _ hx.2 hy.2 h')
    · rw [if_neg h0] at h'; exact absurd h' h0
  tr := fun x y z hx hy hz h1 h2 => by
    have h1' : (if c x.1 y.1 = 0 then d x.2 y.2 else c x.1 y.1) ≤ 0 := h1
    have h2' : (if c y.1 z.1 = 0 then d y.2 z.2 else c y.1 z.1) ≤ 0 := h2
    show (if c x.1 z.1 = 0 then d x.2 z.2 else c x.1 z.1) ≤ 0
    by_cases a : c x.1 y.1 = 0
    · rw [if_pos a] at h1'
      have e := o.zr _ _ hx.1 hy.1 a
      rw [e]
      by_cases b : c y.1 z.1 = 0
      · rw [if_pos b] at h2' ⊢; exact p.tr _ _ _ hx.2 hy.2 hz.2 h1' h2'
      · rw [if_neg b] at h2' ⊢; exact h2'
    · rw [if_neg a] at h1'
      by_cases b : c y.1 z.1 = 0
      · have e := o.zr _ _ hy.1 hz.1 b
        rw [← e, if_neg a]; exact h1'
      · rw [if_neg b] at h2'
        have t := o.tr _ _ _ hx.1 hy.1 hz.1 h1' h2'
        by_cases e : c x.1 z.1 = 0
        · have e2 := o.zr _ _ hx.1 hz.1 e
          have := o.sw _ _ hx.1 hy.1
          rw [e2] at this
          rw [e2] at h1' a
          omega
        · rw [if_neg e]; exact t

theorem ord_one : Ord (fun _ : Unit => True) (fun _ _ => 0) := ⟨fun _ _ _ _ => by omega, fun _ _ _ _ => by omega, fun _ _ _ _ _ => rfl, fun _ _ _ _ _ _ _ _ => by omega⟩

theorem ord_kind {α : Type} {P : α → Prop} {f : α → Int} {c d : α → α → Int} (hc : ∀ x y, c x y = if f x < f y then -1 else if f y < f x then 1 else d x y)
    (o : ∀ k, Ord (fun x => P x ∧ f x = k) d) : Ord P c where
  bd := fun x y hx hy => by
    rw [hc]
    split
    · omega
    · split
      · omega
      · exact (o (f x)).bd x y ⟨hx, rfl⟩ ⟨hy, by omega⟩
  sw := fun x y hx hy => by
    rw [hc, hc]
    by_cases a : f x < f y
    · rw [if_neg (by omega), if_pos a, if_pos a]; rfl
    · by_cases b : f y < f x
      · rw [if_pos b, if_neg a, if_pos b]
      · rw [if_neg b, if_neg a, if_neg a, if_neg b]; exact (o (f x)).sw x y ⟨hx, rfl⟩ ⟨hy, by omega⟩
  zr := fun x y hx hy h => by
    rw [hc] at h
    by_cases a : f x < f y
    · rw [if_pos a] at h; omega
    · by_cases b : f y < f x
      · rw [if_neg a, if_pos b] at h; omega
      · rw [if_neg a, if_neg b] at h; exact (o (f x)).zr x y ⟨hx, rfl⟩ ⟨hy, by omega⟩ h
  tr := fun x y z hx hy hz h1 h2 => by
    rw [hc] at h1 h2 ⊢
    by_cases a : f y < f x
    · rw [if_neg (by omega), if_pos a] at h1; omega
    · by_cases b : f z < f y
      · rw [if_neg (by omega), if_pos b] at h2; omega
      · by_cases e : f x < f z
        · rw [if_pos e]; omega
        · rw [if_neg (by omega), if_neg a] at h1
          rw [if_neg (by omega), if_neg b] at h2
          rw [if_neg e, if_neg (by omega)]
          exact (o (f x)).tr x y z ⟨hx, rfl⟩ ⟨hy, by omega⟩ ⟨hz, by omega⟩ h1 h2

def cmpI' (h : Nat) (A B : VT) : Int := if A.kind = 3 then numC A.num B.num else if A.kind = 4 then keyC A.text B.text else if A.kind = 5 then listC (cmpH h) A.items B.items else if A.kind = 6 then (if listC keyC A.keys B.keys = 0 then listC (cmpH h) A.items B.items else listC keyC A.keys B.keys) else 0

theorem cmpH_kind (h : Nat) (o : Ord (fun T => formN h T = true) (cmpH h)) (k : Int) : Ord (fun T : VT => formN (h + 1) T = true ∧ T.kind = k) (cmpI' h) := by
  by_cases k3 : k = 3
  · subst k3
    refine numC_ord.map (fun n => .mk 3 n .empty [] []) (fun x hx => ?_) (fun n m _ _ => rfl)
    rcases form_open hx.1 with (rfl | rfl | rfl) | ⟨n, rfl, hn⟩ | ⟨n, rfl, _⟩ | ⟨i, rfl, _⟩ | ⟨i, ks, rfl, _⟩
    · exact absurd hx.2 (by simp [VT.kind])
    · exact absurd hx.2 (by simp [VT.kind])
    · exact absurd hx.2 (by simp [VT.kind])
    · exact ⟨n, rfl, hn⟩
    · exact absurd hx.2 (by simp [VT.kind])
    · exact absurd hx.2 (by simp [VT.kind])
    · exact absurd hx.2 (by simp [VT.kind])
  by_cases k4 : k = 4
  · subst k4
    refine keyC_ord.map (fun n => .mk 4 .empty n [] []) (fun x hx => ?_) (fun n m _ _ => rfl)
    rcases form_open hx.1 with (rfl | rfl | rfl) | ⟨n, rfl, hn⟩ | ⟨n, rfl, _⟩ | ⟨i, rfl, _⟩ | ⟨i, ks, rfl, _⟩
    · exact absurd hx.2 (by simp [VT.kind])
    · exact absurd hx.2 (by simp [VT.kind])
    · exact absurd hx.2 (by simp [VT.kind])
    · exact absurd hx.2 (by simp [VT.kind])
    · exact ⟨n, rfl, trivial⟩
    · exact absurd hx.2 (by simp [VT.kind])
    · exact absurd hx.2 (by simp [VT.kind])
  by_cases k5 : k = 5
  · subst k5
    refine (listC_ord o).map (fun n => .mk 5 .empty .empty n []) (fun x hx => ?_) (fun n m _ _ => rfl)
    rcases form_open hx.1 with (rfl | rfl | rfl) | ⟨n, rfl, hn⟩ | ⟨n, rfl, _⟩ | ⟨i, rfl, hi⟩ | ⟨i, ks, rfl, _⟩
    · exact absurd hx.2 (by simp [VT.kind])
    · exact absurd hx.2 (by simp [VT.kind])
    · exact absurd hx.2 (by simp [VT.kind])
    · exact absurd hx.2 (by simp [VT.kind])
    · exact absurd hx.2 (by simp [VT.kind])
    · exact ⟨i, rfl, hi⟩
    · exact absurd hx.2 (by simp [VT.kind])
  by_cases k6 : k = 6
  · subst k6
    refine ((listC_ord keyC_ord).pair (listC_ord o)).map (fun n => .mk 6 .empty .empty n.2 n.1) (fun x hx => ?_) (fun n m _ _ => rfl)
    rcases form_open hx.1 with (rfl | rfl | rfl) | ⟨n, rfl, hn⟩ | ⟨n, rfl, _⟩ | ⟨i, rfl, hi⟩ | ⟨i, ks, rfl, _, _, _, hi⟩
    · exact absurd hx.2 (by simp [VT.kind])
    · exact absurd hx.2 (by simp [VT.kind])
    · exact absurd hx.2 (by simp [VT.kind])
    · exact absurd hx.2 (by simp [VT.kind])
    · exact absurd hx.2 (by simp [VT.kind])
    · exact absurd hx.2 (by simp [VT.kind])
    · exact ⟨(ks, i), rfl, fun _ _ => trivial, hi⟩
  · refine ord_one.map (fun _ => .mk k .empty .empty [] []) (fun x hx => ?_) (fun n m _ _ => ?_)
    · rcases form_open hx.1 with (rfl | rfl | rfl) | ⟨n, rfl, hn⟩ | ⟨n, rfl, _⟩ | ⟨i, rfl, hi⟩ | ⟨i, ks, rfl, _, _, _, hi⟩
      · exact ⟨(), by rw [← hx.2]; rfl, trivial⟩
      · exact ⟨(), by rw [← hx.2]; rfl, trivial⟩
      · exact ⟨(), by rw [← hx.2]; rfl, trivial⟩
      · exact absurd hx.2.symm k3
      · exact absurd hx.2.symm k4
      · exact absurd hx.2.symm k5
      · exact absurd hx.2.symm k6
    · have kk : (VT.mk k .empty .empty [] []).kind = k := rfl
      unfold cmpI'
      rw [if_neg (by rw [kk]; exact k3), if_neg (by rw [kk]; exact k4), if_neg (by rw [kk]; exact k5), if_neg (by rw [kk]; exact k6)]

theorem cmpH_ord : ∀ h, Ord (fun T => formN h T = true) (cmpH h)
  | 0 => by
    have no : ∀ x : VT, ¬ formN 0 x = true := fun x hx => by cases hx
    exact { bd := fun x y hx => absurd hx (no x), sw := fun x y hx => absurd hx (no x), zr := fun x y hx => absurd hx (no x), tr := fun x y z hx => absurd hx (no x) }
  | h + 1 => ord_kind (f := VT.kind) (d := cmpI' h) (fun x y => by
      show cmpV _ _ _ _ _ _ = _
      unfold cmpV cmpI'; rfl) (cmpH_kind h (cmpH_ord h))
end Go.Proofs.YtfjmgccbpiolhaaGreatDoor
