import Derived.Test.YtaflpeajapdkdaaM16
namespace Go.Proofs.Ytaflpeajapdkdaa
open Go.RowKit
set_option linter.unusedVariables false
set_option linter.unusedSimpArgs false

set_option maxRecDepth 100000 in
set_option maxHeartbeats 3200000 in
theorem formv_0 (nm tx : ByteArray) (io : Option Addr) (N icap : Nat) (ko : Option Addr) (K kcap : Nat) (A R O : Bool) (w : World)
    (HAll : Hid (∀ u, Below w.heap.size w u → Calls Try.prog 30 #[.slice io N icap] u fun e w' => e = .returned (.bool A) ∧ Below u.heap.size u w'))
    (HR : Hid (∀ u, Below w.heap.size w u → Calls Try.prog 31 #[.slice ko K kcap] u fun e w' => e = .returned (.bool R) ∧ Below u.heap.size u w'))
    (HO : Hid (∀ u, Below w.heap.size w u → Calls Try.prog 32 #[.slice ko K kcap] u fun e w' => e = .returned (.bool O) ∧ Below u.heap.size u w'))
    (hn : nm.size ≤ 140737488355328) (ht : tx.size ≤ 140737488355328) (hN : N ≤ icap) (hK : K ≤ kcap) :
    Calls Try.prog 12 #[.agg #[.int .i64 0, .string nm, .string tx, .slice io N icap, .slice ko K kcap]] w fun e w' => e = .returned (.bool (formV 0 nm tx N K A (R && O))) ∧ Below w.heap.size w w' := by
  have HNum : Hid (∀ u, Below w.heap.size w u → Calls Try.prog 28 #[.string nm] u fun e w' => e = .returned (.bool (Pl.formed nm.data.toList)) ∧ Below u.heap.size u w') := fun u _ => w_Formed nm u (by unfold maxLen; omega)
  have HUtf : Hid (∀ u, Below w.heap.size w u → Calls Try.prog 29 #[.string tx] u fun e w' => e = .returned (.bool (okB tx.data.toList)) ∧ Below u.heap.size u w') := fun u _ => w_Valid tx u (by omega)
  have HX := Hid.mk (vb2_new w (.int .i64 0) (.string nm) (.string tx) (.slice io N icap) (.slice ko K kcap) (.string nm) (.string tx) (.slice io N icap) (.slice ko K kcap))
  have HF : Hid (formV 0 nm tx N K A (R && O) = bareB nm tx N K) := by show _ = _; unfold formV; rw [if_pos (by omega)]
  go_enter Try.func12, Try.ntmps12
  go_wp2_with fail
  refine (w_bare 0 nm tx io N icap ko K kcap _).mono ?_
  rintro e w9 ⟨rfl, hb9⟩
  have HX9 := Hid.mk (HX.out.keep hb9)
  clear hb9
  go_wp2_with fail
  go_ret
  exact ⟨by rw [HF.out]; rfl, HX9.out.one.below⟩

set_option maxRecDepth 100000 in
set_option maxHeartbeats 3200000 in
theorem formv_1 (nm tx : ByteArray) (io : Option Addr) (N icap : Nat) (ko : Option Addr) (K kcap : Nat) (A R O : Bool) (w : World)
    (HAll : Hid (∀ u, Below w.heap.size w u → Calls Try.prog 30 #[.slice io N icap] u fun e w' => e = .returned (.bool A) ∧ Below u.heap.size u w'))
    (HR : Hid (∀ u, Below w.heap.size w u → Calls Try.prog 31 #[.slice ko K kcap] u fun e w' => e = .returned (.bool R) ∧ Below u.heap.size u w'))
    (HO : Hid (∀ u, Below w.heap.size w u → Calls Try.prog 32 #[.slice ko K kcap] u fun e w' => e = .returned (.bool O) ∧ Below u.heap.size u w'))
    (hn : nm.size ≤ 140737488355328) (ht : tx.size ≤ 140737488355328) (hN : N ≤ icap) (hK : K ≤ kcap) :
    Calls Try.prog 12 #[.agg #[.int .i64 1, .string nm, .string tx, .slice io N icap, .slice ko K kcap]] w fun e w' => e = .returned (.bool (formV 1 nm tx N K A (R && O))) ∧ Below w.heap.size w w' := by
  have HNum : Hid (∀ u, Below w.heap.size w u → Calls Try.prog 28 #[.string nm] u fun e w' => e = .returned (.bool (Pl.formed nm.data.toList)) ∧ Below u.heap.size u w') := fun u _ => w_Formed nm u (by unfold maxLen; omega)
  have HUtf : Hid (∀ u, Below w.heap.size w u → Calls Try.prog 29 #[.string tx] u fun e w' => e = .returned (.bool (okB tx.data.toList)) ∧ Below u.heap.size u w') := fun u _ => w_Valid tx u (by omega)
  have HX := Hid.mk (vb2_new w (.int .i64 1) (.string nm) (.string tx) (.slice io N icap) (.slice ko K kcap) (.string nm) (.string tx) (.slice io N icap) (.slice ko K kcap))
  have HF : Hid (formV 1 nm tx N K A (R && O) = bareB nm tx N K) := by show _ = _; unfold formV; rw [if_pos (by omega)]
  go_enter Try.func12, Try.ntmps12
  go_wp2_with fail
  refine (w_bare 1 nm tx io N icap ko K kcap _).mono ?_
  rintro e w9 ⟨rfl, hb9⟩
  have HX9 := Hid.mk (HX.out.keep hb9)
  clear hb9
  go_wp2_with fail
  go_ret
  exact ⟨by rw [HF.out]; rfl, HX9.out.one.below⟩

set_option maxRecDepth 100000 in
set_option maxHeartbeats 3200000 in
theorem formv_2 (nm tx : ByteArray) (io : Option Addr) (N icap : Nat) (ko : Option Addr) (K kcap : Nat) (A R O : Bool) (w : World)
    (HAll : Hid (∀ u, Below w.heap.size w u → Calls Try.prog 30 #[.slice io N icap] u fun e w' => e = .returned (.bool A) ∧ Below u.heap.size u w'))
    (HR : Hid (∀ u, Below w.heap.size w u → Calls Try.prog 31 #[.slice ko K kcap] u fun e w' => e = .returned (.bool R) ∧ Below u.heap.size u w'))
    (HO : Hid (∀ u, Below w.heap.size w u → Calls Try.prog 32 #[.slice ko K kcap] u fun e w' => e = .returned (.bool O) ∧ Below u.heap.size u w'))
    (hn : nm.size ≤ 140737488355328) (ht : tx.size ≤ 140737488355328) (hN : N ≤ icap) (hK : K ≤ kcap) :
    Calls Try.prog 12 #[.agg #[.int .i64 2, .string nm, .string tx, .slice io N icap, .slice ko K kcap]] w fun e w' => e = .returned (.bool (formV 2 nm tx N K A (R && O))) ∧ Below w.heap.size w w' := by
  have HNum : Hid (∀ u, Below w.heap.size w u → Calls Try.prog 28 #[.string nm] u fun e w' => e = .returned (.bool (Pl.formed nm.data.toList)) ∧ Below u.heap.size u w') := fun u _ => w_Formed nm u (by unfold maxLen; omega)
  have HUtf : Hid (∀ u, Below w.heap.size w u → Calls Try.prog 29 #[.string tx] u fun e w' => e = .returned (.bool (okB tx.data.toList)) ∧ Below u.heap.size u w') := fun u _ => w_Valid tx u (by omega)
  have HX := Hid.mk (vb2_new w (.int .i64 2) (.string nm) (.string tx) (.slice io N icap) (.slice ko K kcap) (.string nm) (.string tx) (.slice io N icap) (.slice ko K kcap))
  have HF : Hid (formV 2 nm tx N K A (R && O) = bareB nm tx N K) := by show _ = _; unfold formV; rw [if_pos (by omega)]
  go_enter Try.func12, Try.ntmps12
  go_wp2_with fail
  refine (w_bare 2 nm tx io N icap ko K kcap _).mono ?_
  rintro e w9 ⟨rfl, hb9⟩
  have HX9 := Hid.mk (HX.out.keep hb9)
  clear hb9
  go_wp2_with fail
  go_ret
  exact ⟨by rw [HF.out]; rfl, HX9.out.one.below⟩

end Go.Proofs.Ytaflpeajapdkdaa
namespace Go.Proofs.Ytaflpeajapdkdaa
open Go.RowKit
set_option linter.unusedVariables false
set_option linter.unusedSimpArgs false

set_option maxRecDepth 100000 in
set_option maxHeartbeats 3200000 in
theorem formv_3 (nm tx : ByteArray) (io : Option Addr) (N icap : Nat) (ko : Option Addr) (K kcap : Nat) (A R O : Bool) (w : World)
    (HAll : Hid (∀ u, Below w.heap.size w u → Calls Try.prog 30 #[.slice io N icap] u fun e w' => e = .returned (.bool A) ∧ Below u.heap.size u w'))
    (HR : Hid (∀ u, Below w.heap.size w u → Calls Try.prog 31 #[.slice ko K kcap] u fun e w' => e = .returned (.bool R) ∧ Below u.heap.size u w'))
    (HO : Hid (∀ u, Below w.heap.size w u → Calls Try.prog 32 #[.slice ko K kcap] u fun e w' => e = .returned (.bool O) ∧ Below u.heap.size u w'))
    (hn : nm.size ≤ 140737488355328) (ht : tx.size ≤ 140737488355328) (hN : N ≤ icap) (hK : K ≤ kcap) :
    Calls Try.prog 12 #[.agg #[.int .i64 3, .string nm, .string tx, .slice io N icap, .slice ko K kcap]] w fun e w' => e = .returned (.bool (formV 3 nm tx N K A (R && O))) ∧ Below w.heap.size w w' := by
  have HNum : Hid (∀ u, Below w.heap.size w u → Calls Try.prog 28 #[.string nm] u fun e w' => e = .returned (.bool (Pl.formed nm.data.toList)) ∧ Below u.heap.size u w') := fun u _ => w_Formed nm u (by unfold maxLen; omega)
  have HUtf : Hid (∀ u, Below w.heap.size w u → Calls Try.prog 29 #[.string tx] u fun e w' => e = .returned (.bool (okB tx.data.toList)) ∧ Below u.heap.size u w') := fun u _ => w_Valid tx u (by omega)
  have HX := Hid.mk (vb2_new w (.int .i64 3) (.string nm) (.string tx) (.slice io N icap) (.slice ko K kcap) (.string (⟨#[]⟩ : ByteArray)) (.string tx) (.slice io N icap) (.slice ko K kcap))
  cases hc : Pl.formed nm.data.toList with
  | false =>
    have HF : Hid (formV 3 nm tx N K A (R && O) = false) := by show _ = _; unfold formV; rw [if_neg (by omega), if_pos rfl, hc]; rfl
    rw [hc] at HNum
    go_enter Try.func12, Try.ntmps12
    go_wp2_with fail
    refine (HNum.out _ HX.out.one.below).mono ?_
    rintro e w2 ⟨rfl, hw2⟩
    have HX2 := Hid.mk (HX.out.keep hw2)
    clear hw2
    go_wp2_with fail
    go_ret
    exact ⟨by rw [HF.out]; rfl, HX2.out.one.below⟩
  | true =>
    have HF : Hid (formV 3 nm tx N K A (R && O) = bareB .empty tx N K) := by show _ = _; unfold formV; rw [if_neg (by omega), if_pos rfl, hc]; rfl
    rw [hc] at HNum
    go_enter Try.func12, Try.ntmps12
    go_wp2_with fail
    refine (HNum.out _ HX.out.one.below).mono ?_
    rintro e w2 ⟨rfl, hw2⟩
    have HX2 := Hid.mk (HX.out.keep hw2)
    clear hw2
    have q0HX2 := HX2.out.d0
    have q1HX2 := HX2.out.d1
    have q2HX2 := HX2.out.d2
    have q3HX2 := HX2.out.d3
    have q4HX2 := HX2.out.d4
    go_wp2_with fail
    refine (w_bare 3 (⟨#[]⟩ : ByteArray) tx io N icap ko K kcap _).mono ?_
    rintro e w9 ⟨rfl, hb9⟩
    have HX9 := Hid.mk (HX2.out.keep hb9)
    clear hb9
    go_wp2_with fail
    go_ret
    exact ⟨by rw [HF.out]; rfl, HX9.out.one.below⟩

set_option maxRecDepth 100000 in
set_option maxHeartbeats 3200000 in
theorem formv_4 (nm tx : ByteArray) (io : Option Addr) (N icap : Nat) (ko : Option Addr) (K kcap : Nat) (A R O : Bool) (w : World)
    (HAll : Hid (∀ u, Below w.heap.size w u → Calls Try.prog 30 #[.slice io N icap] u fun e w' => e = .returned (.bool A) ∧ Below u.heap.size u w'))
    (HR : Hid (∀ u, Below w.heap.size w u → Calls Try.prog 31 #[.slice ko K kcap] u fun e w' => e = .returned (.bool R) ∧ Below u.heap.size u w'))
    (HO : Hid (∀ u, Below w.heap.size w u → Calls Try.prog 32 #[.slice ko K kcap] u fun e w' => e = .returned (.bool O) ∧ Below u.heap.size u w'))
    (hn : nm.size ≤ 140737488355328) (ht : tx.size ≤ 140737488355328) (hN : N ≤ icap) (hK : K ≤ kcap) :
    Calls Try.prog 12 #[.agg #[.int .i64 4, .string nm, .string tx, .slice io N icap, .slice ko K kcap]] w fun e w' => e = .returned (.bool (formV 4 nm tx N K A (R && O))) ∧ Below w.heap.size w w' := by
  have HNum : Hid (∀ u, Below w.heap.size w u → Calls Try.prog 28 #[.string nm] u fun e w' => e = .returned (.bool (Pl.formed nm.data.toList)) ∧ Below u.heap.size u w') := fun u _ => w_Formed nm u (by unfold maxLen; omega)
  have HUtf : Hid (∀ u, Below w.heap.size w u → Calls Try.prog 29 #[.string tx] u fun e w' => e = .returned (.bool (okB tx.data.toList)) ∧ Below u.heap.size u w') := fun u _ => w_Valid tx u (by omega)
  have HX := Hid.mk (vb2_new w (.int .i64 4) (.string nm) (.string tx) (.slice io N icap) (.slice ko K kcap) (.string nm) (.string (⟨#[]⟩ : ByteArray)) (.slice io N icap) (.slice ko K kcap))
  cases hc : okB tx.data.toList with
  | false =>
    have HF : Hid (formV 4 nm tx N K A (R && O) = false) := by show _ = _; unfold formV; rw [if_neg (by omega), if_neg (by omega), if_pos rfl, hc]; rfl
    rw [hc] at HUtf
    go_enter Try.func12, Try.ntmps12
    go_wp2_with fail
    refine (HUtf.out _ HX.out.one.below).mono ?_
    rintro e w2 ⟨rfl, hw2⟩
    have HX2 := Hid.mk (HX.out.keep hw2)
    clear hw2
    go_wp2_with fail
    go_ret
    exact ⟨by rw [HF.out]; rfl, HX2.out.one.below⟩
  | true =>
    have HF : Hid (formV 4 nm tx N K A (R && O) = bareB nm .empty N K) := by show _ = _; unfold formV; rw [if_neg (by omega), if_neg (by omega), if_pos rfl, hc]; rfl
    rw [hc] at HUtf
    go_enter Try.func12, Try.ntmps12
    go_wp2_with fail
    refine (HUtf.out _ HX.out.one.below).mono ?_
    rintro e w2 ⟨rfl, hw2⟩
    have HX2 := Hid.mk (HX.out.keep hw2)
    clear hw2
    have q0HX2 := HX2.out.d0
    have q1HX2 := HX2.out.d1
    have q2HX2 := HX2.out.d2
    have q3HX2 := HX2.out.d3
    have q4HX2 := HX2.out.d4
    go_wp2_with fail
    refine (w_bare 4 nm (⟨#[]⟩ : ByteArray) io N icap ko K kcap _).mono ?_
    rintro e w9 ⟨rfl, hb9⟩
    have HX9 := Hid.mk (HX2.out.keep hb9)
    clear hb9
    go_wp2_with fail
    go_ret
    exact ⟨by rw [HF.out]; rfl, HX9.out.one.below⟩

end Go.Proofs.Ytaflpeajapdkdaa
namespace Go.Proofs.Ytaflpeajapdkdaa
open Go.RowKit
set_option linter.unusedVariables false
set_option linter.unusedSimpArgs false

set_option maxRecDepth 100000 in
set_option maxHeartbeats 3200000 in
theorem formv_5 (nm tx : ByteArray) (io : Option Addr) (N icap : Nat) (ko : Option Addr) (K kcap : Nat) (A R O : Bool) (w : World)
    (HAll : Hid (∀ u, Below w.heap.size w u → Calls Try.prog 30 #[.slice io N icap] u fun e w' => e = .returned (.bool A) ∧ Below u.heap.size u w'))
    (HR : Hid (∀ u, Below w.heap.size w u → Calls Try.prog 31 #[.slice ko K kcap] u fun e w' => e = .returned (.bool R) ∧ Below u.heap.size u w'))
    (HO : Hid (∀ u, Below w.heap.size w u → Calls Try.prog 32 #[.slice ko K kcap] u fun e w' => e = .returned (.bool O) ∧ Below u.heap.size u w'))
    (hn : nm.size ≤ 140737488355328) (ht : tx.size ≤ 140737488355328) (hN : N ≤ icap) (hK : K ≤ kcap) :
    Calls Try.prog 12 #[.agg #[.int .i64 5, .string nm, .string tx, .slice io N icap, .slice ko K kcap]] w fun e w' => e = .returned (.bool (formV 5 nm tx N K A (R && O))) ∧ Below w.heap.size w w' := by
  have HNum : Hid (∀ u, Below w.heap.size w u → Calls Try.prog 28 #[.string nm] u fun e w' => e = .returned (.bool (Pl.formed nm.data.toList)) ∧ Below u.heap.size u w') := fun u _ => w_Formed nm u (by unfold maxLen; omega)
  have HUtf : Hid (∀ u, Below w.heap.size w u → Calls Try.prog 29 #[.string tx] u fun e w' => e = .returned (.bool (okB tx.data.toList)) ∧ Below u.heap.size u w') := fun u _ => w_Valid tx u (by omega)
  have HX := Hid.mk (vb2_new w (.int .i64 5) (.string nm) (.string tx) (.slice io N icap) (.slice ko K kcap) (.string nm) (.string tx) (.slice none 0 0) (.slice ko K kcap))
  cases hc : A with
  | false =>
    have HF : Hid (formV 5 nm tx N K false (R && O) = false) := by show _ = _; unfold formV; rw [if_neg (by omega), if_neg (by omega), if_neg (by omega), if_pos rfl]; rfl
    rw [hc] at HAll
    go_enter Try.func12, Try.ntmps12
    go_wp2_with fail
    refine (HAll.out _ HX.out.one.below).mono ?_
    rintro e w2 ⟨rfl, hw2⟩
    have HX2 := Hid.mk (HX.out.keep hw2)
    clear hw2
    go_wp2_with fail
    go_ret
    exact ⟨by rw [HF.out]; rfl, HX2.out.one.below⟩
  | true =>
    have HF : Hid (formV 5 nm tx N K true (R && O) = bareB nm tx 0 K) := by show _ = _; unfold formV; rw [if_neg (by omega), if_neg (by omega), if_neg (by omega), if_pos rfl]; rfl
    rw [hc] at HAll
    go_enter Try.func12, Try.ntmps12
    go_wp2_with fail
    refine (HAll.out _ HX.out.one.below).mono ?_
    rintro e w2 ⟨rfl, hw2⟩
    have HX2 := Hid.mk (HX.out.keep hw2)
    clear hw2
    have q0HX2 := HX2.out.d0
    have q1HX2 := HX2.out.d1
    have q2HX2 := HX2.out.d2
    have q3HX2 := HX2.out.d3
    have q4HX2 := HX2.out.d4
    go_wp2_with fail
    refine (w_bare 5 nm tx none 0 0 ko K kcap _).mono ?_
    rintro e w9 ⟨rfl, hb9⟩
    have HX9 := Hid.mk (HX2.out.keep hb9)
    clear hb9
    go_wp2_with fail
    go_ret
    exact ⟨by rw [HF.out]; rfl, HX9.out.one.below⟩

end Go.Proofs.Ytaflpeajapdkdaa
namespace Go.Proofs.Ytaflpeajapdkdaa
open Go.RowKit
set_option linter.unusedVariables false
set_option linter.unusedSimpArgs false

set_option maxRecDepth 100000 in
set_option maxHeartbeats 3200000 in
theorem formv_6 (nm tx : ByteArray) (io : Option Addr) (N icap : Nat) (ko : Option Addr) (K kcap : Nat) (A R O : Bool) (w : World)
    (HAll : Hid (∀ u, Below w.heap.size w u → Calls Try.prog 30 #[.slice io N icap] u fun e w' => e = .returned (.bool A) ∧ Below u.heap.size u w'))
    (HR : Hid (∀ u, Below w.heap.size w u → Calls Try.prog 31 #[.slice ko K kcap] u fun e w' => e = .returned (.bool R) ∧ Below u.heap.size u w'))
    (HO : Hid (∀ u, Below w.heap.size w u → Calls Try.prog 32 #[.slice ko K kcap] u fun e w' => e = .returned (.bool O) ∧ Below u.heap.size u w'))
    (hn : nm.size ≤ 140737488355328) (ht : tx.size ≤ 140737488355328) (hN : N ≤ icap) (hK : K ≤ kcap) :
    Calls Try.prog 12 #[.agg #[.int .i64 6, .string nm, .string tx, .slice io N icap, .slice ko K kcap]] w fun e w' => e = .returned (.bool (formV 6 nm tx N K A (R && O))) ∧ Below w.heap.size w w' := by
  have HNum : Hid (∀ u, Below w.heap.size w u → Calls Try.prog 28 #[.string nm] u fun e w' => e = .returned (.bool (Pl.formed nm.data.toList)) ∧ Below u.heap.size u w') := fun u _ => w_Formed nm u (by unfold maxLen; omega)
  have HUtf : Hid (∀ u, Below w.heap.size w u → Calls Try.prog 29 #[.string tx] u fun e w' => e = .returned (.bool (okB tx.data.toList)) ∧ Below u.heap.size u w') := fun u _ => w_Valid tx u (by omega)
  have HX := Hid.mk (vb2_new w (.int .i64 6) (.string nm) (.string tx) (.slice io N icap) (.slice ko K kcap) (.string nm) (.string tx) (.slice none 0 0) (.slice none 0 0))
  by_cases hKN : K = N
  · have hKN1 : ((K : Int) == (N : Int)) = true := by rw [beq_iff_eq]; omega
    have HKN : Hid (decide (K = N) = true) := decide_eq_true hKN
    clear hKN
    cases hR : R with
    | false =>
      have HF : Hid (formV 6 nm tx N K A (false && O) = false) := by show _ = _; unfold formV; rw [if_neg (by omega), if_neg (by omega), if_neg (by omega), if_neg (by omega), if_pos rfl]; simp
      rw [hR] at HR
      go_enter Try.func12, Try.ntmps12
      go_wp2_with fail
      refine (HR.out _ HX.out.one.below).mono ?_
      rintro e w2 ⟨rfl, hw2⟩
      have HX2 := Hid.mk (HX.out.keep hw2)
      clear hw2
      have p3HX2 := HX2.out.one.c3
      have p4HX2 := HX2.out.one.c4
      go_wp2_with fail
      go_ret
      exact ⟨by rw [HF.out]; rfl, HX2.out.one.below⟩
    | true =>
      rw [hR] at HR
      cases hO : O with
      | false =>
        have HF : Hid (formV 6 nm tx N K A (true && false) = false) := by show _ = _; unfold formV; rw [if_neg (by omega), if_neg (by omega), if_neg (by omega), if_neg (by omega), if_pos rfl]; simp
        rw [hO] at HO
        go_enter Try.func12, Try.ntmps12
        go_wp2_with fail
        refine (HR.out _ HX.out.one.below).mono ?_
        rintro e w2 ⟨rfl, hw2⟩
        have HX2 := Hid.mk (HX.out.keep hw2)
        clear hw2
        have p3HX2 := HX2.out.one.c3
        have p4HX2 := HX2.out.one.c4
        go_wp2_with fail
        refine (HO.out _ HX2.out.one.below).mono ?_
        rintro e w3 ⟨rfl, hw3⟩
        have HX3 := Hid.mk (HX2.out.keep hw3)
        clear hw3
        have p3HX3 := HX3.out.one.c3
        have p4HX3 := HX3.out.one.c4
        go_wp2_with fail
        go_ret
        exact ⟨by rw [HF.out]; rfl, HX3.out.one.below⟩
      | true =>
        rw [hO] at HO
        cases hA : A with
        | false =>
          have HF : Hid (formV 6 nm tx N K false (true && true) = false) := by show _ = _; unfold formV; rw [if_neg (by omega), if_neg (by omega), if_neg (by omega), if_neg (by omega), if_pos rfl]; simp
          rw [hA] at HAll
          go_enter Try.func12, Try.ntmps12
          go_wp2_with fail
          refine (HR.out _ HX.out.one.below).mono ?_
          rintro e w2 ⟨rfl, hw2⟩
          have HX2 := Hid.mk (HX.out.keep hw2)
          clear hw2
          have p3HX2 := HX2.out.one.c3
          have p4HX2 := HX2.out.one.c4
          go_wp2_with fail
          refine (HO.out _ HX2.out.one.below).mono ?_
          rintro e w3 ⟨rfl, hw3⟩
          have HX3 := Hid.mk (HX2.out.keep hw3)
          clear hw3
          have p3HX3 := HX3.out.one.c3
          have p4HX3 := HX3.out.one.c4
          go_wp2_with fail
          refine (HAll.out _ HX3.out.one.below).mono ?_
          rintro e w4 ⟨rfl, hw4⟩
          have HX4 := Hid.mk (HX3.out.keep hw4)
          clear hw4
          have q0HX4 := HX4.out.d0
          have q1HX4 := HX4.out.d1
          have q2HX4 := HX4.out.d2
          have q3HX4 := HX4.out.d3
          have q4HX4 := HX4.out.d4
          go_wp2_with fail
          go_ret
          exact ⟨by rw [HF.out]; rfl, HX4.out.one.below⟩
        | true =>
          have HF : Hid (formV 6 nm tx N K true (true && true) = bareB nm tx 0 0) := by show _ = _; unfold formV; rw [if_neg (by omega), if_neg (by omega), if_neg (by omega), if_neg (by omega), if_pos rfl, HKN.out]; rfl
          rw [hA] at HAll
          go_enter Try.func12, Try.ntmps12
          go_wp2_with fail
          refine (HR.out _ HX.out.one.below).mono ?_
          rintro e w2 ⟨rfl, hw2⟩
          have HX2 := Hid.mk (HX.out.keep hw2)
          clear hw2
          have p3HX2 := HX2.out.one.c3
          have p4HX2 := HX2.out.one.c4
          go_wp2_with fail
          refine (HO.out _ HX2.out.one.below).mono ?_
          rintro e w3 ⟨rfl, hw3⟩
          have HX3 := Hid.mk (HX2.out.keep hw3)
          clear hw3
          have p3HX3 := HX3.out.one.c3
          have p4HX3 := HX3.out.one.c4
          go_wp2_with fail
          refine (HAll.out _ HX3.out.one.below).mono ?_
          rintro e w4 ⟨rfl, hw4⟩
          have HX4 := Hid.mk (HX3.out.keep hw4)
          clear hw4
          have q0HX4 := HX4.out.d0
          have q1HX4 := HX4.out.d1
          have q2HX4 := HX4.out.d2
          have q3HX4 := HX4.out.d3
          have q4HX4 := HX4.out.d4
          go_wp2_with fail
          refine (w_bare 6 nm tx none 0 0 none 0 0 _).mono ?_
          rintro e w9 ⟨rfl, hb9⟩
          have HX9 := Hid.mk (HX4.out.keep hb9)
          clear hb9
          go_wp2_with fail
          go_ret
          exact ⟨by rw [HF.out]; rfl, HX9.out.one.below⟩
  · have hKN1 : ((K : Int) == (N : Int)) = false := by rw [beq_eq_false_iff_ne]; omega
    have HF : Hid (formV 6 nm tx N K A (R && O) = false) := by show _ = _; unfold formV; rw [if_neg (by omega), if_neg (by omega), if_neg (by omega), if_neg (by omega), if_pos rfl, decide_eq_false hKN]; simp
    clear hKN
    go_enter Try.func12, Try.ntmps12
    go_wp2_with fail
    go_ret
    exact ⟨by rw [HF.out]; rfl, HX.out.one.below⟩

end Go.Proofs.Ytaflpeajapdkdaa
