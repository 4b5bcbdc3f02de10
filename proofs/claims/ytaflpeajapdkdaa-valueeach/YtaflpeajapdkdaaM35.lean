import Derived.Test.YtaflpeajapdkdaaM34
namespace Go.Proofs.Ytaflpeajapdkdaa
open Go.RowKit
set_option linter.unusedVariables false
set_option linter.unusedSimpArgs false

set_option maxRecDepth 100000 in
set_option maxHeartbeats 3200000 in
theorem formv_else (kd : Int) (k0 : kd ≠ 0) (k1 : kd ≠ 1) (k2 : kd ≠ 2) (k3 : kd ≠ 3) (k4 : kd ≠ 4) (k5 : kd ≠ 5) (k6 : kd ≠ 6) (nm tx : ByteArray) (io : Option Addr) (N icap : Nat) (ko : Option Addr) (K kcap : Nat) (A R O : Bool) (w : World)
    (HAll : Hid (∀ u, Below w.heap.size w u → Calls Try.prog 30 #[.slice io N icap] u fun e w' => e = .returned (.bool A) ∧ Below u.heap.size u w'))
    (HR : Hid (∀ u, Below w.heap.size w u → Calls Try.prog 31 #[.slice ko K kcap] u fun e w' => e = .returned (.bool R) ∧ Below u.heap.size u w'))
    (HO : Hid (∀ u, Below w.heap.size w u → Calls Try.prog 32 #[.slice ko K kcap] u fun e w' => e = .returned (.bool O) ∧ Below u.heap.size u w'))
    (hn : nm.size ≤ 140737488355328) (ht : tx.size ≤ 140737488355328) (hN : N ≤ icap) (hK : K ≤ kcap) :
    Calls Try.prog 12 #[.agg #[.int .i64 kd, .string nm, .string tx, .slice io N icap, .slice ko K kcap]] w fun e w' => e = .returned (.bool (formV kd nm tx N K A (R && O))) ∧ Below w.heap.size w w' := by
  have HNum : Hid (∀ u, Below w.heap.size w u → Calls Try.prog 28 #[.string nm] u fun e w' => e = .returned (.bool (Pl.formed nm.data.toList)) ∧ Below u.heap.size u w') := fun u _ => w_Formed nm u (by unfold maxLen; omega)
  have HUtf : Hid (∀ u, Below w.heap.size w u → Calls Try.prog 29 #[.string tx] u fun e w' => e = .returned (.bool (okB tx.data.toList)) ∧ Below u.heap.size u w') := fun u _ => w_Valid tx u (by omega)
  have HX := Hid.mk (vb2_new w (.int .i64 kd) (.string nm) (.string tx) (.slice io N icap) (.slice ko K kcap) (.string nm) (.string tx) (.slice io N icap) (.slice ko K kcap))
  have HF : Hid (formV kd nm tx N K A (R && O) = false) := by show _ = _; unfold formV; rw [if_neg (by omega), if_neg (by omega), if_neg (by omega), if_neg (by omega), if_neg (by omega)]
  have b0 : (kd == 0) = false := by rw [beq_eq_false_iff_ne]; exact k0
  have b1 : (kd == 1) = false := by rw [beq_eq_false_iff_ne]; exact k1
  have b2 : (kd == 2) = false := by rw [beq_eq_false_iff_ne]; exact k2
  have b3 : (kd == 3) = false := by rw [beq_eq_false_iff_ne]; exact k3
  have b4 : (kd == 4) = false := by rw [beq_eq_false_iff_ne]; exact k4
  have b5 : (kd == 5) = false := by rw [beq_eq_false_iff_ne]; exact k5
  have b6 : (kd == 6) = false := by rw [beq_eq_false_iff_ne]; exact k6
  clear k0 k1 k2 k3 k4 k5 k6
  go_enter Try.func12, Try.ntmps12
  go_wp2_with fail
  go_ret
  exact ⟨by rw [HF.out]; rfl, HX.out.one.below⟩

theorem formv_ok (kd : Int) (nm tx : ByteArray) (io : Option Addr) (N icap : Nat) (ko : Option Addr) (K kcap : Nat) (A R O : Bool) (w : World)
    (HAll : Hid (∀ u, Below w.heap.size w u → Calls Try.prog 30 #[.slice io N icap] u fun e w' => e = .returned (.bool A) ∧ Below u.heap.size u w'))
    (HR : Hid (∀ u, Below w.heap.size w u → Calls Try.prog 31 #[.slice ko K kcap] u fun e w' => e = .returned (.bool R) ∧ Below u.heap.size u w'))
    (HO : Hid (∀ u, Below w.heap.size w u → Calls Try.prog 32 #[.slice ko K kcap] u fun e w' => e = .returned (.bool O) ∧ Below u.heap.size u w'))
    (hn : nm.size ≤ 140737488355328) (ht : tx.size ≤ 140737488355328) (hN : N ≤ icap) (hK : K ≤ kcap) :
    Calls Try.prog 12 #[.agg #[.int .i64 kd, .string nm, .string tx, .slice io N icap, .slice ko K kcap]] w fun e w' => e = .returned (.bool (formV kd nm tx N K A (R && O))) ∧ Below w.heap.size w w' := by
  by_cases k0 : kd = 0
  · subst k0; exact formv_0 nm tx io N icap ko K kcap A R O w HAll HR HO hn ht hN hK
  by_cases k1 : kd = 1
  · subst k1; exact formv_1 nm tx io N icap ko K kcap A R O w HAll HR HO hn ht hN hK
  by_cases k2 : kd = 2
  · subst k2; exact formv_2 nm tx io N icap ko K kcap A R O w HAll HR HO hn ht hN hK
  by_cases k3 : kd = 3
  · subst k3; exact formv_3 nm tx io N icap ko K kcap A R O w HAll HR HO hn ht hN hK
  by_cases k4 : kd = 4
  · subst k4; exact formv_4 nm tx io N icap ko K kcap A R O w HAll HR HO hn ht hN hK
  by_cases k5 : kd = 5
  · subst k5; exact formv_5 nm tx io N icap ko K kcap A R O w HAll HR HO hn ht hN hK
  by_cases k6 : kd = 6
  · subst k6; exact formv_6 nm tx io N icap ko K kcap A R O w HAll HR HO hn ht hN hK
  exact formv_else kd k0 k1 k2 k3 k4 k5 k6 nm tx io N icap ko K kcap A R O w HAll HR HO hn ht hN hK

theorem w_vFormed : ∀ h, FvOk h
  | 0 => fun T v w hI => hI.elim
  | h + 1 => fun T v w hI => by
    obtain ⟨io, icap, ko, kcap, rfl, a1, a2, a3, a4, a5, a6, a7, hk, hi⟩ := hI.open
    exact formv_ok T.kind T.num T.text io T.items.length icap ko T.keys.length kcap (T.items.all (formN h)) (rK T.keys T.keys.length) (oK T.keys T.keys.length) w
      (fun u hu => w_allFormed h (w_vFormed h) io T.items.length icap T.items u (hi.keep hu) rfl a5 a3)
      (fun u hu => w_rising ko T.keys.length kcap T.keys u (hk.keep hu) rfl a6 a4)
      (fun u hu => w_allValid ko T.keys.length kcap T.keys u (hk.keep hu) rfl a6 a4 a7) a1 a2 a5 a6
end Go.Proofs.Ytaflpeajapdkdaa
