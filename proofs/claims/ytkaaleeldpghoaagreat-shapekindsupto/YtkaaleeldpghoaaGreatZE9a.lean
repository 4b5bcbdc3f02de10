import Derived.Test.YtkaaleeldpghoaaGreatM17
namespace Go.Proofs.YtkaaleeldpghoaaGreat
open Go.RowKit
set_option linter.unusedVariables false
set_option linter.unusedSimpArgs false

set_option maxRecDepth 100000 in
set_option maxHeartbeats 3200000 in
theorem formv_0 (nm tx : ByteArray) (io : Option Addr) (N icap : Nat) (ko : Option Addr) (K kcap : Nat) (A R O : Bool) (w : World)
    (HAll : Hid (∀ u, Below w.heap.size w u → Calls Tryz.prog 60 #[.slice io N icap] u fun e w' => e = .returned (.bool A) ∧ Below u.heap.size u w'))
    (HR : Hid (∀ u, Below w.heap.size w u → Calls Tryz.prog 61 #[.slice ko K kcap] u fun e w' => e = .returned (.bool R) ∧ Below u.heap.size u w'))
    (HO : Hid (∀ u, Below w.heap.size w u → Calls Tryz.prog 62 #[.slice ko K kcap] u fun e w' => e = .returned (.bool O) ∧ Below u.heap.size u w'))
    (hn : nm.size ≤ 140737488355328) (ht : tx.size ≤ 140737488355328) (hN : N ≤ icap) (hK : K ≤ kcap) :
    Calls Tryz.prog 38 #[.agg #[.int .i64 0, .string nm, .string tx, .slice io N icap, .slice ko K kcap]] w fun e w' => e = .returned (.bool (formV 0 nm tx N K A (R && O))) ∧ Below w.heap.size w w' := by
  have HNum : Hid (∀ u, Below w.heap.size w u → Calls Tryz.prog 58 #[.string nm] u fun e w' => e = .returned (.bool (Pl.formed nm.data.toList)) ∧ Below u.heap.size u w') := fun u _ => w_Formed nm u (by unfold maxLen; omega)
  have HUtf : Hid (∀ u, Below w.heap.size w u → Calls Tryz.prog 59 #[.string tx] u fun e w' => e = .returned (.bool (okB tx.data.toList)) ∧ Below u.heap.size u w') := fun u _ => w_Valid tx u (by omega)
  have HX := Hid.mk (vb2_new w (.int .i64 0) (.string nm) (.string tx) (.slice io N icap) (.slice ko K kcap) (.string nm) (.string tx) (.slice io N icap) (.slice ko K kcap))
  have HF : Hid (formV 0 nm tx N K A (R && O) = bareB nm tx N K) := by show _ = _; unfold formV; rw [if_pos (by omega)]
  go_enter Tryz.func38, Tryz.ntmps38
  go_wp2_with fail
  refine (w_bare 0 nm tx io N icap ko K kcap _).mono ?_
  rintro e w9 ⟨rfl, hb9⟩
  have HX9 := Hid.mk (HX.out.keep hb9)
  clear hb9
  go_wp2_with fail
  go_ret
  exact ⟨by rw [HF.out]; rfl, HX9.out.one.below⟩

set_option maxRecDepth 100000 in
set_option maxHeartbeats 3200000 in
theorem formv_1 (nm tx : ByteArray) (io : Option Addr) (N icap : Nat) (ko : Option Addr) (K kcap : Nat) (A R O : Bool) (w : World)
    (HAll : Hid (∀ u, Below w.heap.size w u → Calls Tryz.prog 60 #[.slice io N icap] u fun e w' => e = .returned (.bool A) ∧ Below u.heap.size u w'))
    (HR : Hid (∀ u, Below w.heap.size w u → Calls Tryz.prog 61 #[.slice ko K kcap] u fun e w' => e = .returned (.bool R) ∧ Below u.heap.size u w'))
    (HO : Hid (∀ u, Below w.heap.size w u → Calls Tryz.prog 62 #[.slice ko K kcap] u fun e w' => e = .returned (.bool O) ∧ Below u.heap.size u w'))
    (hn : nm.size ≤ 140737488355328) (ht : tx.size ≤ 140737488355328) (hN : N ≤ icap) (hK : K ≤ kcap) :
    Calls Tryz.prog 38 #[.agg #[.int .i64 1, .string nm, .string tx, .slice io N icap, .slice ko K kcap]] w fun e w' => e = .returned (.bool (formV 1 nm tx N K A (R && O))) ∧ Below w.heap.size w w' := by
  have HNum : Hid (∀ u, Below w.heap.size w u → Calls Tryz.prog 58 #[.string nm] u fun e w' => e = .returned (.bool (Pl.formed nm.data.toList)) ∧ Below u.heap.size u w') := fun u _ => w_Formed nm u (by unfold maxLen; omega)
  have HUtf : Hid (∀ u, Below w.heap.size w u → Calls Tryz.prog 59 #[.string tx] u fun e w' => e = .returned (.bool (okB tx.data.toList)) ∧ Below u.heap.size u w') := fun u _ => w_Valid tx u (by omega)
  have HX := Hid.mk (vb2_new w (.int .i64 1) (.string nm) (.string tx) (.slice io N icap) (.slice ko K kcap) (.string nm) (.string tx) (.slice io N icap) (.slice ko K kcap))
  have HF : Hid (formV 1 nm tx N K A (R && O) = bareB nm tx N K) := by show _ = _; unfold formV; rw [if_pos (by omega)]
  go_enter Tryz.func38, Tryz.ntmps38
  go_wp2_with fail
  refine (w_bare 1 nm tx io N icap ko K kcap _).mono ?_
  rintro e w9 ⟨rfl, hb9⟩
  have HX9 := Hid.mk (HX.out.keep hb9)
  clear hb9
  go_wp2_with fail
  go_ret
  exact ⟨by rw [HF.out]; rfl, HX9.out.one.below⟩

set_option maxRecDepth 100000 in
set_option maxHeartbeats 3200000 in
theorem formv_2 (nm tx : ByteArray) (io : Option Addr) (N icap : Nat) (ko : Option Addr) (K kcap : Nat) (A R O : Bool) (w : World)
    (HAll : Hid (∀ u, Below w.heap.size w u → Calls Tryz.prog 60 #[.slice io N icap] u fun e w' => e = .returned (.bool A) ∧ Below u.heap.size u w'))
    (HR : Hid (∀ u, Below w.heap.size w u → Calls Tryz.prog 61 #[.slice ko K kcap] u fun e w' => e = .returned (.bool R) ∧ Below u.heap.size u w'))
    (HO : Hid (∀ u, Below w.heap.size w u → Calls Tryz.prog 62 #[.slice ko K kcap] u fun e w' => e = .returned (.bool O) ∧ Below u.heap.size u w'))
    (hn : nm.size ≤ 140737488355328) (ht : tx.size ≤ 140737488355328) (hN : N ≤ icap) (hK : K ≤ kcap) :
    Calls Tryz.prog 38 #[.agg #[.int .i64 2, .string nm, .string tx, .slice io N icap, .slice ko K kcap]] w fun e w' => e = .returned (.bool (formV 2 nm tx N K A (R && O))) ∧ Below w.heap.size w w' := by
  have HNum : Hid (∀ u, Below w.heap.size w u → Calls Tryz.prog 58 #[.string nm] u fun e w' => e = .returned (.bool (Pl.formed nm.data.toList)) ∧ Below u.heap.size u w') := fun u _ => w_Formed nm u (by unfold maxLen; omega)
  have HUtf : Hid (∀ u, Below w.heap.size w u → Calls Tryz.prog 59 #[.string tx] u fun e w' => e = .returned (.bool (okB tx.data.toList)) ∧ Below u.heap.size u w') := fun u _ => w_Valid tx u (by omega)
  have HX := Hid.mk (vb2_new w (.int .i64 2) (.string nm) (.string tx) (.slice io N icap) (.slice ko K kcap) (.string nm) (.string tx) (.slice io N icap) (.slice ko K kcap))
  have HF : Hid (formV 2 nm tx N K A (R && O) = bareB nm tx N K) := by show _ = _; unfold formV; rw [if_pos (by omega)]
  go_enter Tryz.func38, Tryz.ntmps38
  go_wp2_with fail
  refine (w_bare 2 nm tx io N icap ko K kcap _).mono ?_
  rintro e w9 ⟨rfl, hb9⟩
  have HX9 := Hid.mk (HX.out.keep hb9)
  clear hb9
  go_wp2_with fail
  go_ret
  exact ⟨by rw [HF.out]; rfl, HX9.out.one.below⟩

end Go.Proofs.YtkaaleeldpghoaaGreat
