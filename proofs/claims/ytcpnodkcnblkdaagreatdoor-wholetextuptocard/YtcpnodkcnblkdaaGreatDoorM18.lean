import Derived.Test.YtcpnodkcnblkdaaGreatDoorM16
import Derived.Test.YtcpnodkcnblkdaaGreatDoorM0
import Derived.Test.YtcpnodkcnblkdaaGreatDoorM17
namespace Go.Proofs.YtcpnodkcnblkdaaGreatDoor
open Go.RowKit
set_option linter.unusedVariables false
set_option linter.unusedSimpArgs false

structure Ord {α : Type} (P : α → Prop) (c : α → α → Int) : Prop where
  bd : ∀ x y, P x → P y → -1 ≤ c x y ∧ c x y ≤ 1
  sw : ∀ x y, P x → P y → c y x = - c x y
  zr : ∀ x y, P x → P y → c x y = 0 → x = y
  tr : ∀ x y z, P x → P y → P z → c x y ≤ 0 → c y z ≤ 0 → c x z ≤ 0
def listC {α : Type} (c : α → α → Int) : List α → List α → Int
  | [], [] => 0
  | [], _ :: _ => -1
  | _ :: _, [] => 1
  | x :: xs, y :: ys => if c x y = 0 then listC c xs ys else c x y

def keyC (a b : ByteArray) : Int := Pl.cmpS a.toList b.toList
def numC (a b : ByteArray) : Int := Pl.cmpN a.data.toList b.data.toList
def cmpV (ka kb : Int) (nc tc kc ic : Int) : Int :=
  if ka < kb then -1 else if kb < ka then 1 else if ka = 3 then nc else if ka = 4 then tc else if ka = 5 then ic else if ka = 6 then (if kc = 0 then ic else kc) else 0
def cmpH : Nat → VT → VT → Int
  | 0, _, _ => 0
  | h + 1, A, B => cmpV A.kind B.kind (numC A.num B.num) (keyC A.text B.text) (listC keyC A.keys B.keys) (listC (cmpH h) A.items B.items)

theorem bare_open {nm tx : ByteArray} {N K : Nat} (h : bareB nm tx N K = true) : nm = .empty ∧ tx = .empty ∧ N = 0 ∧ K = 0 := by
  have em : ∀ s : ByteArray, s.toList.isEmpty = true → s = .empty := fun s hs => by
    rw [Lib.toList_data] at hs
    exact Pl.eq_of_toList (by simpa using hs)
  unfold bareB at h
  simp only [Bool.and_eq_true, decide_eq_true_eq] at h
  exact ⟨em _ h.1.1.1, em _ h.1.1.2, h.1.2, h.2⟩

theorem form_open {h : Nat} {T : VT} (hf : formN (h + 1) T = true) :
    (T = .mk 0 .empty .empty [] [] ∨ T = .mk 1 .empty .empty [] [] ∨ T = .mk 2 .empty .empty [] []) ∨
    (∃ n, T = .mk 3 n .empty [] [] ∧ Pl.formed n.data.toList = true) ∨ (∃ t, T = .mk 4 .empty t [] [] ∧ okB t.data.toList = true) ∨
    (∃ i, T = .mk 5 .empty .empty i [] ∧ ∀ x ∈ i, formN h x = true) ∨ (∃ i k, T = .mk 6 .empty .empty i k ∧ k.length = i.length ∧ rK k k.length = true ∧ oK k k.length = true ∧ ∀ x ∈ i, formN h x = true) := by
  obtain ⟨kd, nm, tx, it, ks⟩ := T
  unfold formN at hf
  simp only [VT.kind, VT.num, VT.text, VT.items, VT.keys] at hf
  unfold formV at hf
  by_cases h0 : kd = 0 ∨ kd = 1 ∨ kd = 2
  · rw [if_pos h0] at hf
    obtain ⟨rfl, rfl, a, b⟩ := bare_open hf
    rw [List.eq_nil_of_length_eq_zero a, List.eq_nil_of_length_eq_zero b]
    rcases h0 with rfl | rfl | rfl <;> simp
  · rw [if_neg h0] at hf
    by_cases h3 : kd = 3
    · rw [if_pos h3] at hf
      subst h3
      simp only [Bool.and_eq_true] at hf
      obtain ⟨_, rfl, a, b⟩ := bare_open hf.2
      rw [List.eq_nil_of_length_eq_zero a, List.eq_nil_of_length_eq_zero b]
      exact .inr (.inl ⟨nm, rfl, hf.1⟩)
    · rw [if_neg h3] at hf
      by_cases h4 : kd = 4
      · rw [if_pos h4] at hf
        subst h4
        simp only [Bool.and_eq_true] at hf
        obtain ⟨rfl, _, a, b⟩ := bare_open hf.2
        rw [List.eq_nil_of_length_eq_zero a, List.eq_nil_of_length_eq_zero b]
        exact .inr (.inr (.inl ⟨tx, rfl, hf.1⟩))
      · rw [if_neg h4] at hf
        by_cases h5 : kd = 5
        · rw [if_pos h5] at hf
          subst h5
          simp only [Bool.and_eq_true, List.all_eq_true] at hf
          obtain ⟨rfl, rfl, _, b⟩ := bare_open hf.2
          rw [List.eq_nil_of_length_eq_zero b]
          exact .inr (.inr (.inr (.inl ⟨it, rfl, hf.1⟩)))
        · rw [if_neg h5] at hf
          by_cases h6 : kd = 6
          · rw [if_pos h6] at hf
            subst h6
            simp only [Bool.and_eq_true, List.all_eq_true, decide_eq_true_eq] at hf
            obtain ⟨rfl, rfl, _, _⟩ := bare_open hf.2
            exact .inr (.inr (.inr (.inr ⟨it, ks, rfl, hf.1.1.1, hf.1.1.2.1, hf.1.1.2.2, hf.1.2⟩)))
          · rw [if_neg h6] at hf; cases hf
end Go.Proofs.YtcpnodkcnblkdaaGreatDoor
namespace Go.Proofs.YtcpnodkcnblkdaaGreatDoor
open Go.RowKit
set_option linter.unusedVariables false
set_option linter.unusedSimpArgs false

set_option maxRecDepth 100000 in
set_option maxHeartbeats 3200000 in
theorem formv_0 (nm tx : ByteArray) (io : Option Addr) (N icap : Nat) (ko : Option Addr) (K kcap : Nat) (A R O : Bool) (w : World)
    (HAll : Hid (∀ u, Below w.heap.size w u → Calls Tryz.prog 34 #[.slice io N icap] u fun e w' => e = .returned (.bool A) ∧ Below u.heap.size u w'))
    (HR : Hid (∀ u, Below w.heap.size w u → Calls Tryz.prog 35 #[.slice ko K kcap] u fun e w' => e = .returned (.bool R) ∧ Below u.heap.size u w'))
    (HO : Hid (∀ u, Below w.heap.size w u → Calls Tryz.prog 36 #[.slice ko K kcap] u fun e w' => e = .returned (.bool O) ∧ Below u.heap.size u w'))
    (hn : nm.size ≤ 140737488355328) (ht : tx.size ≤ 140737488355328) (hN : N ≤ icap) (hK : K ≤ kcap) :
    Calls Tryz.prog 21 #[.agg #[.int .i64 0, .string nm, .string tx, .slice io N icap, .slice ko K kcap]] w fun e w' => e = .returned (.bool (formV 0 nm tx N K A (R && O))) ∧ Below w.heap.size w w' := by
  have HNum : Hid (∀ u, Below w.heap.size w u → Calls Tryz.prog 32 #[.string nm] u fun e w' => e = .returned (.bool (Pl.formed nm.data.toList)) ∧ Below u.heap.size u w') := fun u _ => w_Formed nm u (by unfold maxLen; omega)
  have HUtf : Hid (∀ u, Below w.heap.size w u → Calls Tryz.prog 33 #[.string tx] u fun e w' => e = .returned (.bool (okB tx.data.toList)) ∧ Below u.heap.size u w') := fun u _ => w_Valid tx u (by omega)
  have HX := Hid.mk (vb2_new w (.int .i64 0) (.string nm) (.string tx) (.slice io N icap) (.slice ko K kcap) (.string nm) (.string tx) (.slice io N icap) (.slice ko K kcap))
  have HF : Hid (formV 0 nm tx N K A (R && O) = bareB nm tx N K) := by show _ = _; unfold formV; rw [if_pos (by omega)]
  go_enter Tryz.func21, Tryz.ntmps21
  go_wp2_with fail
  refine (w_bare 0 nm tx io N icap ko K kcap _).mono ?_
  rintro e w9 ⟨rfl, hb9⟩
  have HX9 := Hid.mk (HX.out.keep hb9)
  clear hb9
  go_wp2_with fail
  go_ret
  exact ⟨by rw [HF.out]; rfl, HX9.out.one.below⟩

set_option maxRecDepth 100000 in
set_option maxHeartbeats 3200000 in
theorem formv_1 (nm tx : ByteArray) (io : Option Addr) (N icap : Nat) (ko : Option Addr) (K kcap : Nat) (A R O : Bool) (w : World)
    (HAll : Hid (∀ u, Below w.heap.size w u → Calls Tryz.prog 34 #[.slice io N icap] u fun e w' => e = .returned (.bool A) ∧ Below u.heap.size u w'))
    (HR : Hid (∀ u, Below w.heap.size w u → Calls Tryz.prog 35 #[.slice ko K kcap] u fun e w' => e = .returned (.bool R) ∧ Below u.heap.size u w'))
    (HO : Hid (∀ u, Below w.heap.size w u → Calls Tryz.prog 36 #[.slice ko K kcap] u fun e w' => e = .returned (.bool O) ∧ Below u.heap.size u w'))
    (hn : nm.size ≤ 140737488355328) (ht : tx.size ≤ 140737488355328) (hN : N ≤ icap) (hK : K ≤ kcap) :
    Calls Tryz.prog 21 #[.agg #[.int .i64 1, .string nm, .string tx, .slice io N icap, .slice ko K kcap]] w fun e w' => e = .returned (.bool (formV 1 nm tx N K A (R && O))) ∧ Below w.heap.size w w' := by
  have HNum : Hid (∀ u, Below w.heap.size w u → Calls Tryz.prog 32 #[.string nm] u fun e w' => e = .returned (.bool (Pl.formed nm.data.toList)) ∧ Below u.heap.size u w') := fun u _ => w_Formed nm u (by unfold maxLen; omega)
  have HUtf : Hid (∀ u, Below w.heap.size w u → Calls Tryz.prog 33 #[.string tx] u fun e w' => e = .returned (.bool (okB tx.data.toList)) ∧ Below u.heap.size u w') := fun u _ => w_Valid tx u (by omega)
  have HX := Hid.mk (vb2_new w (.int .i64 1) (.string nm) (.string tx) (.slice io N icap) (.slice ko K kcap) (.string nm) (.string tx) (.slice io N icap) (.slice ko K kcap))
  have HF : Hid (formV 1 nm tx N K A (R && O) = bareB nm tx N K) := by show _ = _; unfold formV; rw [if_pos (by omega)]
  go_enter Tryz.func21, Tryz.ntmps21
  go_wp2_with fail
  refine (w_bare 1 nm tx io N icap ko K kcap _).mono ?_
  rintro e w9 ⟨rfl, hb9⟩
  have HX9 := Hid.mk (HX.out.keep hb9)
  clear hb9
  go_wp2_with fail
  go_ret
  exact ⟨by rw [HF.out]; rfl, HX9.out.one.below⟩

set_option maxRecDepth 100000 in
set_option maxHeartbeats 3200000 in
theorem formv_2 (nm tx : ByteArray) (io : Option Addr) (N icap : Nat) (ko : Option Addr) (K kcap : Nat) (A R O : Bool) (w : World)
    (HAll : Hid (∀ u, Below w.heap.size w u → Calls Tryz.prog 34 #[.slice io N icap] u fun e w' => e = .returned (.bool A) ∧ Below u.heap.size u w'))
    (HR : Hid (∀ u, Below w.heap.size w u → Calls Tryz.prog 35 #[.slice ko K kcap] u fun e w' => e = .returned (.bool R) ∧ Below u.heap.size u w'))
    (HO : Hid (∀ u, Below w.heap.size w u → Calls Tryz.prog 36 #[.slice ko K kcap] u fun e w' => e = .returned (.bool O) ∧ Below u.heap.size u w'))
    (hn : nm.size ≤ 140737488355328) (ht : tx.size ≤ 140737488355328) (hN : N ≤ icap) (hK : K ≤ kcap) :
    Calls Tryz.prog 21 #[.agg #[.int .i64 2, .string nm, .string tx, .slice io N icap, .slice ko K kcap]] w fun e w' => e = .returned (.bool (formV 2 nm tx N K A (R && O))) ∧ Below w.heap.size w w' := by
  have HNum : Hid (∀ u, Below w.heap.size w u → Calls Tryz.prog 32 #[.string nm] u fun e w' => e = .returned (.bool (Pl.formed nm.data.toList)) ∧ Below u.heap.size u w') := fun u _ => w_Formed nm u (by unfold maxLen; omega)
  have HUtf : Hid (∀ u, Below w.heap.size w u → Calls Tryz.prog 33 #[.string tx] u fun e w' => e = .returned (.bool (okB tx.data.toList)) ∧ Below u.heap.size u w') := fun u _ => w_Valid tx u (by omega)
  have HX := Hid.mk (vb2_new w (.int .i64 2) (.string nm) (.string tx) (.slice io N icap) (.slice ko K kcap) (.string nm) (.string tx) (.slice io N icap) (.slice ko K kcap))
  have HF : Hid (formV 2 nm tx N K A (R && O) = bareB nm tx N K) := by show _ = _; unfold formV; rw [if_pos (by omega)]
  go_enter Tryz.func21, Tryz.ntmps21
  go_wp2_with fail
  refine (w_bare 2 nm tx io N icap ko K kcap _).mono ?_
  rintro e w9 ⟨rfl, hb9⟩
  have HX9 := Hid.mk (HX.out.keep hb9)
  clear hb9
  go_wp2_with fail
  go_ret
  exact ⟨by rw [HF.out]; rfl, HX9.out.one.below⟩

end Go.Proofs.YtcpnodkcnblkdaaGreatDoor
namespace Go.Proofs.YtcpnodkcnblkdaaGreatDoor
open Go.RowKit
set_option linter.unusedVariables false
set_option linter.unusedSimpArgs false

set_option maxRecDepth 100000 in
set_option maxHeartbeats 3200000 in
theorem formv_3 (nm tx : ByteArray) (io : Option Addr) (N icap : Nat) (ko : Option Addr) (K kcap : Nat) (A R O : Bool) (w : World)
    (HAll : Hid (∀ u, Below w.heap.size w u → Calls Tryz.prog 34 #[.slice io N icap] u fun e w' => e = .returned (.bool A) ∧ Below u.heap.size u w'))
    (HR : Hid (∀ u, Below w.heap.size w u → Calls Tryz.prog 35 #[.slice ko K kcap] u fun e w' => e = .returned (.bool R) ∧ Below u.heap.size u w'))
    (HO : Hid (∀ u, Below w.heap.size w u → Calls Tryz.prog 36 #[.slice ko K kcap] u fun e w' => e = .returned (.bool O) ∧ Below u.heap.size u w'))
    (hn : nm.size ≤ 140737488355328) (ht : tx.size ≤ 140737488355328) (hN : N ≤ icap) (hK : K ≤ kcap) :
    Calls Tryz.prog 21 #[.agg #[.int .i64 3, .string nm, .string tx, .slice io N icap, .slice ko K kcap]] w fun e w' => e = .returned (.bool (formV 3 nm tx N K A (R && O))) ∧ Below w.heap.size w w' := by
  have HNum : Hid (∀ u, Below w.heap.size w u → Calls Tryz.prog 32 #[.string nm] u fun e w' => e = .returned (.bool (Pl.formed nm.data.toList)) ∧ Below u.heap.size u w') := fun u _ => w_Formed nm u (by unfold maxLen; omega)
  have HUtf : Hid (∀ u, Below w.heap.size w u → Calls Tryz.prog 33 #[.string tx] u fun e w' => e = .returned (.bool (okB tx.data.toList)) ∧ Below u.heap.size u w') := fun u _ => w_Valid tx u (by omega)
  have HX := Hid.mk (vb2_new w (.int .i64 3) (.string nm) (.string tx) (.slice io N icap) (.slice ko K kcap) (.string (⟨#[]⟩ : ByteArray)) (.string tx) (.slice io N icap) (.slice ko K kcap))
  cases hc : Pl.formed nm.data.toList with
  | false =>
    have HF : Hid (formV 3 nm tx N K A (R && O) = false) := by show _ = _; unfold formV; rw [if_neg (by omega), if_pos rfl, hc]; rfl
    rw [hc] at HNum
    go_enter Tryz.func21, Tryz.ntmps21
    go_wp2_with fail
    refine (HNum.out _ HX.out.one.below).mono ?_
    rintro e w2 ⟨rfl, hw2⟩
    have HX2 := Hid.mk (HX.out.keep hw2)
    clear hw2
    go_wp2_with fail
    go_ret
    exact ⟨by rw [HF.out]; rfl, HX2.out.one.below⟩
  | true =>
    have HF : Hid (formV 3 nm tx N K A (R && O) = bareB .empty tx N K) := by show _ = _; unfold formV; rw [if_neg (by omega), if_pos rfl, hc]; rfl
    rw [hc] at HNum
    go_enter Tryz.func21, Tryz.ntmps21
    go_wp2_with fail
    refine (HNum.out _ HX.out.one.below).mono ?_
    rintro e w2 ⟨rfl, hw2⟩
    have HX2 := Hid.mk (HX.out.keep hw2)
    clear hw2
    have q0HX2 := HX2.out.d0
    have q1HX2 := HX2.out.d1
    have q2HX2 := HX2.out.d2
    have q3HX2 := HX2.out.d3
    have q4HX2 := HX2.out.d4
    go_wp2_with fail
    refine (w_bare 3 (⟨#[]⟩ : ByteArray) tx io N icap ko K kcap _).mono ?_
    rintro e w9 ⟨rfl, hb9⟩
    have HX9 := Hid.mk (HX2.out.keep hb9)
    clear hb9
    go_wp2_with fail
    go_ret
    exact ⟨by rw [HF.out]; rfl, HX9.out.one.below⟩

set_option maxRecDepth 100000 in
set_option maxHeartbeats 3200000 in
theorem formv_4 (nm tx : ByteArray) (io : Option Addr) (N icap : Nat) (ko : Option Addr) (K kcap : Nat) (A R O : Bool) (w : World)
    (HAll : Hid (∀ u, Below w.heap.size w u → Calls Tryz.prog 34 #[.slice io N icap] u fun e w' => e = .returned (.bool A) ∧ Below u.heap.size u w'))
    (HR : Hid (∀ u, Below w.heap.size w u → Calls Tryz.prog 35 #[.slice ko K kcap] u fun e w' => e = .returned (.bool R) ∧ Below u.heap.size u w'))
    (HO : Hid (∀ u, Below w.heap.size w u → Calls Tryz.prog 36 #[.slice ko K kcap] u fun e w' => e = .returned (.bool O) ∧ Below u.heap.size u w'))
    (hn : nm.size ≤ 140737488355328) (ht : tx.size ≤ 140737488355328) (hN : N ≤ icap) (hK : K ≤ kcap) :
    Calls Tryz.prog 21 #[.agg #[.int .i64 4, .string nm, .string tx, .slice io N icap, .slice ko K kcap]] w fun e w' => e = .returned (.bool (formV 4 nm tx N K A (R && O))) ∧ Below w.heap.size w w' := by
  have HNum : Hid (∀ u, Below w.heap.size w u → Calls Tryz.prog 32 #[.string nm] u fun e w' => e = .returned (.bool (Pl.formed nm.data.toList)) ∧ Below u.heap.size u w') := fun u _ => w_Formed nm u (by unfold maxLen; omega)
  have HUtf : Hid (∀ u, Below w.heap.size w u → Calls Tryz.prog 33 #[.string tx] u fun e w' => e = .returned (.bool (okB tx.data.toList)) ∧ Below u.heap.size u w') := fun u _ => w_Valid tx u (by omega)
  have HX := Hid.mk (vb2_new w (.int .i64 4) (.string nm) (.string tx) (.slice io N icap) (.slice ko K kcap) (.string nm) (.string (⟨#[]⟩ : ByteArray)) (.slice io N icap) (.slice ko K kcap))
  cases hc : okB tx.data.toList with
  | false =>
    have HF : Hid (formV 4 nm tx N K A (R && O) = false) := by show _ = _; unfold formV; rw [if_neg (by omega), if_neg (by omega), if_pos rfl, hc]; rfl
    rw [hc] at HUtf
    go_enter Tryz.func21, Tryz.ntmps21
    go_wp2_with fail
    refine (HUtf.out _ HX.out.one.below).mono ?_
    rintro e w2 ⟨rfl, hw2⟩
    have HX2 := Hid.mk (HX.out.keep hw2)
    clear hw2
    go_wp2_with fail
    go_ret
    exact ⟨by rw [HF.out]; rfl, HX2.out.one.below⟩
  | true =>
    have HF : Hid (formV 4 nm tx N K A (R && O) = bareB nm .empty N K) := by show _ = _; unfold formV; rw [if_neg (by omega), if_neg (by omega), if_pos rfl, hc]; rfl
    rw [hc] at HUtf
    go_enter Tryz.func21, Tryz.ntmps21
    go_wp2_with fail
    refine (HUtf.out _ HX.out.one.below).mono ?_
    rintro e w2 ⟨rfl, hw2⟩
    have HX2 := Hid.mk (HX.out.keep hw2)
    clear hw2
    have q0HX2 := HX2.out.d0
    have q1HX2 := HX2.out.d1
    have q2HX2 := HX2.out.d2
    have q3HX2 := HX2.out.d3
    have q4HX2 := HX2.out.d4
    go_wp2_with fail
    refine (w_bare 4 nm (⟨#[]⟩ : ByteArray) io N icap ko K kcap _).mono ?_
    rintro e w9 ⟨rfl, hb9⟩
    have HX9 := Hid.mk (HX2.out.keep hb9)
    clear hb9
    go_wp2_with fail
    go_ret
    exact ⟨by rw [HF.out]; rfl, HX9.out.one.below⟩

end Go.Proofs.YtcpnodkcnblkdaaGreatDoor
namespace Go.Proofs.YtcpnodkcnblkdaaGreatDoor
open Go.RowKit
set_option linter.unusedVariables false
set_option linter.unusedSimpArgs false

set_option maxRecDepth 100000 in
set_option maxHeartbeats 3200000 in
theorem formv_5 (nm tx : ByteArray) (io : Option Addr) (N icap : Nat) (ko : Option Addr) (K kcap : Nat) (A R O : Bool) (w : World)
    (HAll : Hid (∀ u, Below w.heap.size w u → Calls Tryz.prog 34 #[.slice io N icap] u fun e w' => e = .returned (.bool A) ∧ Below u.heap.size u w'))
    (HR : Hid (∀ u, Below w.heap.size w u → Calls Tryz.prog 35 #[.slice ko K kcap] u fun e w' => e = .returned (.bool R) ∧ Below u.heap.size u w'))
    (HO : Hid (∀ u, Below w.heap.size w u → Calls Tryz.prog 36 #[.slice ko K kcap] u fun e w' => e = .returned (.bool O) ∧ Below u.heap.size u w'))
    (hn : nm.size ≤ 140737488355328) (ht : tx.size ≤ 140737488355328) (hN : N ≤ icap) (hK : K ≤ kcap) :
    Calls Tryz.prog 21 #[.agg #[.int .i64 5, .string nm, .string tx, .slice io N icap, .slice ko K kcap]] w fun e w' => e = .returned (.bool (formV 5 nm tx N K A (R && O))) ∧ Below w.heap.size w w' := by
  have HNum : Hid (∀ u, Below w.heap.size w u → Calls Tryz.prog 32 #[.string nm] u fun e w' => e = .returned (.bool (Pl.formed nm.data.toList)) ∧ Below u.heap.size u w') := fun u _ => w_Formed nm u (by unfold maxLen; omega)
  have HUtf : Hid (∀ u, Below w.heap.size w u → Calls Tryz.prog 33 #[.string tx] u fun e w' => e = .returned (.bool (okB tx.data.toList)) ∧ Below u.heap.size u w') := fun u _ => w_Valid tx u (by omega)
  have HX := Hid.mk (vb2_new w (.int .i64 5) (.string nm) (.string tx) (.slice io N icap) (.slice ko K kcap) (.string nm) (.string tx) (.slice none 0 0) (.slice ko K kcap))
  cases hc : A with
  | false =>
    have HF : Hid (formV 5 nm tx N K false (R && O) = false) := by show _ = _; unfold formV; rw [if_neg (by omega), if_neg (by omega), if_neg (by omega), if_pos rfl]; rfl
    rw [hc] at HAll
    go_enter Tryz.func21, Tryz.ntmps21
    go_wp2_with fail
    refine (HAll.out _ HX.out.one.below).mono ?_
    rintro e w2 ⟨rfl, hw2⟩
    have HX2 := Hid.mk (HX.out.keep hw2)
    clear hw2
    go_wp2_with fail
    go_ret
    exact ⟨by rw [HF.out]; rfl, HX2.out.one.below⟩
  | true =>
    have HF : Hid (formV 5 nm tx N K true (R && O) = bareB nm tx 0 K) := by show _ = _; unfold formV; rw [if_neg (by omega), if_neg (by omega), if_neg (by omega), if_pos rfl]; rfl
    rw [hc] at HAll
    go_enter Tryz.func21, Tryz.ntmps21
    go_wp2_with fail
    refine (HAll.out _ HX.out.one.below).mono ?_
    rintro e w2 ⟨rfl, hw2⟩
    have HX2 := Hid.mk (HX.out.keep hw2)
    clear hw2
    have q0HX2 := HX2.out.d0
    have q1HX2 := HX2.out.d1
    have q2HX2 := HX2.out.d2
    have q3HX2 := HX2.out.d3
    have q4HX2 := HX2.out.d4
    go_wp2_with fail
    refine (w_bare 5 nm tx none 0 0 ko K kcap _).mono ?_
    rintro e w9 ⟨rfl, hb9⟩
    have HX9 := Hid.mk (HX2.out.keep hb9)
    clear hb9
    go_wp2_with fail
    go_ret
    exact ⟨by rw [HF.out]; rfl, HX9.out.one.below⟩

end Go.Proofs.YtcpnodkcnblkdaaGreatDoor
namespace Go.Proofs.YtcpnodkcnblkdaaGreatDoor
open Go.RowKit
set_option linter.unusedVariables false
set_option linter.unusedSimpArgs false

set_option maxRecDepth 100000 in
set_option maxHeartbeats 3200000 in
theorem formv_6 (nm tx : ByteArray) (io : Option Addr) (N icap : Nat) (ko : Option Addr) (K kcap : Nat) (A R O : Bool) (w : World)
    (HAll : Hid (∀ u, Below w.heap.size w u → Calls Tryz.prog 34 #[.slice io N icap] u fun e w' => e = .returned (.bool A) ∧ Below u.heap.size u w'))
    (HR : Hid (∀ u, Below w.heap.size w u → Calls Tryz.prog 35 #[.slice ko K kcap] u fun e w' => e = .returned (.bool R) ∧ Below u.heap.size u w'))
    (HO : Hid (∀ u, Below w.heap.size w u → Calls Tryz.prog 36 #[.slice ko K kcap] u fun e w' => e = .returned (.bool O) ∧ Below u.heap.size u w'))
    (hn : nm.size ≤ 140737488355328) (ht : tx.size ≤ 140737488355328) (hN : N ≤ icap) (hK : K ≤ kcap) :
    Calls Tryz.prog 21 #[.agg #[.int .i64 6, .string nm, .string tx, .slice io N icap, .slice ko K kcap]] w fun e w' => e = .returned (.bool (formV 6 nm tx N K A (R && O))) ∧ Below w.heap.size w w' := by
  have HNum : Hid (∀ u, Below w.heap.size w u → Calls Tryz.prog 32 #[.string nm] u fun e w' => e = .returned (.bool (Pl.formed nm.data.toList)) ∧ Below u.heap.size u w') := fun u _ => w_Formed nm u (by unfold maxLen; omega)
  have HUtf : Hid (∀ u, Below w.heap.size w u → Calls Tryz.prog 33 #[.string tx] u fun e w' => e = .returned (.bool (okB tx.data.toList)) ∧ Below u.heap.size u w') := fun u _ => w_Valid tx u (by omega)
  have HX := Hid.mk (vb2_new w (.int .i64 6) (.string nm) (.string tx) (.slice io N icap) (.slice ko K kcap) (.string nm) (.string tx) (.slice none 0 0) (.slice none 0 0))
  by_cases hKN : K = N
  · have hKN1 : ((K : Int) == (N : Int)) = true := by rw [beq_iff_eq]; omega
    have HKN : Hid (decide (K = N) = true) := decide_eq_true hKN
    clear hKN
    cases hR : R with
    | false =>
      have HF : Hid (formV 6 nm tx N K A (false && O) = false) := by show _ = _; unfold formV; rw [if_neg (by omega), if_neg (by omega), if_neg (by omega), if_neg (by omega), if_pos rfl]; simp
      rw [hR] at HR
      go_enter Tryz.func21, Tryz.ntmps21
      go_wp2_with fail
      refine (HR.out _ HX.out.one.below).mono ?_
      rintro e w2 ⟨rfl, hw2⟩
      have HX2 := Hid.mk (HX.out.keep hw2)
      clear hw2
      have p3HX2 := HX2.out.one.c3
      have p4HX2 := HX2.out.one.c4
      go_wp2_with fail
      go_ret
      exact ⟨by rw [HF.out]; rfl, HX2.out.one.below⟩
    | true =>
      rw [hR] at HR
      cases hO : O with
      | false =>
        have HF : Hid (formV 6 nm tx N K A (true && false) = false) := by show _ = _; unfold formV; rw [if_neg (by omega), if_neg (by omega), if_neg (by omega), if_neg (by omega), if_pos rfl]; simp
        rw [hO] at HO
        go_enter Tryz.func21, Tryz.ntmps21
        go_wp2_with fail
        refine (HR.out _ HX.out.one.below).mono ?_
        rintro e w2 ⟨rfl, hw2⟩
        have HX2 := Hid.mk (HX.out.keep hw2)
        clear hw2
        have p3HX2 := HX2.out.one.c3
        have p4HX2 := HX2.out.one.c4
        go_wp2_with fail
        refine (HO.out _ HX2.out.one.below).mono ?_
        rintro e w3 ⟨rfl, hw3⟩
        have HX3 := Hid.mk (HX2.out.keep hw3)
        clear hw3
        have p3HX3 := HX3.out.one.c3
        have p4HX3 := HX3.out.one.c4
        go_wp2_with fail
        go_ret
        exact ⟨by rw [HF.out]; rfl, HX3.out.one.below⟩
      | true =>
        rw [hO] at HO
        cases hA : A with
        | false =>
          have HF : Hid (formV 6 nm tx N K false (true && true) = false) := by show _ = _; unfold formV; rw [if_neg (by omega), if_neg (by omega), if_neg (by omega), if_neg (by omega), if_pos rfl]; simp
          rw [hA] at HAll
          go_enter Tryz.func21, Tryz.ntmps21
          go_wp2_with fail
          refine (HR.out _ HX.out.one.below).mono ?_
          rintro e w2 ⟨rfl, hw2⟩
          have HX2 := Hid.mk (HX.out.keep hw2)
          clear hw2
          have p3HX2 := HX2.out.one.c3
          have p4HX2 := HX2.out.one.c4
          go_wp2_with fail
          refine (HO.out _ HX2.out.one.below).mono ?_
          rintro e w3 ⟨rfl, hw3⟩
          have HX3 := Hid.mk (HX2.out.keep hw3)
          clear hw3
          have p3HX3 := HX3.out.one.c3
          have p4HX3 := HX3.out.one.c4
          go_wp2_with fail
          refine (HAll.out _ HX3.out.one.below).mono ?_
          rintro e w4 ⟨rfl, hw4⟩
          have HX4 := Hid.mk (HX3.out.keep hw4)
          clear hw4
          have q0HX4 := HX4.out.d0
          have q1HX4 := HX4.out.d1
          have q2HX4 := HX4.out.d2
          have q3HX4 := HX4.out.d3
          have q4HX4 := HX4.out.d4
          go_wp2_with fail
          go_ret
          exact ⟨by rw [HF.out]; rfl, HX4.out.one.below⟩
        | true =>
          have HF : Hid (formV 6 nm tx N K true (true && true) = bareB nm tx 0 0) := by show _ = _; unfold formV; rw [if_neg (by omega), if_neg (by omega), if_neg (by omega), if_neg (by omega), if_pos rfl, HKN.out]; rfl
          rw [hA] at HAll
          go_enter Tryz.func21, Tryz.ntmps21
          go_wp2_with fail
          refine (HR.out _ HX.out.one.below).mono ?_
          rintro e w2 ⟨rfl, hw2⟩
          have HX2 := Hid.mk (HX.out.keep hw2)
          clear hw2
          have p3HX2 := HX2.out.one.c3
          have p4HX2 := HX2.out.one.c4
          go_wp2_with fail
          refine (HO.out _ HX2.out.one.below).mono ?_
          rintro e w3 ⟨rfl, hw3⟩
          have HX3 := Hid.mk (HX2.out.keep hw3)
          clear hw3
          have p3HX3 := HX3.out.one.c3
          have p4HX3 := HX3.out.one.c4
          go_wp2_with fail
          refine (HAll.out _ HX3.out.one.below).mono ?_
          rintro e w4 ⟨rfl, hw4⟩
          have HX4 := Hid.mk (HX3.out.keep hw4)
          clear hw4
          have q0HX4 := HX4.out.d0
          have q1HX4 := HX4.out.d1
          have q2HX4 := HX4.out.d2
          have q3HX4 := HX4.out.d3
          have q4HX4 := HX4.out.d4
          go_wp2_with fail
          refine (w_bare 6 nm tx none 0 0 none 0 0 _).mono ?_
          rintro e w9 ⟨rfl, hb9⟩
          have HX9 := Hid.mk (HX4.out.keep hb9)
          clear hb9
          go_wp2_with fail
          go_ret
          exact ⟨by rw [HF.out]; rfl, HX9.out.one.below⟩
  · have hKN1 : ((K : Int) == (N : Int)) = false := by rw [beq_eq_false_iff_ne]; omega
    have HF : Hid (formV 6 nm tx N K A (R && O) = false) := by show _ = _; unfold formV; rw [if_neg (by omega), if_neg (by omega), if_neg (by omega), if_neg (by omega), if_pos rfl, decide_eq_false hKN]; simp
    clear hKN
    go_enter Tryz.func21, Tryz.ntmps21
    go_wp2_with fail
    go_ret
    exact ⟨by rw [HF.out]; rfl, HX.out.one.below⟩

end Go.Proofs.YtcpnodkcnblkdaaGreatDoor
namespace Go.Proofs.YtcpnodkcnblkdaaGreatDoor
open Go.RowKit
set_option linter.unusedVariables false
set_option linter.unusedSimpArgs false

set_option maxRecDepth 100000 in
set_option maxHeartbeats 3200000 in
theorem formv_else (kd : Int) (k0 : kd ≠ 0) (k1 : kd ≠ 1) (k2 : kd ≠ 2) (k3 : kd ≠ 3) (k4 : kd ≠ 4) (k5 : kd ≠ 5) (k6 : kd ≠ 6) (nm tx : ByteArray) (io : Option Addr) (N icap : Nat) (ko : Option Addr) (K kcap : Nat) (A R O : Bool) (w : World)
    (HAll : Hid (∀ u, Below w.heap.size w u → Calls Tryz.prog 34 #[.slice io N icap] u fun e w' => e = .returned (.bool A) ∧ Below u.heap.size u w'))
    (HR : Hid (∀ u, Below w.heap.size w u → Calls Tryz.prog 35 #[.slice ko K kcap] u fun e w' => e = .returned (.bool R) ∧ Below u.heap.size u w'))
    (HO : Hid (∀ u, Below w.heap.size w u → Calls Tryz.prog 36 #[.slice ko K kcap] u fun e w' => e = .returned (.bool O) ∧ Below u.heap.size u w'))
    (hn : nm.size ≤ 140737488355328) (ht : tx.size ≤ 140737488355328) (hN : N ≤ icap) (hK : K ≤ kcap) :
    Calls Tryz.prog 21 #[.agg #[.int .i64 kd, .string nm, .string tx, .slice io N icap, .slice ko K kcap]] w fun e w' => e = .returned (.bool (formV kd nm tx N K A (R && O))) ∧ Below w.heap.size w w' := by
  have HNum : Hid (∀ u, Below w.heap.size w u → Calls Tryz.prog 32 #[.string nm] u fun e w' => e = .returned (.bool (Pl.formed nm.data.toList)) ∧ Below u.heap.size u w') := fun u _ => w_Formed nm u (by unfold maxLen; omega)
  have HUtf : Hid (∀ u, Below w.heap.size w u → Calls Tryz.prog 33 #[.string tx] u fun e w' => e = .returned (.bool (okB tx.data.toList)) ∧ Below u.heap.size u w') := fun u _ => w_Valid tx u (by omega)
  have HX := Hid.mk (vb2_new w (.int .i64 kd) (.string nm) (.string tx) (.slice io N icap) (.slice ko K kcap) (.string nm) (.string tx) (.slice io N icap) (.slice ko K kcap))
  have HF : Hid (formV kd nm tx N K A (R && O) = false) := by show _ = _; unfold formV; rw [if_neg (by omega), if_neg (by omega), if_neg (by omega), if_neg (by omega), if_neg (by omega)]
  have b0 : (kd == 0) = false := by rw [beq_eq_false_iff_ne]; exact k0
  have b1 : (kd == 1) = false := by rw [beq_eq_false_iff_ne]; exact k1
  have b2 : (kd == 2) = false := by rw [beq_eq_false_iff_ne]; exact k2
  have b3 : (kd == 3) = false := by rw [beq_eq_false_iff_ne]; exact k3
  have b4 : (kd == 4) = false := by rw [beq_eq_false_iff_ne]; exact k4
  have b5 : (kd == 5) = false := by rw [beq_eq_false_iff_ne]; exact k5
  have b6 : (kd == 6) = false := by rw [beq_eq_false_iff_ne]; exact k6
  clear k0 k1 k2 k3 k4 k5 k6
  go_enter Tryz.func21, Tryz.ntmps21
  go_wp2_with fail
  go_ret
  exact ⟨by rw [HF.out]; rfl, HX.out.one.below⟩

theorem formv_ok (kd : Int) (nm tx : ByteArray) (io : Option Addr) (N icap : Nat) (ko : Option Addr) (K kcap : Nat) (A R O : Bool) (w : World)
    (HAll : Hid (∀ u, Below w.heap.size w u → Calls Tryz.prog 34 #[.slice io N icap] u fun e w' => e = .returned (.bool A) ∧ Below u.heap.size u w'))
    (HR : Hid (∀ u, Below w.heap.size w u → Calls Tryz.prog 35 #[.slice ko K kcap] u fun e w' => e = .returned (.bool R) ∧ Below u.heap.size u w'))
    (HO : Hid (∀ u, Below w.heap.size w u → Calls Tryz.prog 36 #[.slice ko K kcap] u fun e w' => e = .returned (.bool O) ∧ Below u.heap.size u w'))
    (hn : nm.size ≤ 140737488355328) (ht : tx.size ≤ 140737488355328) (hN : N ≤ icap) (hK : K ≤ kcap) :
    Calls Tryz.prog 21 #[.agg #[.int .i64 kd, .string nm, .string tx, .slice io N icap, .slice ko K kcap]] w fun e w' => e = .returned (.bool (formV kd nm tx N K A (R && O))) ∧ Below w.heap.size w w' := by
  by_cases k0 : kd = 0
  · subst k0; exact formv_0 nm tx io N icap ko K kcap A R O w HAll HR HO hn ht hN hK
  by_cases k1 : kd = 1
  · subst k1; exact formv_1 nm tx io N icap ko K kcap A R O w HAll HR HO hn ht hN hK
  by_cases k2 : kd = 2
  · subst k2; exact formv_2 nm tx io N icap ko K kcap A R O w HAll HR HO hn ht hN hK
  by_cases k3 : kd = 3
  · subst k3; exact formv_3 nm tx io N icap ko K kcap A R O w HAll HR HO hn ht hN hK
  by_cases k4 : kd = 4
  · subst k4; exact formv_4 nm tx io N icap ko K kcap A R O w HAll HR HO hn ht hN hK
  by_cases k5 : kd = 5
  · subst k5; exact formv_5 nm tx io N icap ko K kcap A R O w HAll HR HO hn ht hN hK
  by_cases k6 : kd = 6
  · subst k6; exact formv_6 nm tx io N icap ko K kcap A R O w HAll HR HO hn ht hN hK
  exact formv_else kd k0 k1 k2 k3 k4 k5 k6 nm tx io N icap ko K kcap A R O w HAll HR HO hn ht hN hK

theorem w_vFormed : ∀ h, FvOk h
  | 0 => fun T v w hI => hI.elim
  | h + 1 => fun T v w hI => by
    obtain ⟨io, icap, ko, kcap, rfl, a1, a2, a3, a4, a5, a6, a7, hk, hi⟩ := hI.open
    exact formv_ok T.kind T.num T.text io T.items.length icap ko T.keys.length kcap (T.items.all (formN h)) (rK T.keys T.keys.length) (oK T.keys T.keys.length) w
      (fun u hu => w_allFormed h (w_vFormed h) io T.items.length icap T.items u (hi.keep hu) rfl a5 a3)
      (fun u hu => w_rising ko T.keys.length kcap T.keys u (hk.keep hu) rfl a6 a4)
      (fun u hu => w_allValid ko T.keys.length kcap T.keys u (hk.keep hu) rfl a6 a4 a7) a1 a2 a5 a6
end Go.Proofs.YtcpnodkcnblkdaaGreatDoor
namespace Go.Proofs.YtcpnodkcnblkdaaGreatDoor
open Go.RowKit
set_option linter.unusedVariables false
set_option linter.unusedSimpArgs false

theorem Ord.map {α β : Type} {Q : β → Prop} {c : β → β → Int} (o : Ord Q c) {P : α → Prop} {d : α → α → Int} (g : β → α) (hg : ∀ x, P x → ∃ n, x = g n ∧ Q n) (hd : ∀ n m, Q n → Q m → d (g n) (g m) = c n m) : Ord P d where
  bd := fun x y hx hy => by
    obtain ⟨n, rfl, hn⟩ := hg x hx
    obtain ⟨m, rfl, hm⟩ := hg y hy
    rw [hd n m hn hm]; exact o.bd n m hn hm
  sw := fun x y hx hy => by
    obtain ⟨n, rfl, hn⟩ := hg x hx
    obtain ⟨m, rfl, hm⟩ := hg y hy
    rw [hd n m hn hm, hd m n hm hn]; exact o.sw n m hn hm
  zr := fun x y hx hy h => by
    obtain ⟨n, rfl, hn⟩ := hg x hx
    obtain ⟨m, rfl, hm⟩ := hg y hy
    rw [hd n m hn hm] at h; rw [o.zr n m hn hm h]
  tr := fun x y z hx hy hz h1 h2 => by
    obtain ⟨n, rfl, hn⟩ := hg x hx
    obtain ⟨m, rfl, hm⟩ := hg y hy
    obtain ⟨k, rfl, hk⟩ := hg z hz
    rw [hd n m hn hm] at h1; rw [hd m k hm hk] at h2; rw [hd n k hn hk]; exact o.tr n m k hn hm hk h1 h2

end Go.Proofs.YtcpnodkcnblkdaaGreatDoor
