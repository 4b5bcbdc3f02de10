import Derived.Test.YtdegoefedkidcaaDoorS1
import Derived.Lib.AtoiErrMem
namespace Go.Proofs.YtdegoefedkidcaaDoor
open Go.RowKit
set_option linter.unusedVariables false
set_option linter.unusedSimpArgs false

theorem s_below_more {w w1 w2 : World} (h : Below w.heap.size w w1) (h2 : Below w1.heap.size w1 w2) : Below w.heap.size w w2 := h.trans (h2.mono h.size)
theorem s_below1 (w : World) (o1 : Obj) : Below w.heap.size w (w.alloc o1) := (Below.refl w.heap.size w).alloc (Nat.le_refl _) o1

def inI (l : List UInt8) : Prop := -9223372036854775808 ≤ Pl.ival l ∧ Pl.ival l ≤ 9223372036854775807

set_option maxRecDepth 100000 in
set_option maxHeartbeats 800000 in
theorem w_Small_no (s : ByteArray) (w : World) (hs : s.size ≤ maxLen) (hf : Pl.formed s.data.toList = false) :
    Calls Tryd.prog 8 #[.string s] w fun e w' => e = .returned (.tuple #[.int .i64 0, .bool false]) ∧ Below w.heap.size w w' := by
  have HF := Hid.mk hf
  clear hf
  go_enter Tryd.func8, Tryd.ntmps8
  go_wp2_with fail
  refine (w_Formed s _ hs).mono ?_
  rintro e w0 ⟨rfl, hw⟩
  rw [HF.out]
  have HB := Hid.mk hw
  clear hw
  go_wp2_with fail
  go_ret2
  exact ⟨rfl, HB.out⟩

set_option maxRecDepth 100000 in
set_option maxHeartbeats 800000 in
theorem w_Small_in (s : ByteArray) (w : World) (hs : s.size ≤ 281474976710656) (hf : Pl.formed s.data.toList = true) (hi : inI s.data.toList) :
    Calls Tryd.prog 8 #[.string s] w fun e w' => e = .returned (.tuple #[.int .i64 (Pl.ival s.data.toList), .bool true]) ∧ Below w.heap.size w w' := by
  have HF := Hid.mk hf
  have hm : s.size ≤ maxLen := by unfold maxLen; omega
  have HA : Hid (Lib.atoiAll s.data.toList = .ok (Pl.ival s.data.toList)) := by show _ = _; rw [atoi_formed hf, if_pos (show _ ∧ _ from hi)]
  clear hf hi
  generalize Pl.ival s.data.toList = v at *
  go_enter Tryd.func8, Tryd.ntmps8
  go_wp2_with fail
  refine (w_Formed s _ hm).mono ?_
  rintro e w0 ⟨rfl, hw⟩
  rw [HF.out]
  have HB := Hid.mk hw
  clear hw
  go_wp2_with fail
  refine (Tryd.strconv_Atoi_ok s (by omega) v HA.out _).mono ?_
  rintro e w1 ⟨rfl, hw1⟩
  have HB1 : Hid (Below w.heap.size w w1) := by
    rcases hw1 with rfl | ⟨t, rfl⟩
    · exact HB.out
    · exact s_below_more HB.out (Lib.bytesWorld_below _ _ _)
  clear hw1
  go_wp2_with fail
  go_ret2
  exact ⟨rfl, HB1.out⟩

set_option maxRecDepth 100000 in
set_option maxHeartbeats 800000 in
theorem w_Small_out (s : ByteArray) (w : World) (hs : s.size ≤ 281474976710656) (hf : Pl.formed s.data.toList = true) (hi : ¬ inI s.data.toList) (tp : TypeId) (p : Value) (hvar : w.cell? ⟨1, 0, none⟩ = some (.iface tp p)) :
    Calls Tryd.prog 8 #[.string s] w fun e w' => e = .returned (.tuple #[.int .i64 0, .bool false]) ∧ Below w.heap.size w w' := by
  have HF := Hid.mk hf
  have hm : s.size ≤ maxLen := by unfold maxLen; omega
  have HA : Hid (Lib.atoiAll s.data.toList = .range) := by show _ = _; rw [atoi_formed hf, if_neg (show ¬ (_ ∧ _) from hi)]
  have HV := Hid.mk hvar
  clear hf hi hvar
  go_enter Tryd.func8, Tryd.ntmps8
  go_wp2_with fail
  refine (w_Formed s _ hm).mono ?_
  rintro e w0 ⟨rfl, hw⟩
  rw [HF.out]
  have HC : Hid (w0.cell? ⟨1, 0, none⟩ = some (.iface tp p)) := below_cells hw (World.block_lt_of_cell? _ _ HV.out) HV.out
  have HB := Hid.mk hw
  clear hw
  go_wp2_with fail
  refine (Tryd.strconv_Atoi_range s hs HA.out _ _ HC.out (Or.inr ⟨_, _, rfl⟩)).mono ?_
  rintro e w1 ⟨N, rfl, hN1, hN2, hb1⟩
  have HB1 := Hid.mk (s_below_more HB.out hb1)
  clear hN1 hN2 hb1
  go_wp2_with fail
  go_ret2
  exact ⟨rfl, HB1.out⟩

set_option maxRecDepth 100000 in
set_option maxHeartbeats 800000 in
theorem w_rless (a b : ByteArray) (w : World) (ha : a.size ≤ 20) (hb : b.size ≤ 20) (fa : Pl.formed a.data.toList = true) (fb : Pl.formed b.data.toList = true) (cm : Int) (hcm : Pl.cmpI (Pl.ival a.data.toList) (Pl.ival b.data.toList) = cm) :
    Calls Tryd.prog 37 #[.string a, .string b] w fun e w' => e = .returned (.bool (decide (cm < 0))) ∧ Below w.heap.size w w' := by
  have HF1 := Hid.mk fa
  have HF2 := Hid.mk fb
  have HC : Hid (Pl.ordI (Pl.neg a.data.toList) (Pl.neg b.data.toList) (Pl.cmpI (Pl.val 10 (Pl.trimN (Pl.digs (Pl.body a.data.toList)))) (Pl.val 10 (Pl.trimN (Pl.digs (Pl.body b.data.toList))))) = cm) := by
    show _ = _
    rw [Pl.order_val fa fb, Pl.cmpN_val fa fb, hcm]
  clear fa fb hcm
  go_enter Tryd.func37, Tryd.ntmps37
  go_wp2_with fail
  refine (w_read a _ (by omega) HF1.out).mono ?_
  rintro e w3 ⟨va, rfl, hna, hb3⟩
  have hva := hna
  obtain ⟨ao, cap, hv, q1, q2⟩ := hva
  clear q1 q2
  subst hv
  go_wp2_with fail
  refine (w_read b _ (by omega) HF2.out).mono ?_
  rintro e w4 ⟨vb, rfl, hnb, hb4⟩
  have hvb := hnb
  obtain ⟨ao2, cap2, hv, q1, q2⟩ := hvb
  clear q1 q2
  subst hv
  go_wp2_with fail
  refine (w_order _ _ _ _ _ _ _ (hna.keep hb4) hnb ?_ ?_ 10 (by decide) (Pl.dig_trim (Pl.digs_dig _ (Pl.canon_dig (Pl.formed_canon HF1.out)))) (Pl.dig_trim (Pl.digs_dig _ (Pl.canon_dig (Pl.formed_canon HF2.out)))) (Pl.top_trim _) (Pl.top_trim _)).mono ?_
  · exact Nat.le_trans (Pl.trim_len _) (by rw [Pl.digs_length]; exact Nat.le_trans (Pl.body_le a) (by unfold maxLen; omega))
  · exact Nat.le_trans (Pl.trim_len _) (by rw [Pl.digs_length]; exact Nat.le_trans (Pl.body_le b) (by unfold maxLen; omega))
  rintro e w5 ⟨rfl, hb5⟩
  rw [HC.out]
  have HB5 := Hid.mk (s_below_more (s_below_more hb3 hb4) hb5)
  clear hb3 hb4 hb5 hna hnb
  go_wp2_with fail
  go_ret
  exact ⟨rfl, HB5.out⟩

set_option maxRecDepth 100000 in
set_option maxHeartbeats 800000 in
theorem w_Digits (s : ByteArray) (w : World) (hs : s.size ≤ maxLen) (hf : Pl.formed s.data.toList = true) :
    Calls Tryd.prog 10 #[.string s] w fun e w' => e = .returned (.tuple #[.int .i64 (((Pl.body s.data.toList).length : Nat) : Int), .int .i64 0]) ∧ Below w.heap.size w w' := by
  have HF := Hid.mk hf
  clear hf
  go_enter Tryd.func10, Tryd.ntmps10
  go_wp2_with fail
  refine (w_Formed s _ hs).mono ?_
  rintro e w0 ⟨rfl, hw⟩
  rw [HF.out]
  have HB := Hid.mk hw
  clear hw
  go_wp2_with fail
  refine (w_cutMinus s _ hs).mono ?_
  rintro e w1 ⟨r, rfl, hr, hrs, hb1⟩
  have HR : Hid ((Pl.body s.data.toList).length = r.size) := by show _ = _; rw [← hr]; simp
  have HB1 := Hid.mk (s_below_more HB.out hb1)
  clear hr hb1
  go_wp2_with fail
  go_ret2
  exact ⟨by rw [HR.out]; rfl, HB1.out⟩

set_option maxRecDepth 100000 in
set_option maxHeartbeats 800000 in
theorem w_Digits_no (s : ByteArray) (w : World) (hs : s.size ≤ maxLen) (hf : Pl.formed s.data.toList = false) :
    Calls Tryd.prog 10 #[.string s] w fun e w' => e = .returned (.tuple #[.int .i64 0, .int .i64 1]) ∧ Below w.heap.size w w' := by
  have HF := Hid.mk hf
  clear hf
  go_enter Tryd.func10, Tryd.ntmps10
  go_wp2_with fail
  refine (w_Formed s _ hs).mono ?_
  rintro e w0 ⟨rfl, hw⟩
  rw [HF.out]
  have HB := Hid.mk hw
  clear hw
  go_wp2_with fail
  go_ret2
  exact ⟨rfl, HB.out⟩

set_option maxRecDepth 100000 in
set_option maxHeartbeats 800000 in
theorem w_rDigits (s : ByteArray) (w : World) (hs : s.size ≤ maxLen) (hf : Pl.formed s.data.toList = true) :
    Calls Tryd.prog 11 #[.string s] w fun e w' => e = .returned (.tuple #[.int .i64 (((Pl.body s.data.toList).length : Nat) : Int), .int .i64 0]) ∧ Below w.heap.size w w' := by
  have HF := Hid.mk hf
  have hp0 : 0 < s.size := by
    have := Pl.canon_len (Pl.formed_canon hf)
    have := Pl.body_le s
    omega
  have hln : (Pl.body s.data.toList).length = s.size - (if Pl.neg s.data.toList then 1 else 0) := by
    unfold Pl.body
    split
    · rw [List.length_tail, Pl.size_toList]
    · rw [Pl.size_toList]; simp
  have hng := Pl.neg_of s hp0
  have hs' := hs
  unfold maxLen at hs'
  rw [hln]
  clear hf hln
  cases hn : Pl.neg s.data.toList with
  | true =>
    have h45 : (((s[0].toNat : Nat) : Int) == 45) = true := by
      rw [hn] at hng
      simp at hng ⊢
      omega
    have h1 : (s.size : Int) - 1 = ((s.size - 1 : Nat) : Int) := by omega
    clear hng hn
    go_enter Tryd.func11, Tryd.ntmps11
    go_wp2_with fail
    refine (w_rFormed s _ hs).mono ?_
    rintro e w0 ⟨rfl, hw⟩
    obtain rfl := hw.symm
    rw [HF.out]
    go_wp2_with fail
    go_ret2
    exact ⟨by simp only [if_true]; rw [← h1]; rfl, Below.refl _ _⟩
  | false =>
    have h45 : (((s[0].toNat : Nat) : Int) == 45) = false := by
      rw [hn] at hng
      simp at hng ⊢
      omega
    clear hng hn
    go_enter Tryd.func11, Tryd.ntmps11
    go_wp2_with fail
    refine (w_rFormed s _ hs).mono ?_
    rintro e w0 ⟨rfl, hw⟩
    obtain rfl := hw.symm
    rw [HF.out]
    go_wp2_with fail
    go_ret2
    exact ⟨by simp, Below.refl _ _⟩

set_option maxRecDepth 100000 in
set_option maxHeartbeats 800000 in
theorem w_rDigits_no (s : ByteArray) (w : World) (hs : s.size ≤ maxLen) (hf : Pl.formed s.data.toList = false) :
    Calls Tryd.prog 11 #[.string s] w fun e w' => e = .returned (.tuple #[.int .i64 0, .int .i64 1]) ∧ Below w.heap.size w w' := by
  have HF := Hid.mk hf
  clear hf
  go_enter Tryd.func11, Tryd.ntmps11
  go_wp2_with fail
  refine (w_rFormed s _ hs).mono ?_
  rintro e w0 ⟨rfl, hw⟩
  obtain rfl := hw.symm
  rw [HF.out]
  go_wp2_with fail
  go_ret2
  exact ⟨rfl, Below.refl _ _⟩
end Go.Proofs.YtdegoefedkidcaaDoor
