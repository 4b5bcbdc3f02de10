import Derived.Test.YtdegoefedkidcaaDoorS2
import Derived.Test.YtdegoefedkidcaaDoorArith1
namespace Go.Proofs.YtdegoefedkidcaaDoor
open Go.RowKit
set_option linter.unusedVariables false
set_option linter.unusedSimpArgs false

def maxT : ByteArray := ⟨#[57, 50, 50, 51, 51, 55, 50, 48, 51, 54, 56, 53, 52, 55, 55, 53, 56, 48, 55]⟩
def minT : ByteArray := ⟨#[45, 57, 50, 50, 51, 51, 55, 50, 48, 51, 54, 56, 53, 52, 55, 55, 53, 56, 48, 56]⟩
theorem maxT_ok : Pl.formed maxT.data.toList = true ∧ Pl.ival maxT.data.toList = 9223372036854775807 := by decide
theorem minT_ok : Pl.formed minT.data.toList = true ∧ Pl.ival minT.data.toList = -9223372036854775808 := by decide

theorem cmpI_cases (a b : Int) : ∃ cm : Int, Pl.cmpI a b = cm ∧ ((cm < 0 ∧ a < b) ∨ (¬ cm < 0 ∧ ¬ a < b)) := ⟨_, rfl, by unfold Pl.cmpI; split <;> first | omega | (split <;> omega)⟩

theorem less_max (s : ByteArray) (w : World) (hs : s.size ≤ 20) (hf : Pl.formed s.data.toList = true) :
    Calls Tryd.prog 37 #[.string ⟨#[57, 50, 50, 51, 51, 55, 50, 48, 51, 54, 56, 53, 52, 55, 55, 53, 56, 48, 55]⟩, .string s] w fun e w' => e = .returned (.bool (decide (9223372036854775807 < Pl.ival s.data.toList))) ∧ Below w.heap.size w w' := by
  obtain ⟨cm, hcm, hc⟩ := cmpI_cases (Pl.ival maxT.data.toList) (Pl.ival s.data.toList)
  have h := w_rless maxT s w (by decide) hs maxT_ok.1 hf cm hcm
  rw [maxT_ok.2] at hc
  have e : decide (cm < 0) = decide (9223372036854775807 < Pl.ival s.data.toList) := by
    rcases hc with ⟨h1, h2⟩ | ⟨h1, h2⟩
    · rw [decide_eq_true h1, decide_eq_true h2]
    · rw [decide_eq_false h1, decide_eq_false h2]
  rw [e] at h
  exact h
theorem less_min (s : ByteArray) (w : World) (hs : s.size ≤ 20) (hf : Pl.formed s.data.toList = true) :
    Calls Tryd.prog 37 #[.string s, .string ⟨#[45, 57, 50, 50, 51, 51, 55, 50, 48, 51, 54, 56, 53, 52, 55, 55, 53, 56, 48, 56]⟩] w fun e w' => e = .returned (.bool (decide (Pl.ival s.data.toList < -9223372036854775808))) ∧ Below w.heap.size w w' := by
  obtain ⟨cm, hcm, hc⟩ := cmpI_cases (Pl.ival s.data.toList) (Pl.ival minT.data.toList)
  have h := w_rless s minT w hs (by decide) hf minT_ok.1 cm hcm
  rw [minT_ok.2] at hc
  have e : decide (cm < 0) = decide (Pl.ival s.data.toList < -9223372036854775808) := by
    rcases hc with ⟨h1, h2⟩ | ⟨h1, h2⟩
    · rw [decide_eq_true h1, decide_eq_true h2]
    · rw [decide_eq_false h1, decide_eq_false h2]
  rw [e] at h
  exact h

set_option maxRecDepth 100000 in
set_option maxHeartbeats 800000 in
theorem w_rSmall_no (s : ByteArray) (w : World) (hs : s.size ≤ maxLen) (hf : Pl.formed s.data.toList = false) :
    Calls Tryd.prog 9 #[.string s] w fun e w' => e = .returned (.tuple #[.int .i64 0, .bool false]) ∧ Below w.heap.size w w' := by
  have HF := Hid.mk hf
  clear hf
  go_enter Tryd.func9, Tryd.ntmps9
  go_wp2_with fail
  refine (w_rFormed s _ hs).mono ?_
  rintro e w0 ⟨rfl, hw⟩
  obtain rfl := hw.symm
  rw [HF.out]
  go_wp2_with fail
  go_ret2
  exact ⟨rfl, Below.refl _ _⟩

set_option maxRecDepth 100000 in
set_option maxHeartbeats 1600000 in
theorem w_rSmall_out (s : ByteArray) (w : World) (hs : s.size ≤ maxLen) (hf : Pl.formed s.data.toList = true) (hi : ¬ inI s.data.toList) :
    Calls Tryd.prog 9 #[.string s] w fun e w' => e = .returned (.tuple #[.int .i64 0, .bool false]) ∧ Below w.heap.size w w' := by
  have HF := Hid.mk hf
  have HI := Hid.mk hi
  clear hf hi
  by_cases h20 : 20 < s.size
  · have h20' : (20 : Int) < (s.size : Int) := by omega
    go_enter Tryd.func9, Tryd.ntmps9
    go_wp2_with fail
    refine (w_rFormed s _ hs).mono ?_
    rintro e w0 ⟨rfl, hw⟩
    obtain rfl := hw.symm
    rw [HF.out]
    go_wp2_with fail
    go_ret2
    exact ⟨rfl, Below.refl _ _⟩
  · have h20' : ¬ (20 : Int) < (s.size : Int) := by omega
    by_cases hmx : 9223372036854775807 < Pl.ival s.data.toList
    · have HM : Hid (decide (9223372036854775807 < Pl.ival s.data.toList) = true) := decide_eq_true hmx
      clear hmx
      go_enter Tryd.func9, Tryd.ntmps9
      go_wp2_with fail
      refine (w_rFormed s _ hs).mono ?_
      rintro e w0 ⟨rfl, hw⟩
      obtain rfl := hw.symm
      rw [HF.out]
      go_wp2_with fail
      refine (less_max s _ (by omega) HF.out).mono ?_
      rintro e w1 ⟨rfl, hb1⟩
      rw [HM.out]
      have HB1 := Hid.mk hb1
      clear hb1
      go_wp2_with fail
      go_ret2
      exact ⟨rfl, HB1.out⟩
    · have HM : Hid (decide (9223372036854775807 < Pl.ival s.data.toList) = false) := decide_eq_false hmx
      have HN : Hid (decide (Pl.ival s.data.toList < -9223372036854775808) = true) := decide_eq_true (by have := HI.out; unfold inI at this; omega)
      clear hmx
      go_enter Tryd.func9, Tryd.ntmps9
      go_wp2_with fail
      refine (w_rFormed s _ hs).mono ?_
      rintro e w0 ⟨rfl, hw⟩
      obtain rfl := hw.symm
      rw [HF.out]
      go_wp2_with fail
      refine (less_max s _ (by omega) HF.out).mono ?_
      rintro e w1 ⟨rfl, hb1⟩
      rw [HM.out]
      have HB1 := Hid.mk hb1
      clear hb1
      go_wp2_with fail
      refine (less_min s _ (by omega) HF.out).mono ?_
      rintro e w2 ⟨rfl, hb2⟩
      rw [HN.out]
      have HB2 := Hid.mk (s_below_more HB1.out hb2)
      clear hb2
      go_wp2_with fail
      go_ret2
      exact ⟨rfl, HB2.out⟩

set_option maxRecDepth 100000 in
set_option maxHeartbeats 1600000 in
theorem w_rSmall_in (s : ByteArray) (w : World) (hs : s.size ≤ maxLen) (hf : Pl.formed s.data.toList = true) (hi : inI s.data.toList) :
    Calls Tryd.prog 9 #[.string s] w fun e w' => e = .returned (.tuple #[.int .i64 (Pl.ival s.data.toList), .bool true]) ∧ Below w.heap.size w w' := by
  have HF := Hid.mk hf
  have HI := Hid.mk hi
  have h20 : ¬ 20 < s.size := fun h => long_out hf h hi
  have h20' : ¬ (20 : Int) < (s.size : Int) := by omega
  have HM : Hid (decide (9223372036854775807 < Pl.ival s.data.toList) = false) := decide_eq_false (by have := hi.2; omega)
  have HN : Hid (decide (Pl.ival s.data.toList < -9223372036854775808) = false) := decide_eq_false (by have := hi.1; omega)
  clear hf hi
  go_enter Tryd.func9, Tryd.ntmps9
  go_wp2_with fail
  refine (w_rFormed s _ hs).mono ?_
  rintro e w0 ⟨rfl, hw⟩
  obtain rfl := hw.symm
  rw [HF.out]
  go_wp2_with fail
  refine (less_max s _ (by omega) HF.out).mono ?_
  rintro e w1 ⟨rfl, hb1⟩
  rw [HM.out]
  have HB1 := Hid.mk hb1
  clear hb1
  go_wp2_with fail
  refine (less_min s _ (by omega) HF.out).mono ?_
  rintro e w2 ⟨rfl, hb2⟩
  rw [HN.out]
  have HB2 := Hid.mk (s_below_more HB1.out hb2)
  clear hb2
  go_wp2_with fail
  refine (w_read s _ (by omega) HF.out).mono ?_
  rintro e w3 ⟨va, rfl, hna, hb3⟩
  have HB3 := Hid.mk (s_below_more HB2.out hb3)
  obtain ⟨xs, hxs⟩ : ∃ xs, xs = Pl.trimN (Pl.digs (Pl.body s.data.toList)) := ⟨_, rfl⟩
  have HV : Hid (Pl.val 10 xs = Pl.dvl (Pl.body s.data.toList)) := by show _ = _; rw [hxs, Pl.val_trim]; rfl
  have HL : Hid (xs.length ≤ 20) := by
    show _ ≤ _
    rw [hxs]
    exact Nat.le_trans (Pl.trim_len _) (by rw [Pl.digs_length]; exact Nat.le_trans (Pl.body_le s) (by omega))
  have HD : Hid (Pl.dig 10 xs) := by show Pl.dig _ _; rw [hxs]; exact Pl.dig_trim (Pl.digs_dig _ (Pl.canon_dig (Pl.formed_canon HF.out)))
  rw [← hxs] at hna
  have HNa := Hid.mk hna
  obtain ⟨ao, cap, hv, q1, q2⟩ := hna
  clear q1 q2 hb3 hxs
  subst hv
  generalize hn : xs.length = n at *
  have HLN := Hid.mk hn
  clear hn
  have hn20 : n ≤ 20 := HL.out
  obtain ⟨bl, hbl⟩ : ∃ bl, bl = Pl.neg s.data.toList := ⟨_, rfl⟩
  have HVal : Hid (Pl.val 10 xs ≤ 9223372036854775808 ∧ (bl = false → Pl.val 10 xs ≤ 9223372036854775807) ∧ (Pl.ival s.data.toList = if bl then -((Pl.val 10 xs : Nat) : Int) else ((Pl.val 10 xs : Nat) : Int))) := by
    have h1 := HI.out
    unfold inI Pl.ival at h1
    show _ ∧ _ ∧ _
    rw [HV.out, hbl]
    unfold Pl.ival
    cases hneg : Pl.neg s.data.toList <;> rw [hneg] at h1 <;> simp at h1 ⊢ <;> omega
  rw [← hbl]
  clear hbl
  obtain ⟨u1, hu1⟩ : ∃ u1 : World, u1 = w3.alloc (.cells #[.bool bl, .slice ao n cap] 48) := ⟨_, rfl⟩
  have cX0 : u1.cell? ⟨w3.heap.size, 0, none⟩ = some (.bool bl) := by rw [hu1]; simp [go_sem]
  have cX1 : u1.cell? ⟨w3.heap.size, 1, none⟩ = some (.slice ao n cap) := by rw [hu1]; simp [go_sem]
  have HBu : Hid (Below w.heap.size w u1) := by show Below _ _ _; rw [hu1]; exact s_below_more HB3.out (s_below1 w3 _)
  have HNu : Hid (Nums .i64 u1 (.slice ao n cap) xs) := by show Nums _ _ _ _; rw [hu1]; exact HNa.out.keep (s_below1 w3 _)
  go_wp2_with fail
  rw [← hu1]
  clear hu1 HNa HB3
  go_loopw [5, 6] (fun nn i wr => ∃ (k t : Nat), k ≤ n ∧ i = .int .i64 ((k : Int) - 1) ∧ nn = .int .i64 (-((t : Nat) : Int)) ∧ t ≤ 9223372036854775808 ∧ wr = u1 ∧ Hid (t = Pl.val 10 (xs.drop k))) (fun _ i _ => (intOf i + 1).toNat)
  case atStart => exact ⟨n, 0, Nat.le_refl _, rfl, rfl, by omega, rfl, by show _ = _; rw [List.drop_eq_nil_of_le (by rw [HLN.out]; exact Nat.le_refl _)]; rfl⟩
  case round =>
    obtain ⟨k, t, hk, rfl, rfl, ht, rfl, HT⟩ := hrel
    cases k with
    | zero =>
      have HT0 : Hid (t = Pl.val 10 xs) := by have := HT.out; rw [List.drop_zero] at this; exact this
      clear HT
      rw [show ((0 : Nat) : Int) - 1 = -1 from rfl]
      cases bl with
      | true =>
        go_wp2_with fail
        go_ret2
        exact ⟨by rw [HVal.out.2.2, ← HT0.out]; rfl, HBu.out⟩
      | false =>
        have ht2 : t ≤ 9223372036854775807 := by rw [HT0.out]; exact HVal.out.2.1 rfl
        go_wp2_with fail
        go_ret2
        exact ⟨by rw [HVal.out.2.2, ← HT0.out]; simp, HBu.out⟩
    | succ m =>
      rw [show ((m + 1 : Nat) : Int) - 1 = (m : Int) by omega]
      have hmn : (m : Int) < (n : Int) := by omega
      obtain ⟨x, hxx⟩ : ∃ x, x = xs.getD m 0 := ⟨_, rfl⟩
      have hx9 : x < 10 := by rw [hxx]; exact Pl.dig_getD (by decide) HD.out m
      obtain ⟨ba, offa, hao, cx⟩ : ∃ ba offa, ao = some ⟨ba, offa, none⟩ ∧ wr.cell? ⟨ba, offa + m, none⟩ = some (.int .i64 (x : Int)) := by
        rcases HNu.out.open' with ⟨e, _⟩ | ⟨hp, ba, offa, cap, e, hc, hlt2, hcell⟩
        · have := HLN.out; rw [e] at this; simp at this; omega
        · cases e
          exact ⟨ba, offa, rfl, by rw [hxx]; exact hcell m (by have := HLN.out; omega)⟩
      subst hao
      have HN2 : Hid (x + 10 * t = Pl.val 10 (xs.drop m)) := by
        obtain ⟨r, tl, h1, h2, h3⟩ := Pl.drop_parts (rs := xs) (i := m) (by rw [HLN.out]; omega)
        show _ = _
        rw [h1, Pl.val_cons, hxx, h2, HT.out, h3]
      have hb : x + 10 * t ≤ 9223372036854775808 := by
        rw [HN2.out]
        exact Nat.le_trans (val_drop_le xs m) HVal.out.1
      clear hxx HT
      go_wp2_with fail
      go_roundw
      case measure => simp [intOf]
      exact ⟨m, x + 10 * t, by omega, rfl, congrArg (Value.int .i64) (by omega), by omega, by trivial, HN2⟩
end Go.Proofs.YtdegoefedkidcaaDoor
