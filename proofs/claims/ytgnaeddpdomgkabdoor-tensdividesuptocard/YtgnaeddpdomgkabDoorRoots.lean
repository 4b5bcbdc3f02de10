import Derived.Test.YtgnaeddpdomgkabDoorKnown
import Derived.Test.YtgnaeddpdomgkabDoorThree
namespace Go.Proofs.YtgnaeddpdomgkabDoor
open Go.RowKit
set_option linter.unusedVariables false
set_option linter.unusedSimpArgs false

theorem first_neg {s : ByteArray} (hp : 0 < s.size) : (((s[0].toNat : Nat) : Int) == 45) = Pl.neg s.data.toList := by
  rw [Pl.neg_of s hp]
  by_cases h : s[0].toNat = 45
  · simp [h]
  · simp only [h, decide_false]; rw [beq_eq_false_iff_ne]; omega

theorem neg_of_nonneg {l : List UInt8} (hf : Pl.formed l = true) (h : 0 ≤ Pl.ival l) : Pl.neg l = false := by
  cases hn : Pl.neg l with
  | false => rfl
  | true =>
    have := Pl.plain_pos (Pl.formed_neg hf hn)
    unfold Pl.ival at h
    rw [hn] at h
    simp only [if_true] at h
    omega

set_option maxRecDepth 100000 in
set_option maxHeartbeats 1600000 in
theorem w_Roots_bad (a : ByteArray) (w : World) (ha : a.size ≤ 1048576) (htab : Tab w) (hf : Pl.formed a.data.toList = false) :
    Calls Tryd.prog 7 #[.string a] w fun e w' => e = .returned (.bool true) ∧ Below w.heap.size w w' := by
  have HT := Hid.mk htab
  have H3 := Hid.mk (fun (u : World) => w_rFormed a u (by unfold maxLen; omega))
  rw [hf] at H3
  clear htab hf
  go_enter Tryd.func7, Tryd.ntmps7
  go_wp2_with fail
  refine (w_Known _ HT.out).mono ?_
  rintro e w1 ⟨rfl, hb1⟩
  have HB1 := Hid.mk hb1
  clear hb1
  go_wp2_with fail
  refine (H3.out _).mono ?_
  rintro e w2 ⟨rfl, rfl⟩
  go_wp2_with fail
  go_ret
  exact ⟨rfl, HB1.out⟩

set_option maxRecDepth 100000 in
set_option maxHeartbeats 1600000 in
theorem w_Roots_neg (a : ByteArray) (w : World) (ha : a.size ≤ 1048576) (htab : Tab w) (hf : Pl.formed a.data.toList = true) (hn : Pl.neg a.data.toList = true) :
    Calls Tryd.prog 7 #[.string a] w fun e w' => e = .returned (.bool true) ∧ Below w.heap.size w w' := by
  have HT := Hid.mk htab
  have H3 := Hid.mk (fun (u : World) => w_rFormed a u (by unfold maxLen; omega))
  rw [hf] at H3
  have hp := formed_size hf
  have h45 := first_neg hp
  rw [hn] at h45
  clear htab hf hn
  go_enter Tryd.func7, Tryd.ntmps7
  go_wp2_with fail
  refine (w_Known _ HT.out).mono ?_
  rintro e w1 ⟨rfl, hb1⟩
  have HB1 := Hid.mk hb1
  clear hb1
  go_wp2_with fail
  refine (H3.out _).mono ?_
  rintro e w2 ⟨rfl, rfl⟩
  go_wp2_with fail
  go_ret
  exact ⟨rfl, HB1.out⟩

set_option maxRecDepth 100000 in
set_option maxHeartbeats 3200000 in
theorem w_Roots_at (a : ByteArray) (w : World) (ha : a.size ≤ 1048576) (htab : Tab w) (hf : Pl.formed a.data.toList = true) (hn : Pl.neg a.data.toList = false) :
    Calls Tryd.prog 7 #[.string a] w fun e w' => e = .returned (.bool true) ∧ Below w.heap.size w w' := by
  have HT := Hid.mk htab
  have H3 := Hid.mk (fun (u : World) => w_rFormed a u (by unfold maxLen; omega))
  rw [hf] at H3
  have hp := formed_size hf
  have h45 := first_neg hp
  rw [hn] at h45
  have HR := Hid.mk (fun (u : World) (hu : Tab u) => w_Root a u (by omega) hf hn hu)
  have HF := Hid.mk hf
  clear htab hf hn
  go_enter Tryd.func7, Tryd.ntmps7
  go_wp2_with fail
  refine (w_Known _ HT.out).mono ?_
  rintro e w1 ⟨rfl, hb1⟩
  have HB1 := Hid.mk hb1
  clear hb1
  go_wp2_with fail
  refine (H3.out _).mono ?_
  rintro e w2 ⟨rfl, rfl⟩
  go_wp2_with fail
  refine (HR.out _ (HT.out.keep HB1.out)).mono ?_
  rintro e w3 ⟨r, rfl, r1, r2, r3, r4, r5⟩
  have HB3 := Hid.mk (below_more HB1.out r5)
  have hrp := formed_size r1
  have hr45 := first_neg hrp
  rw [neg_of_nonneg r1 r2] at hr45
  have hrs : r.size ≤ 1048577 := by
    refine abs_size HF.out r1 ?_ ha
    have : Pl.ival r.data.toList ≤ Pl.ival r.data.toList * Pl.ival r.data.toList := by
      rcases Int.lt_or_eq_of_le r2 with h | h
      · have := Int.mul_le_mul_of_nonneg_left (show 1 ≤ Pl.ival r.data.toList by omega) r2
        omega
      · rw [← h]; decide
    omega
  have HQ := Hid.mk (And.intro r1 (And.intro r2 (And.intro r3 r4)))
  have H4 : Hid (∀ (u : World), Calls Tryd.prog 15 #[.string r] u fun e w' => e = .returned (.bool true) ∧ Below u.heap.size u w') := by
    intro u
    have := w_Formed r u (by unfold maxLen; omega)
    rw [r1] at this
    exact this
  clear r1 r2 r3 r4 r5
  go_wp2_with fail
  refine (H4.out _).mono ?_
  rintro e w4 ⟨rfl, hb4⟩
  have HB4 := Hid.mk (below_more HB3.out hb4)
  clear hb4
  go_wp2_with fail
  refine (w_lsum r ⟨#[49]⟩ _ (by omega) (by decide) HQ.out.1 (by decide) (HT.out.keep HB4.out)).mono ?_
  rintro e w5 ⟨n, rfl, n1, n2, n3⟩
  have HB5 := Hid.mk (below_more HB4.out n3)
  have hns : n.size ≤ 1048579 := add_size HQ.out.1 (by decide) n1 n2 hrs (by decide)
  have HN := Hid.mk (And.intro n1 n2)
  clear n1 n2 n3
  go_wp2_with fail
  refine (w_lproduct r r _ (by omega) (by omega) HQ.out.1 HQ.out.1 (HT.out.keep HB5.out)).mono ?_
  rintro e w6 ⟨p, rfl, p1, p2, p3⟩
  have HB6 := Hid.mk (below_more HB5.out p3)
  have hps : p.size ≤ 1048577 + 1048577 + 1 := mul_size HQ.out.1 HQ.out.1 p1 p2 hrs hrs
  have HP := Hid.mk (And.intro p1 p2)
  clear p1 p2 p3
  have H5 : Hid (∀ (u : World), Calls Tryd.prog 17 #[.string p, .string a] u fun e w' => (∃ x, e = .returned (.tuple #[.int .i64 x, .int .i64 0]) ∧ x ≤ 0) ∧ Below u.heap.size u w') := by
    intro u
    refine (w_CmpF p a u (by omega) (by omega) HP.out.1 HF.out).mono ?_
    rintro e w' ⟨rfl, h⟩
    refine ⟨⟨_, rfl, ?_⟩, h⟩
    rw [HP.out.2]
    unfold Pl.cmpI
    have := HQ.out.2.2.1
    split
    · decide
    · split
      · omega
      · decide
  go_wp2_with fail
  refine (H5.out _).mono ?_
  rintro e w7 ⟨⟨x, rfl, hx⟩, hb7⟩
  have HB7 := Hid.mk (below_more HB6.out hb7)
  clear hb7
  go_wp2_with fail
  refine (w_lproduct n n _ (by omega) (by omega) HN.out.1 HN.out.1 (HT.out.keep HB7.out)).mono ?_
  rintro e w8 ⟨m, rfl, m1, m2, m3⟩
  have HB8 := Hid.mk (below_more HB7.out m3)
  have hms : m.size ≤ 1048579 + 1048579 + 1 := mul_size HN.out.1 HN.out.1 m1 m2 hns hns
  have HM := Hid.mk (And.intro m1 m2)
  clear m1 m2 m3
  have H6 : Hid (∀ (u : World), Calls Tryd.prog 17 #[.string m, .string a] u fun e w' => e = .returned (.tuple #[.int .i64 1, .int .i64 0]) ∧ Below u.heap.size u w') := by
    intro u
    refine (w_CmpF m a u (by omega) (by omega) HM.out.1 HF.out).mono ?_
    rintro e w' ⟨rfl, h⟩
    refine ⟨?_, h⟩
    have e1 : Pl.ival n.data.toList = Pl.ival r.data.toList + 1 := HN.out.2
    have h4 := HQ.out.2.2.2
    have e2 : Pl.cmpI (Pl.ival m.data.toList) (Pl.ival a.data.toList) = 1 := by
      rw [HM.out.2, e1]
      unfold Pl.cmpI
      rw [if_neg (by omega), if_pos h4]
    rw [e2]
  go_wp2_with fail
  refine (H6.out _).mono ?_
  rintro e w9 ⟨rfl, hb9⟩
  have HB9 := Hid.mk (below_more HB8.out hb9)
  clear hb9
  go_wp2_with fail
  go_ret
  exact ⟨rfl, HB9.out⟩

theorem w_Roots (a : ByteArray) (w : World) (ha : a.size ≤ 1048576) (htab : Tab w) :
    Calls Tryd.prog 7 #[.string a] w fun e w' => e = .returned (.bool true) ∧ Below w.heap.size w w' := by
  cases hf : Pl.formed a.data.toList with
  | false => exact w_Roots_bad a w ha htab hf
  | true =>
    cases hn : Pl.neg a.data.toList with
    | true => exact w_Roots_neg a w ha htab hf hn
    | false => exact w_Roots_at a w ha htab hf hn
end Go.Proofs.YtgnaeddpdomgkabDoor
