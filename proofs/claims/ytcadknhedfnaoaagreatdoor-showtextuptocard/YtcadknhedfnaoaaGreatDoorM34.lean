import Derived.Test.YtcadknhedfnaoaaGreatDoorM19
namespace Go.Proofs.YtcadknhedfnaoaaGreatDoor
open Go.RowKit
set_option linter.unusedVariables false
set_option linter.unusedSimpArgs false

theorem w_CompareInt (a b : Int) (w : World) :
    Calls Tryz.prog 142 #[.int .i64 a, .int .i64 b] w fun e w' => e = .returned (.int .i64 (Pl.cmpI a b)) ∧ w' = w := by
  by_cases h1 : a < b
  · have HX : Hid (Pl.cmpI a b = -1) := by show _ = _; simp [Pl.cmpI, h1]
    go_enter Tryz.func142, Tryz.ntmps142
    go_wp2
    all_goals (go_ret; exact ⟨by rw [HX.out]; rfl, rfl⟩)
  · by_cases h2 : b < a
    · have HX : Hid (Pl.cmpI a b = 1) := by show _ = _; simp [Pl.cmpI, h1, h2]
      go_enter Tryz.func142, Tryz.ntmps142
      go_wp2
      all_goals (go_ret; exact ⟨by rw [HX.out]; rfl, rfl⟩)
    · have HX : Hid (Pl.cmpI a b = 0) := by show _ = _; simp [Pl.cmpI, h1, h2]
      go_enter Tryz.func142, Tryz.ntmps142
      go_wp2
      all_goals (go_ret; exact ⟨by rw [HX.out]; rfl, rfl⟩)

theorem w_CompareString (a b : ByteArray) (w : World) :
    Calls Tryz.prog 143 #[.string a, .string b] w fun e w' => e = .returned (.int .i64 (Pl.cmpS a.toList b.toList)) ∧ w' = w := by
  cases h1 : Op.bytesLess a.toList b.toList with
  | true =>
    have HX : Hid (Pl.cmpS a.toList b.toList = -1) := by show _ = _; simp [Pl.cmpS, h1]
    go_enter Tryz.func143, Tryz.ntmps143
    go_wp2
    all_goals (go_ret; exact ⟨by rw [HX.out]; rfl, rfl⟩)
  | false =>
    cases h2 : (a.toList == b.toList) with
    | false =>
      have HX : Hid (Pl.cmpS a.toList b.toList = 1) := by show _ = _; simp [Pl.cmpS, h1, h2]
      go_enter Tryz.func143, Tryz.ntmps143
      go_wp2
      all_goals (go_ret; exact ⟨by rw [HX.out]; rfl, rfl⟩)
    | true =>
      have HX : Hid (Pl.cmpS a.toList b.toList = 0) := by show _ = _; simp [Pl.cmpS, h1, h2]
      go_enter Tryz.func143, Tryz.ntmps143
      go_wp2
      all_goals (go_ret; exact ⟨by rw [HX.out]; rfl, rfl⟩)

theorem w_Or2 (b : Nat) (x y : Int) (w : World) (hx : w.cell? ⟨b, 0, none⟩ = some (.int .i64 x)) (hy : w.cell? ⟨b, 1, none⟩ = some (.int .i64 y)) :
    Calls Tryz.prog 141 #[.slice (some ⟨b, 0, none⟩) 2 2] w fun e w' => e = .returned (.int .i64 (Pl.orI x y)) ∧ w' = w := by
  by_cases h : x = 0
  · subst h
    by_cases h2 : y = 0
    · subst h2
      have HX : Hid (Pl.orI 0 0 = 0) := rfl
      go_enter Tryz.func141, Tryz.ntmps141
      go_wp2
      refine wp_loop_rounds 3 ?_
      rw [rounds_succ]
      go_wp2
      rw [rounds_succ]
      go_wp2
      rw [rounds_succ]
      go_wp2
      go_ret
      exact ⟨by rw [HX.out]; rfl, rfl⟩
    · have HX : Hid (Pl.orI 0 y = y) := rfl
      have h3 : (y == 0) = false := by simp [h2]
      have h4 : (y != 0) = true := by simp [h2]
      go_enter Tryz.func141, Tryz.ntmps141
      go_wp2
      refine wp_loop_rounds 2 ?_
      rw [rounds_succ]
      go_wp2
      rw [rounds_succ]
      go_wp2
      go_ret
      exact ⟨by rw [HX.out]; rfl, rfl⟩
  · have HX : Hid (Pl.orI x y = x) := by show _ = _; simp [Pl.orI, h]
    have h3 : (x == 0) = false := by simp [h]
    have h4 : (x != 0) = true := by simp [h]
    go_enter Tryz.func141, Tryz.ntmps141
    go_wp2
    refine wp_loop_rounds 1 ?_
    rw [rounds_succ]
    go_wp2
    go_ret
    exact ⟨by rw [HX.out]; rfl, rfl⟩

theorem w_compareTexts (a b : ByteArray) (w : World) (ha : a.size ≤ maxLen) (hb : b.size ≤ maxLen) :
    Calls Tryz.prog 132 #[.string a, .string b] w fun e w' => e = .returned (.int .i64 (Pl.cmpT a.toList b.toList)) ∧ Below w.heap.size w w' := by
  unfold maxLen at ha hb
  go_enter Tryz.func132, Tryz.ntmps132
  go_wp2_with fail
  refine (w_CompareInt _ _ _).mono ?_
  rintro e w' ⟨rfl, rfl⟩
  go_wp2_with fail
  refine (w_CompareString _ _ _).mono ?_
  rintro e w' ⟨rfl, rfl⟩
  have HT : Hid (Pl.cmpT a.toList b.toList = Pl.orI (Pl.cmpI (a.size : Int) (b.size : Int)) (Pl.cmpS a.toList b.toList)) := Pl.cmpT_eq a b
  generalize Pl.cmpI (a.size : Int) (b.size : Int) = x at HT ⊢
  generalize Pl.cmpS a.toList b.toList = y at HT ⊢
  go_wp2_with fail
  refine (w_Or2 w'.heap.size x y _ (by simp) (by simp)).mono ?_
  rintro e w1 ⟨rfl, rfl⟩
  go_wp2
  go_ret
  exact ⟨by rw [HT.out]; rfl, (Below.refl _ _).alloc (Nat.le_refl _) _⟩
end Go.Proofs.YtcadknhedfnaoaaGreatDoor
namespace Go.Proofs.YtcadknhedfnaoaaGreatDoor
open Go.RowKit
set_option linter.unusedVariables false
set_option linter.unusedSimpArgs false

theorem ret_two_int {a b : Int} {v : Value} (h : a = b) : Ending.returned (.tuple #[.int .i64 a, v]) = .returned (.tuple #[.int .i64 b, v]) := by rw [h]

set_option maxHeartbeats 800000 in
theorem w_Cmp (a b : ByteArray) (w : World) (ha : a.size ≤ maxLen) (hb : b.size ≤ maxLen) :
    Calls Tryz.prog 102 #[.string a, .string b] w fun e w' => e = .returned (.tuple #[.int .i64 (Pl.cmpN a.data.toList b.data.toList), .int .i64 (Pl.errN a.data.toList b.data.toList)]) ∧ Below w.heap.size w w' := by
  go_enter Tryz.func102, Tryz.ntmps102
  go_wp2_with fail
  refine (w_Formed a _ ha).mono ?_
  rintro e w1 ⟨rfl, hb1⟩
  cases h1 : Pl.formed a.data.toList with
  | false =>
    have HC : Hid (Pl.cmpN a.data.toList b.data.toList = 0 ∧ Pl.errN a.data.toList b.data.toList = 1) := by show _ ∧ _; simp [Pl.cmpN, Pl.errN, h1]
    clear h1
    go_wp2_with fail
    go_ret2
    exact ⟨by rw [HC.out.1, HC.out.2]; rfl, hb1⟩
  | true =>
    go_wp2_with fail
    refine (w_Formed b _ hb).mono ?_
    rintro e w2 ⟨rfl, hb2⟩
    have hb3 : Below w.heap.size w w2 := hb1.trans (hb2.mono hb1.size)
    cases h2 : Pl.formed b.data.toList with
    | false =>
      have HC : Hid (Pl.cmpN a.data.toList b.data.toList = 0 ∧ Pl.errN a.data.toList b.data.toList = 1) := by show _ ∧ _; simp [Pl.cmpN, Pl.errN, h2]
      clear h1 h2
      go_wp2_with fail
      go_ret2
      exact ⟨by rw [HC.out.1, HC.out.2]; rfl, hb3⟩
    | true =>
      have HE : Hid (Pl.errN a.data.toList b.data.toList = 0) := by show _ = _; simp [Pl.errN, h1, h2]
      have HC : Hid (Pl.cmpN a.data.toList b.data.toList = if Pl.neg a.data.toList then (if Pl.neg b.data.toList then Pl.cmpT (Pl.body b.data.toList) (Pl.body a.data.toList) else -1) else if Pl.neg b.data.toList then 1 else Pl.cmpT (Pl.body a.data.toList) (Pl.body b.data.toList)) := by show _ = _; simp [Pl.cmpN, h1, h2]
      clear h1 h2
      go_wp2_with fail
      refine (w_cutMinus a _ ha).mono ?_
      rintro e w3 ⟨ra, rfl, hra, hsa, hb4⟩
      have HRA := Hid.mk hra
      clear hra
      go_wp2_with fail
      refine (w_cutMinus b _ hb).mono ?_
      rintro e w4 ⟨rb, rfl, hrb, hsb, hb5⟩
      have HRB := Hid.mk hrb
      clear hrb
      have hb6 : Below w.heap.size w w4 := (hb3.trans (hb4.mono hb3.size)).trans (hb5.mono (Nat.le_trans hb3.size hb4.size))
      cases hna : Pl.neg a.data.toList <;> cases hnb : Pl.neg b.data.toList
      · have HC' : Hid (Pl.cmpN a.data.toList b.data.toList = Pl.cmpT (Pl.body a.data.toList) (Pl.body b.data.toList)) := by show _ = _; rw [HC.out, hna, hnb]; rfl
        clear HC hna hnb
        go_wp2_with fail
        refine (w_compareTexts ra rb _ (by omega) (by omega)).mono ?_
        rintro e w5 ⟨rfl, hb7⟩
        go_wp2_with fail
        go_ret2
        exact ⟨by rw [HC'.out, HE.out, ← HRA.out, ← HRB.out, Lib.toList_data, Lib.toList_data]; rfl, hb6.trans (hb7.mono hb6.size)⟩
      · have HC' : Hid (Pl.cmpN a.data.toList b.data.toList = 1) := by show _ = _; rw [HC.out, hna, hnb]; rfl
        clear HC hna hnb
        go_wp2_with fail
        go_ret2
        exact ⟨by rw [HC'.out, HE.out]; rfl, hb6⟩
      · have HC' : Hid (Pl.cmpN a.data.toList b.data.toList = -1) := by show _ = _; rw [HC.out, hna, hnb]; rfl
        clear HC hna hnb
        go_wp2_with fail
        go_ret2
        exact ⟨by rw [HC'.out, HE.out]; rfl, hb6⟩
      · have HC' : Hid (Pl.cmpN a.data.toList b.data.toList = Pl.cmpT (Pl.body b.data.toList) (Pl.body a.data.toList)) := by show _ = _; rw [HC.out, hna, hnb]; rfl
        clear HC hna hnb
        go_wp2_with fail
        refine (w_compareTexts rb ra _ (by omega) (by omega)).mono ?_
        rintro e w5 ⟨rfl, hb7⟩
        go_wp2_with fail
        go_ret2
        exact ⟨by rw [HC'.out, HE.out, ← HRA.out, ← HRB.out, Lib.toList_data, Lib.toList_data]; rfl, hb6.trans (hb7.mono hb6.size)⟩
end Go.Proofs.YtcadknhedfnaoaaGreatDoor
