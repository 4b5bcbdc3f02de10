import Derived.Test.YthcohnnikmpjkaaWalk3
namespace Go.Proofs.Ythcohnnikmpjkaa
open Go.RowKit
set_option linter.unusedVariables false
set_option linter.unusedSimpArgs false

theorem ret_two_int {a b : Int} {v : Value} (h : a = b) : Ending.returned (.tuple #[.int .i64 a, v]) = .returned (.tuple #[.int .i64 b, v]) := by rw [h]

set_option maxHeartbeats 800000 in
theorem w_Cmp (a b : ByteArray) (w : World) (ha : a.size ≤ maxLen) (hb : b.size ≤ maxLen) :
    Calls Try.prog 94 #[.string a, .string b] w fun e w' => e = .returned (.tuple #[.int .i64 (Pl.cmpN a.data.toList b.data.toList), .int .i64 (Pl.errN a.data.toList b.data.toList)]) ∧ Below w.heap.size w w' := by
  go_enter Try.func94, Try.ntmps94
  go_wp2_with fail
  refine (w_Formed a _ ha).mono ?_
  rintro e w1 ⟨rfl, hb1⟩
  cases h1 : Pl.formed a.data.toList with
  | false =>
    have HC : Hid (Pl.cmpN a.data.toList b.data.toList = 0 ∧ Pl.errN a.data.toList b.data.toList = 1) := by show _ ∧ _; simp [Pl.cmpN, Pl.errN, h1]
    clear h1
    go_wp2_with fail
    go_ret2
    exact ⟨by rw [HC.out.1, HC.out.2]; rfl, hb1⟩
  | true =>
    go_wp2_with fail
    refine (w_Formed b _ hb).mono ?_
    rintro e w2 ⟨rfl, hb2⟩
    have hb3 : Below w.heap.size w w2 := hb1.trans (hb2.mono hb1.size)
    cases h2 : Pl.formed b.data.toList with
    | false =>
      have HC : Hid (Pl.cmpN a.data.toList b.data.toList = 0 ∧ Pl.errN a.data.toList b.data.toList = 1) := by show _ ∧ _; simp [Pl.cmpN, Pl.errN, h2]
      clear h1 h2
      go_wp2_with fail
      go_ret2
      exact ⟨by rw [HC.out.1, HC.out.2]; rfl, hb3⟩
    | true =>
      have HE : Hid (Pl.errN a.data.toList b.data.toList = 0) := by show _ = _; simp [Pl.errN, h1, h2]
      have HC : Hid (Pl.cmpN a.data.toList b.data.toList = if Pl.neg a.data.toList then (if Pl.neg b.data.toList then Pl.cmpT (Pl.body b.data.toList) (Pl.body a.data.toList) else -1) else if Pl.neg b.data.toList then 1 else Pl.cmpT (Pl.body a.data.toList) (Pl.body b.data.toList)) := by show _ = _; simp [Pl.cmpN, h1, h2]
      clear h1 h2
      go_wp2_with fail
      refine (w_cutMinus a _ ha).mono ?_
      rintro e w3 ⟨ra, rfl, hra, hsa, hb4⟩
      have HRA := Hid.mk hra
      clear hra
      go_wp2_with fail
      refine (w_cutMinus b _ hb).mono ?_
      rintro e w4 ⟨rb, rfl, hrb, hsb, hb5⟩
      have HRB := Hid.mk hrb
      clear hrb
      have hb6 : Below w.heap.size w w4 := (hb3.trans (hb4.mono hb3.size)).trans (hb5.mono (Nat.le_trans hb3.size hb4.size))
      cases hna : Pl.neg a.data.toList <;> cases hnb : Pl.neg b.data.toList
      · have HC' : Hid (Pl.cmpN a.data.toList b.data.toList = Pl.cmpT (Pl.body a.data.toList) (Pl.body b.data.toList)) := by show _ = _; rw [HC.out, hna, hnb]; rfl
        clear HC hna hnb
        go_wp2_with fail
        refine (w_compareTexts ra rb _ (by omega) (by omega)).mono ?_
        rintro e w5 ⟨rfl, hb7⟩
        go_wp2_with fail
        go_ret2
        exact ⟨by rw [HC'.out, HE.out, ← HRA.out, ← HRB.out, Lib.toList_data, Lib.toList_data]; rfl, hb6.trans (hb7.mono hb6.size)⟩
      · have HC' : Hid (Pl.cmpN a.data.toList b.data.toList = 1) := by show _ = _; rw [HC.out, hna, hnb]; rfl
        clear HC hna hnb
        go_wp2_with fail
        go_ret2
        exact ⟨by rw [HC'.out, HE.out]; rfl, hb6⟩
      · have HC' : Hid (Pl.cmpN a.data.toList b.data.toList = -1) := by show _ = _; rw [HC.out, hna, hnb]; rfl
        clear HC hna hnb
        go_wp2_with fail
        go_ret2
        exact ⟨by rw [HC'.out, HE.out]; rfl, hb6⟩
      · have HC' : Hid (Pl.cmpN a.data.toList b.data.toList = Pl.cmpT (Pl.body b.data.toList) (Pl.body a.data.toList)) := by show _ = _; rw [HC.out, hna, hnb]; rfl
        clear HC hna hnb
        go_wp2_with fail
        refine (w_compareTexts rb ra _ (by omega) (by omega)).mono ?_
        rintro e w5 ⟨rfl, hb7⟩
        go_wp2_with fail
        go_ret2
        exact ⟨by rw [HC'.out, HE.out, ← HRA.out, ← HRB.out, Lib.toList_data, Lib.toList_data]; rfl, hb6.trans (hb7.mono hb6.size)⟩
end Go.Proofs.Ythcohnnikmpjkaa
