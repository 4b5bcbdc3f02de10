import Derived.Test.YtgnaeddpdomgkaaWalk9
import Derived.Test.YtgnaeddpdomgkaaWalk5
import Derived.Test.YtgnaeddpdomgkaaWalk4
import Derived.Test.YtgnaeddpdomgkaaOrder
namespace Go.Proofs.Ytgnaeddpdomgkaa
open Go.RowKit
set_option linter.unusedVariables false
set_option linter.unusedSimpArgs false

theorem formed_size {s : ByteArray} (h : Pl.formed s.data.toList = true) (f : Nat) (hf : f = if Pl.neg s.data.toList then 1 else 0) : f < s.size := by
  have h1 := Pl.canon_len (Pl.formed_canon h)
  rw [Pl.body_drop s f hf] at h1
  simp at h1
  omega

theorem w_read (s : ByteArray) (w : World) (hs : s.size * 8 ≤ 140737488355328) (h : Pl.formed s.data.toList = true) :
    Calls Try.prog 11 #[.string s] w fun e w' => ∃ v, e = .returned (.agg #[.bool (Pl.neg s.data.toList), v]) ∧ Nums .i64 w' v (Pl.trimN (Pl.digs (Pl.body s.data.toList))) ∧ Below w.heap.size w w' := by
  obtain ⟨f, hf⟩ : ∃ f, f = if Pl.neg s.data.toList then 1 else 0 := ⟨_, rfl⟩
  have hd := (Pl.all_drop s f).1 (by rw [← Pl.body_drop s f hf]; exact Pl.canon_dig (Pl.formed_canon h))
  have hn : Pl.neg s.data.toList = decide (f = 1) := by rw [hf]; cases Pl.neg s.data.toList <;> rfl
  refine (w_read_f s w hs f (by rw [hf]; split <;> omega) hf (formed_size h f hf) hd _ rfl).mono ?_
  rintro e w1 ⟨v, rfl, hnum, hb⟩
  rw [← Pl.body_drop s f hf] at hnum ⊢
  rw [← hn, Pl.neg_trim h]
  exact ⟨v, rfl, hnum, hb⟩

set_option maxHeartbeats 800000 in
theorem w_rCmp (a b : ByteArray) (w : World) (ha : a.size * 8 ≤ 140737488355328) (hb : b.size * 8 ≤ 140737488355328) :
    Calls Try.prog 5 #[.string a, .string b] w fun e w' => e = .returned (.tuple #[.int .i64 (Pl.cmpN a.data.toList b.data.toList), .int .i64 (Pl.errN a.data.toList b.data.toList)]) ∧ Below w.heap.size w w' := by
  have hma : a.size ≤ maxLen := by unfold maxLen; omega
  have hmb : b.size ≤ maxLen := by unfold maxLen; omega
  go_enter Try.func5, Try.ntmps5
  go_wp2_with fail
  refine (w_rFormed a _ hma).mono ?_
  rintro e w1 ⟨rfl, rfl⟩
  cases h1 : Pl.formed a.data.toList with
  | false =>
    have HC : Hid (Pl.cmpN a.data.toList b.data.toList = 0 ∧ Pl.errN a.data.toList b.data.toList = 1) := by show _ ∧ _; simp [Pl.cmpN, Pl.errN, h1]
    clear h1
    go_wp2_with fail
    go_ret2
    exact ⟨by rw [HC.out.1, HC.out.2]; rfl, Below.refl _ _⟩
  | true =>
    go_wp2_with fail
    refine (w_rFormed b _ hmb).mono ?_
    rintro e w2 ⟨rfl, rfl⟩
    cases h2 : Pl.formed b.data.toList with
    | false =>
      have HC : Hid (Pl.cmpN a.data.toList b.data.toList = 0 ∧ Pl.errN a.data.toList b.data.toList = 1) := by show _ ∧ _; simp [Pl.cmpN, Pl.errN, h2]
      clear h1 h2
      go_wp2_with fail
      go_ret2
      exact ⟨by rw [HC.out.1, HC.out.2]; rfl, Below.refl _ _⟩
    | true =>
      have HE : Hid (Pl.errN a.data.toList b.data.toList = 0) := by show _ = _; simp [Pl.errN, h1, h2]
      have HC := Hid.mk (Pl.order_val h1 h2)
      have HF1 := Hid.mk h1
      have HF2 := Hid.mk h2
      clear h1 h2
      go_wp2_with fail
      refine (w_read a _ ha HF1.out).mono ?_
      rintro e w3 ⟨va, rfl, hna, hb3⟩
      have hva := hna
      obtain ⟨ao, cap, hv, q1, q2⟩ := hva
      clear q1 q2
      subst hv
      go_wp2_with fail
      refine (w_read b _ hb HF2.out).mono ?_
      rintro e w4 ⟨vb, rfl, hnb, hb4⟩
      have hvb := hnb
      obtain ⟨ao2, cap2, hv, q1, q2⟩ := hvb
      clear q1 q2
      subst hv
      go_wp2_with fail
      refine (w_order _ _ _ _ _ _ _ (hna.keep hb4) hnb ?_ ?_ 10 (by decide) (Pl.dig_trim (Pl.digs_dig _ (Pl.canon_dig (Pl.formed_canon HF1.out)))) (Pl.dig_trim (Pl.digs_dig _ (Pl.canon_dig (Pl.formed_canon HF2.out)))) (Pl.top_trim _) (Pl.top_trim _)).mono ?_
      · exact Nat.le_trans (Pl.trim_len _) (by rw [Pl.digs_length]; exact Nat.le_trans (Pl.body_le a) hma)
      · exact Nat.le_trans (Pl.trim_len _) (by rw [Pl.digs_length]; exact Nat.le_trans (Pl.body_le b) hmb)
      rintro e w5 ⟨rfl, hb5⟩
      rw [HC.out]
      go_wp2_with fail
      go_ret2
      exact ⟨by rw [HE.out]; rfl, (hb3.trans (hb4.mono hb3.size)).trans (hb5.mono (Nat.le_trans hb3.size hb4.size))⟩

theorem lit21 : Pl.cmpN [50] [49] = 1 ∧ Pl.errN [50] [49] = 0 := by decide

set_option maxHeartbeats 800000 in
theorem w_TensOrder (a b : ByteArray) (w : World) (ha : a.size * 8 ≤ 140737488355328) (hb : b.size * 8 ≤ 140737488355328) :
    Calls Try.prog 3 #[.string a, .string b] w fun e w' => e = .returned (.bool true) ∧ Below w.heap.size w w' := by
  have hma : a.size ≤ maxLen := by unfold maxLen; omega
  have hmb : b.size ≤ maxLen := by unfold maxLen; omega
  have b1 := Pl.cmpN_bd a.data.toList b.data.toList
  have b2 := Pl.errN_bd a.data.toList b.data.toList
  obtain ⟨b11, b12⟩ := b1
  obtain ⟨b21, b22⟩ := b2
  go_enter Try.func3, Try.ntmps3
  go_wp2_with fail
  refine (w_Cmp a b _ hma hmb).mono ?_
  rintro e w1 ⟨rfl, hb1⟩
  go_wp2_with fail
  refine (w_rCmp a b _ ha hb).mono ?_
  rintro e w2 ⟨rfl, hb2⟩
  go_wp2_with fail
  refine (w_Cmp ⟨#[50]⟩ ⟨#[49]⟩ _ (by decide) (by decide)).mono ?_
  rintro e w3 ⟨rfl, hb3⟩
  rw [show Pl.cmpN (⟨#[50]⟩ : ByteArray).data.toList (⟨#[49]⟩ : ByteArray).data.toList = 1 from lit21.1, show Pl.errN (⟨#[50]⟩ : ByteArray).data.toList (⟨#[49]⟩ : ByteArray).data.toList = 0 from lit21.2]
  generalize Pl.cmpN a.data.toList b.data.toList = x at *
  generalize Pl.errN a.data.toList b.data.toList = y at *
  have hx : (x == x) = true := by simp
  have hy : (y == y) = true := by simp
  go_wp2_with fail
  go_ret
  exact ⟨rfl, (hb1.trans (hb2.mono hb1.size)).trans (hb3.mono (Nat.le_trans hb1.size hb2.size))⟩
end Go.Proofs.Ytgnaeddpdomgkaa
