import Derived.Test.YtgnaeddpdomgkabDoorTen12
namespace Go.Proofs.YtgnaeddpdomgkabDoor
open Go.RowKit
set_option linter.unusedVariables false
set_option linter.unusedSimpArgs false

/-- the long division between two places: room in block g, the quotient in block q; k places are still to come -/
structure LongSt (w0 wr : World) (g q la n : Nat) (V : Nat) (ds : List Nat) (k : Nat) : Prop where
  out : ∃ R qs : List Nat, R.length = la + 1 ∧ Pl.dig 1000000000 R ∧ Row wr g R ∧ qs.length = la - n + 1 - k ∧ Pl.dig 1000000000 qs ∧ Row wr q (List.replicate k 0 ++ qs) ∧ Below g w0 wr ∧ q < wr.heap.size ∧ g < q ∧
    V = Pl.val 1000000000 qs * (1000000000 ^ k * Pl.val 1000000000 ds) + Pl.val 1000000000 R ∧ Pl.val 1000000000 R < 1000000000 ^ k * Pl.val 1000000000 ds

/-- the window at place i -/
theorem long_open {w0 wr : World} {g q la n V : Nat} {ds : List Nat} {i : Nat} (h : LongSt w0 wr g q la n V ds (i + 1)) (hn : ds.length = n) (hdd : Pl.dig 1000000000 ds) (hi : i + n ≤ la) :
    ∃ pre ws post qs : List Nat, pre.length = i ∧ ws.length = n + 1 ∧ Pl.dig 1000000000 pre ∧ Pl.dig 1000000000 ws ∧ Pl.dig 1000000000 post ∧ Pl.val 1000000000 post = 0 ∧ (pre ++ ws ++ post).length = la + 1 ∧ Row wr g (pre ++ ws ++ post) ∧ qs.length = la - n + 1 - (i + 1) ∧ Pl.dig 1000000000 qs ∧ Row wr q (List.replicate (i + 1) 0 ++ qs) ∧ Below g w0 wr ∧ q < wr.heap.size ∧ g < q ∧
    V = Pl.val 1000000000 qs * (1000000000 ^ (i + 1) * Pl.val 1000000000 ds) + (Pl.val 1000000000 pre + 1000000000 ^ i * Pl.val 1000000000 ws) ∧ Pl.val 1000000000 ws < Pl.val 1000000000 ds * 1000000000 := by
  obtain ⟨R, qs, hRl, hRd, hRow, hql, hqd, hqRow, hb, hqs, hgq, hV, hlt⟩ := h.out
  have e : R = R.take i ++ (R.drop i).take (n + 1) ++ (R.drop i).drop (n + 1) := by
    rw [List.append_assoc, List.take_append_drop, List.take_append_drop]
  have hpl : (R.take i).length = i := by simp; omega
  have hwl : ((R.drop i).take (n + 1)).length = n + 1 := by simp; omega
  have hv : Pl.val 1000000000 R = Pl.val 1000000000 (R.take i) + 1000000000 ^ i * (Pl.val 1000000000 ((R.drop i).take (n + 1)) + 1000000000 ^ (n + 1) * Pl.val 1000000000 ((R.drop i).drop (n + 1))) := by
    conv => lhs; rw [e]
    rw [List.append_assoc, Pl.val_append, Pl.val_append, hpl, hwl]
  have hDlt := Pl.val_lt hdd
  rw [hn] at hDlt
  have hz : Pl.val 1000000000 ((R.drop i).drop (n + 1)) = 0 := by
    rcases Nat.eq_zero_or_pos (Pl.val 1000000000 ((R.drop i).drop (n + 1))) with h0 | h0
    · exact h0
    · exfalso
      exact Pl.long_zero (by decide) hv hlt hDlt h0
  rw [hz, Nat.mul_zero, Nat.add_zero] at hv
  refine ⟨R.take i, (R.drop i).take (n + 1), (R.drop i).drop (n + 1), qs, hpl, hwl, Pl.dig_take _ hRd, Pl.dig_take _ (Pl.dig_drop _ hRd), Pl.dig_drop _ (Pl.dig_drop _ hRd), hz, by rw [← e]; exact hRl, by rw [← e]; exact hRow, hql, hqd, hqRow, hb, hqs, hgq, by rw [← hv]; exact hV, ?_⟩
  exact Pl.long_small hv hlt

/-- behind a place: its digit q, what is left of the window -/
theorem long_shut {w0 wr : World} {g q la n V : Nat} {ds pre ws ws' post qs : List Nat} {i x : Nat} (hn : ds.length = n) (hi : i + n ≤ la) (hpl : pre.length = i) (hwl' : ws'.length = n + 1) (hdp : Pl.dig 1000000000 pre) (hdw' : Pl.dig 1000000000 ws') (hdpost : Pl.dig 1000000000 post) (hpost : Pl.val 1000000000 post = 0) (hwl : ws.length = n + 1) (hlen : (pre ++ ws ++ post).length = la + 1)
    (hrow : Row wr g (pre ++ ws' ++ post)) (hql : qs.length = la - n + 1 - (i + 1)) (hqd : Pl.dig 1000000000 qs) (hx : x < 1000000000) (hqRow : Row wr q (List.replicate i 0 ++ (x :: qs))) (hb : Below g w0 wr) (hqs : q < wr.heap.size) (hgq : g < q)
    (hV : V = Pl.val 1000000000 qs * (1000000000 ^ (i + 1) * Pl.val 1000000000 ds) + (Pl.val 1000000000 pre + 1000000000 ^ i * Pl.val 1000000000 ws)) (hW : Pl.val 1000000000 ws = x * Pl.val 1000000000 ds + Pl.val 1000000000 ws') (hlt : Pl.val 1000000000 ws' < Pl.val 1000000000 ds) : LongSt w0 wr g q la n V ds i := by
  have hv : Pl.val 1000000000 (pre ++ ws' ++ post) = Pl.val 1000000000 pre + 1000000000 ^ i * Pl.val 1000000000 ws' := by
    rw [List.append_assoc, Pl.val_append, Pl.val_append, hpost, hpl]; simp
  refine ⟨pre ++ ws' ++ post, x :: qs, ?_, Pl.dig_append.2 ⟨Pl.dig_append.2 ⟨hdp, hdw'⟩, hdpost⟩, hrow, by simp [hql]; omega, Pl.dig_cons.2 ⟨hx, hqd⟩, hqRow, hb, hqs, hgq, ?_, ?_⟩
  · simp at hlen ⊢; omega
  · rw [hv, Pl.val_cons]; exact Pl.div_step hV hW
  · rw [hv]
    have a := Pl.val_lt hdp
    rw [hpl] at a
    exact Pl.long_less a hlt
end Go.Proofs.YtgnaeddpdomgkabDoor
