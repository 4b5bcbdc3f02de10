import Derived.Test.YtohclfgghobldaaGreatDoorM28
import Derived.Test.YtohclfgghobldaaGreatDoorM29
import Derived.Test.YtohclfgghobldaaGreatDoorM32
import Derived.Test.YtohclfgghobldaaGreatDoorM33
import Derived.Test.YtohclfgghobldaaGreatDoorM30
import Derived.Test.YtohclfgghobldaaGreatDoorM20
import Derived.Lib.AppendStr
import Derived.BigQuiet
namespace Go.Proofs.YtohclfgghobldaaGreatDoor
open Go.RowKit
set_option linter.unusedVariables false
set_option linter.unusedSimpArgs false

theorem rpc_up {l : List UInt8} : ∀ (f i : Nat) (acc : List Nat), i ≤ l.length → l.length - i < f → rpc l (f + 1) i acc = rpc l f i acc := by
  intro f
  induction f with
  | zero => intro i acc _ h; omega
  | succ f ih =>
    intro i acc hi hf
    have e : ∀ g, rpc l (g + 1) i acc = if i < l.length then
      if (l.getD i 0).toNat = 34 then (acc, i + 1, true, 0)
      else if inwB l i = true then (acc, i + 2, false, 0)
      else if (l.getD i 0).toNat = 92 then (if (escL l i).2.2 = 0 then rpc l g (escL l i).2.1 (acc ++ [(escL l i).1]) else ([], i, false, (escL l i).2.2))
      else if (l.getD i 0).toNat < 32 then ([], i, false, 22)
      else if strayL (l.drop i) = true then ([], i, false, 20)
      else rpc l g (i + (decL (l.drop i)).2) (acc ++ [(decL (l.drop i)).1])
    else ([], l.length, false, 21) := fun g => rfl
    rw [e (f + 1), e f]
    by_cases h1 : i < l.length
    · have hd := decL_pos (l.drop i)
      have hdl := decL_le (l.drop i) (fun e => by have := congrArg List.length e; rw [List.length_drop] at this; simp at this; omega)
      rw [List.length_drop] at hdl
      by_cases h5 : (escL l i).2.2 = 0
      · obtain ⟨g1, g2, _⟩ := escL_ok h5
        rw [ih _ _ g2 (by omega), ih _ _ (by omega) (by omega)]
      · rw [if_neg h5, if_neg h5, ih _ _ (by omega) (by omega)]
    · rw [if_neg h1, if_neg h1]
theorem rpc_more {l : List UInt8} {i : Nat} {acc : List Nat} (hi : i ≤ l.length) : ∀ (k f : Nat), l.length - i < f → rpc l (f + k) i acc = rpc l f i acc := by
  intro k
  induction k with
  | zero => intro f _; rfl
  | succ k ih => intro f h; rw [show f + (k + 1) = (f + k) + 1 by omega, rpc_up _ _ _ hi (by omega)]; exact ih f h
theorem rpc_any {l : List UInt8} {i f g : Nat} {acc : List Nat} (hi : i ≤ l.length) (hf : l.length - i < f) (hg : l.length - i < g) : rpc l f i acc = rpc l g i acc := by
  rcases Nat.le_total f g with h | h
  · rw [show g = f + (g - f) by omega, rpc_more hi _ _ hf]
  · rw [show f = g + (f - g) by omega, rpc_more hi _ _ hg]
theorem rpc_def {l : List UInt8} {i : Nat} {acc : List Nat} (h : i < l.length) : rpc l (l.length + 1) i acc = if (l.getD i 0).toNat = 34 then (acc, i + 1, true, 0)
      else if inwB l i = true then (acc, i + 2, false, 0)
      else if (l.getD i 0).toNat = 92 then (if (escL l i).2.2 = 0 then rpc l (l.length + 1) (escL l i).2.1 (acc ++ [(escL l i).1]) else ([], i, false, (escL l i).2.2))
      else if (l.getD i 0).toNat < 32 then ([], i, false, 22)
      else if strayL (l.drop i) = true then ([], i, false, 20)
      else rpc l (l.length + 1) (i + (decL (l.drop i)).2) (acc ++ [(decL (l.drop i)).1]) := by
  have hd := decL_pos (l.drop i)
  have hdl := decL_le (l.drop i) (fun e => by have := congrArg List.length e; rw [List.length_drop] at this; simp at this; omega)
  rw [List.length_drop] at hdl
  rw [rpc, if_pos h]
  by_cases h5 : (escL l i).2.2 = 0
  · obtain ⟨g1, g2, _⟩ := escL_ok h5
    rw [rpc_any (g := l.length + 1) g2 (by omega) (by omega), rpc_any (f := l.length) (g := l.length + 1) (i := i + (decL (l.drop i)).2) (by omega) (by omega) (by omega)]
  · rw [if_neg h5, if_neg h5, rpc_any (f := l.length) (g := l.length + 1) (i := i + (decL (l.drop i)).2) (by omega) (by omega) (by omega)]
theorem rpc_out {l : List UInt8} {i : Nat} {acc : List Nat} (h : ¬ i < l.length) : rpc l (l.length + 1) i acc = ([], l.length, false, 21) := by rw [rpc, if_neg h]
/-- the first of a text's pieces -/
theorem prow_first (t : ByteArray) (n : Nat) (hn : 0 < n) : ∃ r, prow t n = [.int .i64 ((off t.data.toList 0 : Nat) : Int), .int .i64 ((off t.data.toList 0 + (decL (t.data.toList.drop (off t.data.toList 0))).2 : Nat) : Int), .int .i64 ((decL (t.data.toList.drop (off t.data.toList 0))).1 : Int), .bool (strayL (t.data.toList.drop (off t.data.toList 0)))] ++ r := by
  obtain ⟨m, rfl⟩ : ∃ m, n = m + 1 := ⟨n - 1, by omega⟩
  unfold prow
  rw [List.range_succ_eq_map, List.flatMap_cons]
  exact ⟨_, rfl⟩
end Go.Proofs.YtohclfgghobldaaGreatDoor
