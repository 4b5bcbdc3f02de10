import Derived.Test.YtfjmgccbpiolhaaGreatDoorM35
namespace Go.Proofs.YtfjmgccbpiolhaaGreatDoor
open Go.RowKit
set_option linter.unusedVariables false
set_option linter.unusedSimpArgs false

theorem beh_stop {l : List UInt8} {p : Nat} {cs : List UInt8} (hp : p < l.length) (hc : cs.contains (l.getD p 0) = false) : behL l p cs = p := by
  have e : l.drop p = l.getD p 0 :: l.drop (p + 1) := by
    rw [List.drop_eq_getElem_cons hp]; simp [List.getD, hp]
  unfold behL
  rw [e, List.dropWhile_cons, if_neg (by rw [hc]; decide), List.length_cons, List.length_drop]
  omega
theorem beh_end {l : List UInt8} {p : Nat} {cs : List UInt8} (hp : l.length ≤ p) : behL l p cs = l.length := by
  unfold behL
  rw [List.drop_eq_nil_of_le hp]
  rfl
def AhS (l : List UInt8) (p : Nat) (pre : List Tok) : Prop := p ≤ l.length ∧ (∀ t ∈ pre, t.err = 0) ∧ ∃ f, l.length - behL l p cBl < f ∧ allY l = pre ++ restY l f (behL l p cBl)
theorem AhS.start (l : List UInt8) : AhS l 0 [] := ⟨Nat.zero_le _, (fun t h => absurd h (List.not_mem_nil)), l.length + 1, by omega, rfl⟩
theorem AhS.done {l : List UInt8} {p : Nat} {pre : List Tok} (h : AhS l p pre) (hp : ¬ p < l.length) : allY l = pre := by
  obtain ⟨_, h1, f, h2, h3⟩ := h
  rw [beh_end (by omega)] at h2 h3
  cases f with
  | zero => omega
  | succ f => rw [restY, if_neg (by omega), List.append_nil] at h3; exact h3
theorem AhS.tok {l : List UInt8} {p : Nat} {pre : List Tok} (h : AhS l p pre) (hp : p < l.length) (hc : cBl.contains (l.getD p 0) = false) (he : (nextT l p).err = 0) : p < (nextT l p).fin ∧ AhS l (nextT l p).fin (pre ++ [nextT l p]) := by
  obtain ⟨_, h1, f, h2, h3⟩ := h
  rw [beh_stop hp hc] at h2 h3
  obtain ⟨u1, u2⟩ := nextT_up hp he
  have hb := behL_ge (l := l) (p := (nextT l p).fin) cBl u2
  refine ⟨u1, u2, ?_, ?_⟩
  · intro t ht
    rcases List.mem_append.1 ht with h | h
    · exact h1 t h
    · rw [List.mem_singleton.1 h]; exact he
  · cases f with
    | zero => omega
    | succ f =>
      rw [restY, if_pos hp, if_pos he] at h3
      exact ⟨f, by omega, by rw [h3]; simp⟩
end Go.Proofs.YtfjmgccbpiolhaaGreatDoor
namespace Go.Proofs.YtfjmgccbpiolhaaGreatDoor
open Go.RowKit
set_option linter.unusedVariables false
set_option linter.unusedSimpArgs false

set_option maxRecDepth 100000 in
theorem digit_tab (c : UInt8) : cDg.contains c = decide (48 ≤ c.toNat ∧ c.toNat ≤ 57) := by
  have : ∀ m : Fin 256, cDg.contains (UInt8.ofNat m.val) = decide (48 ≤ m.val ∧ m.val ≤ 57) := by decide +kernel
  have h := this ⟨c.toNat, c.toNat_lt⟩
  simp only [UInt8.ofNat_toNat] at h
  exact h
def mkN (c : UInt8) : Nat := if cMk.contains c = true then (1 + Lib.indexByte cMk c).toNat else 0
set_option maxRecDepth 100000 in
theorem mk_tab (c : UInt8) : mkN c = if c.toNat = 123 then 1 else if c.toNat = 125 then 2 else if c.toNat = 91 then 3 else if c.toNat = 93 then 4 else if c.toNat = 58 then 5 else if c.toNat = 44 then 6 else 0 := by
  have : ∀ m : Fin 256, mkN (UInt8.ofNat m.val) = if m.val = 123 then 1 else if m.val = 125 then 2 else if m.val = 91 then 3 else if m.val = 93 then 4 else if m.val = 58 then 5 else if m.val = 44 then 6 else 0 := by decide +kernel
  have h := this ⟨c.toNat, c.toNat_lt⟩
  simp only [UInt8.ofNat_toNat] at h
  exact h
end Go.Proofs.YtfjmgccbpiolhaaGreatDoor
