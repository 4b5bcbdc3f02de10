import Derived.Test.YtcpnodkcnblkdaaGreatDoorM34
namespace Go.Proofs.YtcpnodkcnblkdaaGreatDoor
open Go.RowKit
set_option linter.unusedVariables false
set_option linter.unusedSimpArgs false

def blk : Nat → List UInt8
  | 0 => []
  | n + 1 => blk n ++ [cBl.getD (n % 4) 0]
theorem dropw_all (p : UInt8 → Bool) : ∀ x y : List UInt8, (∀ c ∈ x, p c = true) → (x ++ y).dropWhile p = y.dropWhile p := by
  intro x
  induction x with
  | nil => intro y _; rfl
  | cons c x ih =>
    intro y h
    rw [List.cons_append, List.dropWhile_cons, if_pos (h c (List.mem_cons_self ..))]
    exact ih y fun d hd => h d (List.mem_cons_of_mem _ hd)

end Go.Proofs.YtcpnodkcnblkdaaGreatDoor
namespace Go.Proofs.YtcpnodkcnblkdaaGreatDoor
open Go.RowKit
set_option linter.unusedVariables false
set_option linter.unusedSimpArgs false

theorem beh_end {l : List UInt8} {p : Nat} {cs : List UInt8} (hp : l.length ≤ p) : behL l p cs = l.length := by
  unfold behL
  rw [List.drop_eq_nil_of_le hp]
  rfl
def AhS (l : List UInt8) (p : Nat) (pre : List Tok) : Prop := p ≤ l.length ∧ (∀ t ∈ pre, t.err = 0) ∧ ∃ f, l.length - behL l p cBl < f ∧ allY l = pre ++ restY l f (behL l p cBl)
theorem AhS.start (l : List UInt8) : AhS l 0 [] := ⟨Nat.zero_le _, (fun t h => absurd h (List.not_mem_nil)), l.length + 1, by omega, rfl⟩
theorem AhS.done {l : List UInt8} {p : Nat} {pre : List Tok} (h : AhS l p pre) (hp : ¬ p < l.length) : allY l = pre := by
  obtain ⟨_, h1, f, h2, h3⟩ := h
  rw [beh_end (by omega)] at h2 h3
  cases f with
  | zero => omega
  | succ f => rw [restY, if_neg (by omega), List.append_nil] at h3; exact h3
end Go.Proofs.YtcpnodkcnblkdaaGreatDoor
namespace Go.Proofs.YtcpnodkcnblkdaaGreatDoor
open Go.RowKit
set_option linter.unusedVariables false
set_option linter.unusedSimpArgs false

set_option maxRecDepth 100000 in
theorem digit_tab (c : UInt8) : cDg.contains c = decide (48 ≤ c.toNat ∧ c.toNat ≤ 57) := by
  have : ∀ m : Fin 256, cDg.contains (UInt8.ofNat m.val) = decide (48 ≤ m.val ∧ m.val ≤ 57) := by decide +kernel
  have h := this ⟨c.toNat, c.toNat_lt⟩
  simp only [UInt8.ofNat_toNat] at h
  exact h
end Go.Proofs.YtcpnodkcnblkdaaGreatDoor
