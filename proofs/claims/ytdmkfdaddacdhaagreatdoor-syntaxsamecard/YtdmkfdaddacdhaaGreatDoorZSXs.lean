import Derived.Test.YtdmkfdaddacdhaaGreatDoorM23
namespace Go.Proofs.YtdmkfdaddacdhaaGreatDoor
open Go.RowKit Go.Shelf
set_option linter.unusedVariables false
set_option linter.unusedSimpArgs false

/-- are they the same? -/
noncomputable def sq {α : Type} (x y : α) : Bool := @decide (x = y) (Classical.propDecidable _)
theorem sq_iff {α : Type} {x y : α} : sq x y = true ↔ x = y := by unfold sq; exact @decide_eq_true_iff (x = y) (Classical.propDecidable _)
theorem sq_no {α : Type} {x y : α} (h : ¬ x = y) : sq x y = false := by
  cases hb : sq x y with
  | false => rfl
  | true => exact absurd (sq_iff.1 hb) h
theorem sq_yes {α : Type} (x : α) : sq x x = true := sq_iff.2 rfl
theorem sq_comm {α : Type} (x y : α) : sq x y = sq y x := by
  by_cases h : x = y
  · rw [h]
  · rw [sq_no h, sq_no (fun e => h e.symm)]
mutual
/-- a filter without its places -/
def noA : NT → NT
  | .mk op _ tx v ns ks => .mk op 0 tx v ns (noAs ks)
def noAs : List NT → List NT
  | [] => []
  | k :: ks => noA k :: noAs ks
end
theorem noAs_len : ∀ ks : List NT, (noAs ks).length = ks.length
  | [] => rfl
  | k :: ks => by rw [noAs, List.length_cons, List.length_cons, noAs_len ks]
theorem noAs_get : ∀ (ks : List NT) (i : Nat) (h : i < ks.length), (noAs ks)[i]? = some (noA ks[i])
  | [], i, h => absurd h (Nat.not_lt_zero _)
  | k :: ks, 0, h => rfl
  | k :: ks, i + 1, h => by
    rw [noAs]
    simpa using noAs_get ks i (by simpa using h)
theorem noAs_eq {xs ys : List NT} (hl : xs.length = ys.length) (h : ∀ i, (h1 : i < xs.length) → (h2 : i < ys.length) → noA xs[i] = noA ys[i]) : noAs xs = noAs ys := by
  apply List.ext_getElem?
  intro i
  by_cases hi : i < xs.length
  · rw [noAs_get xs i hi, noAs_get ys i (by omega), h i hi (by omega)]
  · rw [List.getElem?_eq_none (by rw [noAs_len]; omega), List.getElem?_eq_none (by rw [noAs_len]; omega)]
theorem noAs_len_eq {xs ys : List NT} (h : noAs xs = noAs ys) : xs.length = ys.length := by
  have := congrArg List.length h
  rwa [noAs_len, noAs_len] at this
theorem noAs_at {xs ys : List NT} (h : noAs xs = noAs ys) {i : Nat} (h1 : i < xs.length) (h2 : i < ys.length) : noA xs[i] = noA ys[i] := by
  have := congrArg (fun l => l[i]?) h
  simp only [noAs_get xs i h1, noAs_get ys i h2, Option.some.injEq] at this
  exact this
theorem noA_eq {A B : NT} : noA A = noA B ↔ A.op = B.op ∧ A.text = B.text ∧ A.value = B.value ∧ A.names = B.names ∧ noAs A.kids = noAs B.kids := by
  obtain ⟨a, b, c, d, e, f⟩ := A
  obtain ⟨a', b', c', d', e', f'⟩ := B
  rw [noA, noA]
  simp only [NT.mk.injEq, NT.op, NT.text, NT.value, NT.names, NT.kids, true_and]
end Go.Proofs.YtdmkfdaddacdhaaGreatDoor
