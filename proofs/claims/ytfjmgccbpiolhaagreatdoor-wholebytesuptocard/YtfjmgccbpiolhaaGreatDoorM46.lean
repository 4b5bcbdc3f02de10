import Derived.Test.YtfjmgccbpiolhaaGreatDoorM45
import Derived.Test.YtfjmgccbpiolhaaGreatDoorM29
namespace Go.Proofs.YtfjmgccbpiolhaaGreatDoor
open Go.RowKit Go.Shelf
set_option linter.unusedVariables false
set_option linter.unusedSimpArgs false

theorem tlW_len (c : UInt8) (ln1 ln0 : List UInt8) : ∀ es : List (List UInt8), (tlW c ln1 ln0 es).length = ln0.length + 1 + sumL (es.map fun e => 1 + ln1.length + e.length)
  | [] => by simp [tlW, sumL]
  | e :: es => by
    have := tlW_len c ln1 ln0 es
    simp only [tlW, List.length_cons, List.length_append, List.map_cons, sumL, this]
    omega
theorem rwT_len (o c : UInt8) (ln1 ln0 : List UInt8) (es : List (List UInt8)) : (rwT o c ln1 ln0 es).length ≤ ln0.length + 2 + sumL (es.map fun e => 1 + ln1.length + e.length) := by
  cases es with
  | nil => simp [rwT, sumL]
  | cons e es =>
    have := tlW_len c ln1 ln0 es
    simp only [rwT, List.length_cons, List.length_append, List.map_cons, sumL, this]
    omega
theorem sumL_le {α : Type} {f g : α → Nat} : ∀ (l : List α), (∀ t ∈ l, f t ≤ g t) → sumL (l.map f) ≤ sumL (l.map g)
  | [], _ => Nat.le_refl _
  | t :: r, h => by
    have h1 := h t (List.mem_cons_self ..)
    have h2 := sumL_le r (fun x hx => h x (List.mem_cons_of_mem _ hx))
    simp only [List.map_cons, sumL]; omega
theorem sumL_add {α : Type} (f g : α → Nat) : ∀ (l : List α), sumL (l.map fun x => f x + g x) = sumL (l.map f) + sumL (l.map g)
  | [] => rfl
  | t :: r => by have := sumL_add f g r; simp only [List.map_cons, sumL]; omega
theorem sumL_mul {α : Type} (c : Nat) (f : α → Nat) : ∀ (l : List α), sumL (l.map fun x => c * f x) = c * sumL (l.map f)
  | [] => rfl
  | t :: r => by have := sumL_mul c f r; simp only [List.map_cons, sumL, Nat.mul_add]; omega
theorem sum_zip : ∀ (ks : List ByteArray) (ts : List VT) (f : ByteArray → Nat) (g : VT → Nat), ks.length = ts.length → sumL ((ks.zip ts).map fun p => f p.1 + g p.2) = sumL (ks.map f) + sumL (ts.map g)
  | [], [], f, g, _ => rfl
  | [], _ :: _, f, g, h => by cases h
  | _ :: _, [], f, g, h => by cases h
  | k :: ks, t :: ts, f, g, h => by
    have := sum_zip ks ts f g (by simpa using h)
    simp only [List.zip_cons_cons, List.map_cons, sumL]; omega
end Go.Proofs.YtfjmgccbpiolhaaGreatDoor
