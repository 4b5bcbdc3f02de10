import Derived.Test.YtfjmgccbpiolhaaGreatDoorMW18
import Derived.Laws.EntriesVeiled
import Derived.Deep.RegionHeld3
import Derived.Test.YtfjmgccbpiolhaaGreatDoorMW13
import Derived.Deep.QuietTactic
namespace Go.Proofs.YtfjmgccbpiolhaaGreatDoor
open Go.RowKit
set_option linter.unusedVariables false
set_option linter.unusedSimpArgs false
theorem VB2.drew {w u : World} {a b c d e b' c' d' e' : Value} (h : VB2 w u a b c d e b' c' d' e') : VB2 w u.drew a b c d e b' c' d' e' := ⟨h.one.drew, h.two.drew⟩
structure VCm (w w2 u : World) (k : Nat) (f a b c d e b' c' d' e' : Value) : Prop where
  v : VB2 w u a b c d e b' c' d' e'
  way : u.cell? ⟨w2.heap.size, k, none⟩ = some f
  lt : w2.heap.size < u.heap.size
theorem VCm.keep {w w2 u u' : World} {k : Nat} {f a b c d e b' c' d' e' : Value} (h : VCm w w2 u k f a b c d e b' c' d' e') (hb : Below u.heap.size u u') : VCm w w2 u' k f a b c d e b' c' d' e' :=
  ⟨h.v.keep hb, (hb.cell (p := ⟨_, _, _⟩) h.lt).trans h.way, Nat.lt_of_lt_of_le h.lt hb.size⟩
theorem VCm.drew {w w2 u : World} {k : Nat} {f a b c d e b' c' d' e' : Value} (h : VCm w w2 u k f a b c d e b' c' d' e') : VCm w w2 u.drew k f a b c d e b' c' d' e' := ⟨h.v.drew, h.way, h.lt⟩
end Go.Proofs.YtfjmgccbpiolhaaGreatDoor
namespace Go.Proofs.YtfjmgccbpiolhaaGreatDoor
open Go.RowKit
set_option linter.unusedVariables false
set_option linter.unusedSimpArgs false

structure RB2 (w u : World) (a b c d e a' b' c' d' e' : Value) : Prop where
  one : VBx w u a b c d e
  two : VBx (w.alloc (.cells #[a, b, c, d, e] 49)) u a' b' c' d' e'
theorem RB2.keep {w u u' : World} {a b c d e a' b' c' d' e' : Value} (h : RB2 w u a b c d e a' b' c' d' e') (hb : Below u.heap.size u u') : RB2 w u' a b c d e a' b' c' d' e' := ⟨h.one.keep hb, h.two.keep hb⟩
theorem rb2_new (w : World) (a b c d e a' b' c' d' e' : Value) : RB2 w ((w.alloc (.cells #[a, b, c, d, e] 49)).alloc (.cells #[a', b', c', d', e'] 49)) a b c d e a' b' c' d' e' :=
  ⟨(vbx_new w a b c d e).keep (below1 _ _), vbx_new _ a' b' c' d' e'⟩
theorem RB2.d0 {w u : World} {a b c d e a' b' c' d' e' : Value} (h : RB2 w u a b c d e a' b' c' d' e') : u.cell? ⟨w.heap.size + 1, 0, none⟩ = some a' := by have := h.two.c0; rwa [World.size_alloc] at this
theorem RB2.d1 {w u : World} {a b c d e a' b' c' d' e' : Value} (h : RB2 w u a b c d e a' b' c' d' e') : u.cell? ⟨w.heap.size + 1, 1, none⟩ = some b' := by have := h.two.c1; rwa [World.size_alloc] at this
theorem RB2.d2 {w u : World} {a b c d e a' b' c' d' e' : Value} (h : RB2 w u a b c d e a' b' c' d' e') : u.cell? ⟨w.heap.size + 1, 2, none⟩ = some c' := by have := h.two.c2; rwa [World.size_alloc] at this
theorem RB2.d3 {w u : World} {a b c d e a' b' c' d' e' : Value} (h : RB2 w u a b c d e a' b' c' d' e') : u.cell? ⟨w.heap.size + 1, 3, none⟩ = some d' := by have := h.two.c3; rwa [World.size_alloc] at this
theorem RB2.d4 {w u : World} {a b c d e a' b' c' d' e' : Value} (h : RB2 w u a b c d e a' b' c' d' e') : u.cell? ⟨w.heap.size + 1, 4, none⟩ = some e' := by have := h.two.c4; rwa [World.size_alloc] at this

end Go.Proofs.YtfjmgccbpiolhaaGreatDoor
