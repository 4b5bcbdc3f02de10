import Derived.Test.YtapjfocjeligiaaGreatDoorM24
import Derived.Test.YtapjfocjeligiaaGreatDoorM22
import Derived.Lib.QuietBelow
import Derived.BigQuiet
namespace Go.Proofs.YtapjfocjeligiaaGreatDoor
open Go.RowKit Go.Sort
set_option linter.unusedVariables false
set_option linter.unusedSimpArgs false
attribute [local go_sem] Oper.semAt_some

/-- a number above another one -/
def abv (a b : ByteArray) : Bool := decide (0 < Pl.cmpN a.data.toList b.data.toList)

/-- two spans' boxes -/
structure SBx (w u : World) (a b c d : Value) : Prop where
  below : Below w.heap.size w u
  c0 : u.cell? ⟨w.heap.size, 0, none⟩ = some a
  c1 : u.cell? ⟨w.heap.size, 1, none⟩ = some b
  c2 : u.cell? ⟨w.heap.size + 1, 0, none⟩ = some c
  c3 : u.cell? ⟨w.heap.size + 1, 1, none⟩ = some d
  lt : w.heap.size + 1 < u.heap.size
theorem SBx.keep {w u u' : World} {a b c d : Value} (x : SBx w u a b c d) (hb : Below u.heap.size u u') : SBx w u' a b c d :=
  ⟨x.below.trans (hb.mono x.below.size), (hb.cell (p := ⟨_, _, _⟩) (by have := x.lt; show w.heap.size < _; omega)).trans x.c0, (hb.cell (p := ⟨_, _, _⟩) (by have := x.lt; show w.heap.size < _; omega)).trans x.c1, (hb.cell (p := ⟨_, _, _⟩) x.lt).trans x.c2, (hb.cell (p := ⟨_, _, _⟩) x.lt).trans x.c3, Nat.lt_of_lt_of_le x.lt hb.size⟩
theorem sbx_new (w : World) (a b c d : Value) : SBx w ((w.alloc (.cells #[a, b] 23)).alloc (.cells #[c, d] 23)) a b c d :=
  ⟨((Below.refl _ _).alloc (Nat.le_refl _) _).alloc (by simp) _, by simp [go_sem], by simp [go_sem], by simp [go_sem], by simp [go_sem], by simp⟩


/-- one span's box -/
structure S1x (w u : World) (a b : Value) : Prop where
  below : Below w.heap.size w u
  c0 : u.cell? ⟨w.heap.size, 0, none⟩ = some a
  c1 : u.cell? ⟨w.heap.size, 1, none⟩ = some b
  lt : w.heap.size < u.heap.size
theorem S1x.keep {w u u' : World} {a b : Value} (x : S1x w u a b) (hb : Below u.heap.size u u') : S1x w u' a b :=
  ⟨x.below.trans (hb.mono x.below.size), (hb.cell (p := ⟨_, _, _⟩) x.lt).trans x.c0, (hb.cell (p := ⟨_, _, _⟩) x.lt).trans x.c1, Nat.lt_of_lt_of_le x.lt hb.size⟩
theorem s1x_new (w : World) (a b : Value) : S1x w (w.alloc (.cells #[a, b] 23)) a b :=
  ⟨(Below.refl _ _).alloc (Nat.le_refl _) _, by simp [go_sem], by simp [go_sem], by simp⟩

end Go.Proofs.YtapjfocjeligiaaGreatDoor
namespace Go.Proofs.YtapjfocjeligiaaGreatDoor
open Go.RowKit Go.Sort
set_option linter.unusedVariables false
set_option linter.unusedSimpArgs false
attribute [local go_sem] Oper.semAt_some

end Go.Proofs.YtapjfocjeligiaaGreatDoor
