import Derived.Test.YtdehejadiofomaaDoorZD28a
namespace Go.Proofs.YtdehejadiofomaaDoor
open Go.RowKit Go.Shelf
set_option linter.unusedVariables false
set_option linter.unusedSimpArgs false
attribute [local go_sem] Oper.semAt_some

/-- between two rounds of the law's loop -/
def SqI (V : World) (AB : Nat) (pre : List Tok) (W : World) : Prop := W.heap[AB]? = some (.cells #[.int .i64 (pre.length : Int)] 3 (0, 0)) ∧ Below AB V W
theorem SqI.own {V : World} {AB C : Nat} (hC : AB ≤ C) (hV : AB ≤ V.heap.size) : OwnFrom C (SqI V AB) := by
  rintro xs A A' row ⟨h1, hb⟩ hg hr
  exact ⟨cells_own hg hr h1, hb.grown hg (Nat.le_trans hV hb.size) (fun r e => Nat.le_trans hC (hr r e).1)⟩
def SqX (V : World) (AB : Nat) (most : Int) (id : Nat) (c : Code) (pre : List Tok) (W : World) : Prop := c = .exit id ∧ (pre.length : Int) = most ∧ SqI V AB pre W
theorem SqX.own {V : World} {AB C : Nat} {most : Int} {id : Nat} (hC : AB ≤ C) (hV : AB ≤ V.heap.size) (c : Code) : OwnFrom C (SqX V AB most id c) := by
  rintro xs A A' row ⟨h1, h2, h3⟩ hg hr
  exact ⟨h1, h2, SqI.own hC hV xs A A' row h3 hg hr⟩
/-- what the law's round reads -/
structure SqB (W : World) (AB RB gm gw Bx : Nat) (j r most : Int) (so : Option Addr) (N sc e : Nat) (x : Tok) : Prop where
  at_ : W.heap[AB]? = some (.cells #[.int .i64 j] 3 (0, 0))
  rd : W.heap[RB]? = some (.cells #[.int .i64 r] 3 (0, 0))
  mo : W.heap[gm]? = some (.cells #[.int .i64 most] 3 (0, 0))
  wa : W.heap[gw]? = some (.cells #[.slice so N sc] 22 (0, 0))
  er : W.heap[gw + 1]? = some (.cells #[.int .i64 (e : Int)] 23 (0, 0))
  bx : TBox W Bx x
theorem SqB.keep {W W' : World} {AB RB gm gw Bx : Nat} {j r most : Int} {so : Option Addr} {N sc e : Nat} {x : Tok} (h : SqB W AB RB gm gw Bx j r most so N sc e x) (hb : Below W.heap.size W W') : SqB W' AB RB gm gw Bx j r most so N sc e x := by
  have lt := fun {b : Nat} {o : Obj} (h : W.heap[b]? = some o) => heap_lowT hb (Array.getElem?_eq_some_iff.1 h).1 h
  exact ⟨lt h.at_, lt h.rd, lt h.mo, lt h.wa, lt h.er, lt h.bx⟩
theorem SqB.cells {W : World} {AB RB gm gw Bx : Nat} {j r most : Int} {so : Option Addr} {N sc e : Nat} {x : Tok} (h : SqB W AB RB gm gw Bx j r most so N sc e x) :
    W.cell? ⟨AB, 0, none⟩ = some (.int .i64 j) ∧ W.frozen? ⟨AB, 0, none⟩ = false ∧ W.cell? ⟨RB, 0, none⟩ = some (.int .i64 r) ∧ W.cell? ⟨gm, 0, none⟩ = some (.int .i64 most) ∧ W.cell? ⟨gw, 0, none⟩ = some (.slice so N sc) ∧ W.cell? ⟨gw + 1, 0, none⟩ = some (.int .i64 (e : Int)) := by
  refine ⟨?_, frozen_rowT (j := 0) h.at_, ?_, ?_, ?_, ?_⟩
  · rw [cell_of_row _ _ 0 _ _ _ h.at_]; rfl
  · rw [cell_of_row _ _ 0 _ _ _ h.rd]; rfl
  · rw [cell_of_row _ _ 0 _ _ _ h.mo]; rfl
  · rw [cell_of_row _ _ 0 _ _ _ h.wa]; rfl
  · rw [cell_of_row _ _ 0 _ _ _ h.er]; rfl
theorem pre_at {ts pre : List Tok} {x : Tok} (h : pre ++ [x] <+: ts) : ∃ h : pre.length < ts.length, ts[pre.length] = x := by
  obtain ⟨r, rfl⟩ := h
  refine ⟨by simp, by simp⟩
theorem rf_block {F : Fence} {n : Nat} {P : Program} {id : Nat} {c : Code} {Q0 : Exit → Act → World → Prop} {a : Act} {w : World} {M : Nat → World → Prop}
    (h : c.wpIn F n P (fun e a' W => (e = .normal ∨ e = .exit id) ∧ ∃ D, a' = { a with defers := { target := .collected D, args := #[] } :: a.defers } ∧ M D W) a w)
    (hM : ∀ D W, M D W → Q0 .normal { a with defers := { target := .collected D, args := #[] } :: a.defers } W) : c.wpIn F n P (Exit.inBlock id Q0) a w := by
  refine wpIn_mono h ?_
  rintro e a' W ⟨rfl | rfl, D, rfl, hm⟩
  · exact hM D W hm
  · simp [Exit.inBlock]; exact hM D W hm
end Go.Proofs.YtdehejadiofomaaDoor
