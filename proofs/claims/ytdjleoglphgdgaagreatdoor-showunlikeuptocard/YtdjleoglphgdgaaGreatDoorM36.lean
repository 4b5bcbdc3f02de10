import Derived.Test.YtdjleoglphgdgaaGreatDoorM30
import Derived.Test.YtdjleoglphgdgaaGreatDoorM34
import Derived.Deep.Cut
import Derived.BigQuiet
namespace Go.Proofs.YtdjleoglphgdgaaGreatDoor
open Go.RowKit Go.Shelf
set_option linter.unusedVariables false
set_option linter.unusedSimpArgs false

/-- while Scan goes along -/
structure ScS (w : World) (s : ByteArray) (l : List UInt8) (W : World) (vt v : Value) (n q : Nat) (pre : List Tok) (op : List Nat) : Prop where
  len : pre.length = n
  own : W.ownsRow w.heap.size 82 4 vt n (flT pre)
  cut : CtW w.heap.size w.heap.size s v op W
  below : Below w.heap.size w W
  rest : scW l = pre ++ scF l (l.length + 1) q op
  ok : ∀ t ∈ pre, t.err = 0
  few : n ≤ q
  opn : ∀ x ∈ op, x ≤ q
  opl : op.length ≤ q
theorem ScS.row {w : World} {s : ByteArray} {l : List UInt8} {W W' : World} {vt v v' : Value} {n q : Nat} {pre : List Tok} {op : List Nat} (h : ScS w s l W vt v n q pre op) (hL : CtL w.heap.size v.ownBlock W W') : W'.ownsRow w.heap.size 82 4 vt n (flT pre) := by
  refine ⟨h.own.1, ?_⟩
  rcases h.own.2 with h1 | ⟨g, cap, cur, rfl, e2, e3, rest⟩
  · exact .inl h1
  · refine .inr ⟨g, cap, cur, rfl, e2, (hL.block g (Array.getElem?_eq_some_iff.1 e3).1 (fun e => ?_) (own_typeW h.cut.row e3 (by decide))).trans e3, rest⟩
    have hb := h.cut.box
    unfold CtB at hb
    rw [← e, e3] at hb
    simp at hb

theorem CtW.grown {B C : Nat} {s : ByteArray} {v vt : Value} {op : List Nat} {W w5 : World} {o : Obj} {n : Nat} {xs : List Value} (h : CtW B C s v op W) (ho : W.ownsRow B 82 4 vt n xs) (hg : (W.alloc o).grownBy w5 vt.ownBlock) : CtW B C s v op w5 := by
  have hlt := h.box.lt
  refine ⟨(hg.block C (by simp; omega) (fun e => own_typeW ho h.box (by decide) e.symm)).trans ((Below.heap_alloc _ _ _ hlt).trans h.box), h.row.1, ?_⟩
  rcases h.row.2 with h1 | ⟨g, cap, cur, rfl, e2, e3, rest⟩
  · exact .inl h1
  · have hgl := (Array.getElem?_eq_some_iff.1 e3).1
    exact .inr ⟨g, cap, cur, rfl, e2, (hg.block g (by simp; omega) (fun e => own_typeW ho e3 (by decide) e.symm)).trans ((Below.heap_alloc _ _ _ hgl).trans e3), rest⟩

end Go.Proofs.YtdjleoglphgdgaaGreatDoor
