import Derived.Test.YtdehejadiofomaaDoorZD27
import Derived.Test.YtdehejadiofomaaDoorZD6s
import Derived.Test.YtdehejadiofomaaDoorM26
namespace Go.Proofs.YtdehejadiofomaaDoor
open Go.RowKit Go.Shelf
set_option linter.unusedVariables false
set_option linter.unusedSimpArgs false
attribute [local go_sem] Oper.semAt_some

theorem kpT_at {B : Nat} {W W2 : World} {t : TypeId} {v z : Value} (hv : W.heap[B]? = some (.cells #[v] t (0, 0))) (hn : v.ownBlock = none) (hb : Below W.heap.size W W2) (hz : z.ownBlock = none) : KpT (fun b => b = B) B W (W2.setCell ⟨B, 0, none⟩ z) := by
  have hlt := (Array.getElem?_eq_some_iff.1 hv).1
  have h2 := heap_lowT hb hlt hv
  have r0 : rowAt W B = none := by unfold rowAt; rw [cell_of_row _ _ 0 _ _ _ hv]; exact hn
  have r1 : rowAt (W2.setCell ⟨B, 0, none⟩ z) B = none := by
    unfold rowAt; rw [cell_of_row _ _ 0 _ _ _ (box_set1 z h2)]; exact hz
  refine ⟨⟨?_, ?_, .inl (r1.trans r0.symm)⟩, fun b' e => ?_⟩
  · have := hb.size
    rw [World.size_setCell]; exact this
  · intro b o hE _ ho _
    exact (Below.heap_setCell _ _ _ _ hE).trans (heap_lowT hb (Array.getElem?_eq_some_iff.1 ho).1 ho)
  · rw [r1] at e; cases e

/-- the error beside the tokens -/
def ErrOf (ts : List Tok) (e : Nat) : Prop := ((∀ t ∈ ts, t.err = 0) ∧ e = 0) ∨ ∃ pre x, ts = pre ++ [x] ∧ x.err ≠ 0 ∧ e = x.err ∧ ∀ t ∈ pre, t.err = 0
theorem ErrOf.ok {ts : List Tok} {e j : Nat} (h : ErrOf ts e) (hj : j < ts.length) (h0 : ts[j].err = 0) : j + 1 ≠ ts.length ∨ e = 0 := by
  rcases h with ⟨_, h⟩ | ⟨pre, x, rfl, h1, h2, h3⟩
  · exact .inr h
  · left
    intro hl
    rw [List.length_append] at hl
    have : j = pre.length := by simpa using hl
    subst this
    simp at h0
    exact h1 h0
theorem ErrOf.bad {ts : List Tok} {e j : Nat} (h : ErrOf ts e) (hj : j < ts.length) (h0 : ts[j].err ≠ 0) : j + 1 = ts.length ∧ e = ts[j].err := by
  rcases h with ⟨h, _⟩ | ⟨pre, x, rfl, h1, h2, h3⟩
  · exact absurd (h _ (List.getElem_mem hj)) h0
  · rcases Nat.lt_or_ge j pre.length with hlt | hge
    · rw [List.getElem_append_left hlt] at h0
      exact absurd (h3 _ (List.getElem_mem hlt)) h0
    · have : j = pre.length := by simp at hj; omega
      subst this
      simp
      exact h2
theorem restY_pre_ok (l : List UInt8) : ∀ (f p : Nat) (a : List Tok) (x : Tok), restY l f p = a ++ [x] → ∀ t ∈ a, t.err = 0 := by
  intro f
  induction f with
  | zero => intro p a x h; rw [restY] at h; simp at h
  | succ f ih =>
    intro p a x h t ht
    rw [restY] at h
    split at h
    · split at h
      · next h2 =>
        cases a with
        | nil => cases ht
        | cons b a =>
          rw [List.cons_append] at h
          injection h with e1 e2
          rcases List.mem_cons.1 ht with rfl | ht
          · rw [← e1]; exact h2
          · exact ih _ _ _ e2 t ht
      · cases a with
        | nil => cases ht
        | cons b a => rw [List.cons_append] at h; injection h with e1 e2; simp at e2
    · simp at h
/-- what stands behind the law's first part -/
structure SqAt (l : List UInt8) (w W : World) (g N sc e : Nat) (so : Option Addr) (most : Int) : Prop where
  below : Below w.heap.size w W
  lo : w.heap.size + 2 ≤ g
  cM : W.heap[w.heap.size]? = some (.cells #[.int .i64 most] 3 (0, 0))
  cR : W.heap[w.heap.size + 1]? = some (.cells #[.bool false] 4 (0, 0))
  cW : W.heap[g]? = some (.cells #[.slice so N sc] 22 (0, 0))
  cE : W.heap[g + 1]? = some (.cells #[.int .i64 (e : Int)] 23 (0, 0))
  len : (allY l).length = N
  row : TRow W so (allY l)
  cap : N ≤ sc
  err : ErrOf (allY l) e
theorem SqAt.keep {l : List UInt8} {w W W' : World} {g N sc e : Nat} {so : Option Addr} {most : Int} (h : SqAt l w W g N sc e so most) (hb : Below W.heap.size W W') : SqAt l w W' g N sc e so most := by
  have lt := fun {b : Nat} {o : Obj} (h : W.heap[b]? = some o) => heap_lowT hb (Array.getElem?_eq_some_iff.1 h).1 h
  exact ⟨h.below.trans (hb.mono h.below.size), h.lo, lt h.cM, lt h.cR, lt h.cW, lt h.cE, h.len, h.row.keep hb, h.cap, h.err⟩
theorem run_seqNil4 (s : ByteArray) (u : World) (t : TypeId) (ht : t = 29) : (binOp .eql t (.func (.func 14) #[.string s] #[]) .nilFunc).run Tryd.prog u = .ok (.bool false) u := by
  subst ht; kernel_rfl
end Go.Proofs.YtdehejadiofomaaDoor
