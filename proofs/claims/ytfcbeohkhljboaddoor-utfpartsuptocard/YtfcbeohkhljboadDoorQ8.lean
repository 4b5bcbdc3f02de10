import Derived.Test.YtfcbeohkhljboadDoorQ7
namespace Go.Proofs.YtfcbeohkhljboadDoor
open Go.RowKit
set_option linter.unusedVariables false
set_option linter.unusedSimpArgs false

theorem own_set {w : World} {B n cap g k : Nat} {A : List ByteArray} (h : w.ownsRow B 9 1 (.slice (some ⟨g, 0, none⟩) n cap) n (svals A)) (hk : k < n) (x : ByteArray) : (w.setCell ⟨g, k, none⟩ (.string x)).ownsRow B 9 1 (.slice (some ⟨g, 0, none⟩) n cap) n (svals (A.set k x)) := by
  refine ⟨by have := h.1; simp [svals] at this ⊢; exact this, ?_⟩
  rcases h.2 with ⟨e, e2⟩ | ⟨g', cap', cur, e, hb, hg, h1, h2, h3, h4⟩
  · omega
  · simp only [Value.slice.injEq] at e
    obtain ⟨e1, _, rfl⟩ := e
    have e1 : g = g' := by simpa using e1
    subst e1
    refine .inr ⟨g, cap, cur.setIfInBounds k (.string x), rfl, hb, heap_setCell_same w g k _ _ _ hg, h1, h2, by simpa using h3, ?_⟩
    rw [Array.toList_setIfInBounds, List.take_set, h4]
    simp [svals, List.map_set]
theorem own_setO {w : World} {B n g k : Nat} {v x : Value} {xs : List Value} (h : w.ownsRow B 9 1 v n xs) (hne : some g ≠ v.ownBlock) : (w.setCell ⟨g, k, none⟩ x).ownsRow B 9 1 v n xs := by
  refine ⟨h.1, ?_⟩
  rcases h.2 with e | ⟨g', cap', cur, rfl, hb, hg, rest⟩
  · exact .inl e
  · refine .inr ⟨g', cap', cur, rfl, hb, ?_, rest⟩
    rw [Below.heap_setCell _ _ _ _ (fun e => hne (by rw [Value.ownBlock]; simp; exact e.symm))]
    exact hg
theorem own_freeS {w : World} {B n cap g : Nat} {xs : List Value} (h : w.ownsRow B 9 1 (.slice (some ⟨g, 0, none⟩) n cap) n xs) (k : Nat) : w.frozen? ⟨g, k, none⟩ = false := by
  rcases h.2 with ⟨e, e2⟩ | ⟨g', cap', cur, e, hb, hg, _⟩
  · simp at e
  · simp only [Value.slice.injEq] at e
    have e1 : g = g' := by simpa using e.1
    subst e1
    exact frozen_of_row w g k _ _ hg
theorem own_lt {w : World} {B n g : Nat} {v : Value} {xs : List Value} (h : w.ownsRow B 9 1 v n xs) (hg : v.ownBlock = some g) : g < w.heap.size := by
  rcases h.2 with ⟨rfl, e2⟩ | ⟨g', cap', cur, rfl, hb, hr, _⟩
  · simp [Value.ownBlock] at hg
  · simp only [Value.ownBlock, Option.some.injEq] at hg
    subst hg
    exact (Array.getElem?_eq_some_iff.1 hr).1

/-- two rows of texts, apart -/
structure PaSt (w2 wr : World) (va : Value) (na : Nat) (A : List ByteArray) (vb : Value) (nb : Nat) (B : List ByteArray) : Prop where
  oa : wr.ownsRow w2.heap.size 9 1 va na (svals A)
  ob : wr.ownsRow w2.heap.size 9 1 vb nb (svals B)
  apart : ∀ g, va.ownBlock = some g → vb.ownBlock ≠ some g
  below : Below w2.heap.size w2 wr

theorem PaSt.swap {w2 wr : World} {va : Value} {na : Nat} {A : List ByteArray} {vb : Value} {nb : Nat} {B : List ByteArray} (h : PaSt w2 wr va na A vb nb B) : PaSt w2 wr vb nb B va na A :=
  ⟨h.ob, h.oa, fun g h1 h2 => h.apart g h2 h1, h.below⟩
theorem PaSt.set {w2 wr : World} {na cap g : Nat} {A : List ByteArray} {vb : Value} {nb : Nat} {B : List ByteArray} (h : PaSt w2 wr (.slice (some ⟨g, 0, none⟩) na cap) na A vb nb B) {k : Nat} (hk : k < na) (x : ByteArray) :
    PaSt w2 (wr.setCell ⟨g, k, none⟩ (.string x)) (.slice (some ⟨g, 0, none⟩) na cap) na (A.set k x) vb nb B :=
  ⟨own_set h.oa hk x, own_setO h.ob (fun e => h.apart g rfl e.symm), h.apart, h.below.setCell (p := ⟨g, k, none⟩) (own_base h.oa g rfl) _⟩
theorem PaSt.app {w2 wr w' : World} {va : Value} {na : Nat} {A : List ByteArray} {vb : Value} {nb : Nat} {B : List ByteArray} (h : PaSt w2 wr va na A vb nb B) {o : Obj} {g cap : Nat} {x : ByteArray}
    (hown : w'.ownsRow w2.heap.size 9 1 (.slice (some ⟨g, 0, none⟩) (na + 1) cap) (na + 1) (svals A ++ [.string x])) (hgrow : (wr.alloc o).grownBy w' va.ownBlock) (hat : va.ownBlock = some g ∨ g = wr.heap.size + 1) :
    PaSt w2 w' (.slice (some ⟨g, 0, none⟩) (na + 1) cap) (na + 1) (A ++ [x]) vb nb B := by
  refine ⟨by rw [← svals_snoc]; exact hown, (h.ob.alloc o).kept hgrow ?_, ?_, below_app h.oa h.below.size h.below hgrow⟩
  · cases hv : vb.ownBlock with
    | none => exact .inl rfl
    | some gb => exact .inr fun e => h.apart gb e.symm hv
  · intro g' e e2
    simp only [Value.ownBlock, Option.some.injEq] at e
    subst e
    rcases hat with h1 | h1
    · exact h.apart g h1 e2
    · have := own_lt h.ob e2
      omega

/-- k of n overwritten -/
def mixT (x : ByteArray) (A : List ByteArray) (k : Nat) : List ByteArray := List.replicate k x ++ A.drop k
theorem mixT_up (x : ByteArray) (A : List ByteArray) {k : Nat} (h : k < A.length) : (mixT x A k).set k x = mixT x A (k + 1) := by
  unfold mixT
  rw [List.set_append_right _ _ (by simp), List.length_replicate, Nat.sub_self, List.drop_eq_getElem_cons h, List.set_cons_zero, List.replicate_succ', List.append_assoc]
  rfl
theorem mixT_len (x : ByteArray) (A : List ByteArray) {k : Nat} (h : k ≤ A.length) : (mixT x A k).length = A.length := by unfold mixT; simp; omega
theorem mixT_end (x : ByteArray) (A : List ByteArray) : mixT x A A.length = List.replicate A.length x := by unfold mixT; simp
/-- n of the one, then m of the other -/
def dblT (x y : ByteArray) (n m : Nat) : List ByteArray := List.replicate n x ++ List.replicate m y
theorem dblT_up (x y : ByteArray) (n m : Nat) : dblT x y n m ++ [y] = dblT x y n (m + 1) := by unfold dblT; rw [List.append_assoc, ← List.replicate_succ']
theorem dblT_len (x y : ByteArray) (n m : Nat) : (dblT x y n m).length = n + m := by simp [dblT]
theorem dblT_lo (x y : ByteArray) {n m k : Nat} (h : k < n) : (dblT x y n m).getD k .empty = x := by simp [dblT, List.getD, List.getElem?_append, h]
theorem dblT_hi (x y : ByteArray) {n m k : Nat} (h : n ≤ k) (h2 : k < n + m) : (dblT x y n m).getD k .empty = y := by
  have h3 : ¬ k < n := by omega
  have h4 : k - n < m := by omega
  simp [dblT, List.getD, List.getElem?_append, h3, List.getElem?_replicate, h4]
end Go.Proofs.YtfcbeohkhljboadDoor
