import Derived.Test.YtohclfgghobldaaGreatDoorZBK5
import Derived.Deep.RegionHeld3
namespace Go.Proofs.YtohclfgghobldaaGreatDoor
open Go.RowKit Go.Shelf
set_option linter.unusedVariables false
set_option linter.unusedSimpArgs false

/-- four lists of tokens in memory, apart, and the list of them -/
structure Ap (B gb gl lc : Nat) (so : Nat → Option Addr) (n sc : Nat → Nat) (v : Value) (w W : World) (L : Nat → List Value) : Prop where
  below : Below B w W
  own : ∀ k, k < 4 → W.ownsRow B 54 4 (.slice (so k) (n k) (sc k)) (n k) (L k)
  apart : ∀ j, j < 4 → ∀ k, k < 4 → j ≠ k → ∀ g, (Value.slice (so j) (n j) (sc j)).ownBlock = some g → (Value.slice (so k) (n k) (sc k)).ownBlock ≠ some g
  ls : W.ownsRow B 22 1 (.slice (some ⟨gl, 0, none⟩) 4 lc) 4 [.slice (so 0) (n 0) (sc 0), .slice (so 1) (n 1) (sc 1), .slice (so 2) (n 2) (sc 2), .slice (so 3) (n 3) (sc 3)]
  bk : BkAt W gb v
  le : B ≤ W.heap.size
theorem Ap.keep {B gb gl lc : Nat} {so : Nat → Option Addr} {n sc : Nat → Nat} {v : Value} {w W W' : World} {L : Nat → List Value} (h : Ap B gb gl lc so n sc v w W L) (hb : Below W.heap.size W W') : Ap B gb gl lc so n sc v w W' L :=
  ⟨h.below.trans (hb.mono h.le), fun k hk => below_row hb (h.own k hk), h.apart, below_row hb h.ls, heap_lowT hb (Array.getElem?_eq_some_iff.1 h.bk).1 h.bk, Nat.le_trans h.le hb.size⟩
theorem Ap.at {B gb gl lc : Nat} {so : Nat → Option Addr} {n sc : Nat → Nat} {v : Value} {w W : World} {L : Nat → List Value} (h : Ap B gb gl lc so n sc v w W L) {k : Nat} (hk : k < 4) : W.cell? ⟨gl, k, none⟩ = some (.slice (so k) (n k) (sc k)) ∧ 4 ≤ lc := by
  obtain ⟨g, e, _, h4, h2, _⟩ := ownZ_at h.ls (by decide)
  have e1 : gl = g := by simpa using e
  subst e1
  refine ⟨h2 k _ ?_, h4⟩
  rcases (show k = 0 ∨ k = 1 ∨ k = 2 ∨ k = 3 by omega) with rfl | rfl | rfl | rfl <;> rfl
def upL (L : Nat → List Value) (k : Nat) (x : List Value) : Nat → List Value := fun j => if j = k then x else L j
theorem upL_same (L : Nat → List Value) (k : Nat) (x : List Value) : upL L k x k = x := if_pos rfl
theorem upL_other (L : Nat → List Value) {k j : Nat} (x : List Value) (h : j ≠ k) : upL L k x j = L j := if_neg h
theorem Ap.set {B gb gl lc : Nat} {so : Nat → Option Addr} {n sc : Nat → Nat} {v : Value} {w W : World} {L : Nat → List Value} (h : Ap B gb gl lc so n sc v w W L) {k g : Nat} (hk : k < 4) (hg : so k = some ⟨g, 0, none⟩) (hn : 0 < n k) (j : Nat) (x : Value) : Ap B gb gl lc so n sc v w (W.setCell ⟨g, j, none⟩ x) (upL L k ((L k).set j x)) := by
  have hown := h.own k hk
  have hob : (Value.slice (so k) (n k) (sc k)).ownBlock = some g := by rw [hg]; rfl
  have hBg : B ≤ g := own_baseT hown hob
  refine ⟨h.below.setCell (p := ⟨g, j, none⟩) hBg _, fun i hi => ?_, h.apart, own_setT h.ls (fun e => ?_), ?_, by rw [World.size_setCell]; exact h.le⟩
  · by_cases hik : i = k
    · subst hik
      rw [upL_same]
      rw [hg] at hown ⊢
      exact ownZ_set hown hn x
    · rw [upL_other _ _ hik]
      exact own_setT (h.own i hi) (h.apart k hk i hi (fun e => hik e.symm) g hob)
  · rcases hown.2 with ⟨e1, e2⟩ | ⟨g', cap', cur, e1, hb, hgg, _⟩
    · rw [hg] at e1; cases e1
    · rw [hg] at e1
      have e3 : g = g' := by simpa [Value.ownBlock] using congrArg Value.ownBlock e1
      subst e3
      exact own_typeT h.ls hgg (by decide) e
  · refine (Below.heap_setCell _ _ _ _ ?_).trans h.bk
    intro e
    have e4 : gb = g := e
    subst e4
    exact own_typeT hown h.bk (by decide) hob
/-- the lists ahead of k are marked, and i tokens of k -/
def P1 (B gb gl lc : Nat) (so : Nat → Option Addr) (n sc : Nat → Nat) (v : Value) (w W : World) (k i : Nat) : Prop := ∃ L, Ap B gb gl lc so n sc v w W L ∧ (∀ j, j < k → Mks j (n j) (L j)) ∧ Mks k i (L k)
theorem P1.keep {B gb gl lc : Nat} {so : Nat → Option Addr} {n sc : Nat → Nat} {v : Value} {w W W' : World} {k i : Nat} (h : P1 B gb gl lc so n sc v w W k i) (hb : Below W.heap.size W W') : P1 B gb gl lc so n sc v w W' k i := by
  obtain ⟨L, h1, h2, h3⟩ := h
  exact ⟨L, h1.keep hb, h2, h3⟩
theorem P1.up {B gb gl lc : Nat} {so : Nat → Option Addr} {n sc : Nat → Nat} {v : Value} {w W : World} {k : Nat} (h : P1 B gb gl lc so n sc v w W k (n k)) : P1 B gb gl lc so n sc v w W (k + 1) 0 := by
  obtain ⟨L, h1, h2, h3⟩ := h
  refine ⟨L, h1, fun j hj => ?_, Mks.zero _ _⟩
  rcases Nat.lt_or_ge j k with h | h
  · exact h2 j h
  · obtain rfl : j = k := by omega
    exact h3
theorem P1.mark {B gb gl lc : Nat} {so : Nat → Option Addr} {n sc : Nat → Nat} {v : Value} {w W : World} {k i g : Nat} (h : P1 B gb gl lc so n sc v w W k i) (hk : k < 4) (hi : i < n k) (hg : so k = some ⟨g, 0, none⟩) : P1 B gb gl lc so n sc v w ((((W.setCell ⟨g, i * 4, none⟩ (.int .i64 (-10 - (k : Int)))).setCell ⟨g, i * 4 + 1, none⟩ (.int .i64 0)).setCell ⟨g, i * 4 + 2, none⟩ (.int .i64 0)).setCell ⟨g, i * 4 + 3, none⟩ (.string (wbK k i))) k (i + 1) := by
  obtain ⟨L, h1, h2, h3⟩ := h
  have hlen := ownZ_len (h1.own k hk)
  refine ⟨_, (((h1.set hk hg (by omega) _ _).set hk hg (by omega) _ _).set hk hg (by omega) _ _).set hk hg (by omega) _ _, fun j hj => ?_, ?_⟩
  · rw [upL_other _ _ (by omega), upL_other _ _ (by omega), upL_other _ _ (by omega), upL_other _ _ (by omega)]
    exact h2 j hj
  · rw [upL_same, upL_same, upL_same, upL_same]
    exact h3.set (by rw [hlen]; omega)
/-- what a round of the marking reads and writes -/
theorem P1.cells {B gb gl lc : Nat} {so : Nat → Option Addr} {n sc : Nat → Nat} {v : Value} {w W : World} {k i : Nat} (h : P1 B gb gl lc so n sc v w W k i) (hk : k < 4) (hi : i < n k) : ∃ g, so k = some ⟨g, 0, none⟩ ∧ n k ≤ sc k ∧ (∃ y0 y1 y2 y3, W.cell? ⟨g, i * 4, none⟩ = some y0 ∧ W.cell? ⟨g, i * 4 + 1, none⟩ = some y1 ∧ W.cell? ⟨g, i * 4 + 2, none⟩ = some y2 ∧ W.cell? ⟨g, i * 4 + 3, none⟩ = some y3) ∧ ∀ j, W.frozen? ⟨g, j, none⟩ = false := by
  obtain ⟨L, h1, h2, h3⟩ := h
  obtain ⟨g, e, _, h4, h5, h6⟩ := ownZ_at (h1.own k hk) (by omega)
  have hlen := ownZ_len (h1.own k hk)
  refine ⟨g, e, h4, ⟨_, _, _, _, h5 _ _ (List.getElem?_eq_getElem (by omega)), h5 _ _ (List.getElem?_eq_getElem (by omega)), h5 _ _ (List.getElem?_eq_getElem (by omega)), h5 _ _ (List.getElem?_eq_getElem (by omega))⟩, h6⟩
end Go.Proofs.YtohclfgghobldaaGreatDoor
