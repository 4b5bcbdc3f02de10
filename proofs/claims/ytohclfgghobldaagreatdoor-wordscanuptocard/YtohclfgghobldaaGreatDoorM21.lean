import Derived.Test.YtohclfgghobldaaGreatDoorM20
import Derived.Deep.RegionHeld3
namespace Go.Proofs.YtohclfgghobldaaGreatDoor
open Go.RowKit Go.Shelf
set_option linter.unusedVariables false
set_option linter.unusedSimpArgs false

/-- the first m tokens are the marks of list k -/
def Mks (k m : Nat) (L : List Value) : Prop := ∀ i, i < m → L[i * 4]? = some (.int .i64 (-10 - (k : Int))) ∧ L[i * 4 + 1]? = some (.int .i64 0) ∧ L[i * 4 + 2]? = some (.int .i64 0) ∧ L[i * 4 + 3]? = some (.string (wbK k i))
theorem Mks.zero (k : Nat) (L : List Value) : Mks k 0 L := fun i h => absurd h (Nat.not_lt_zero _)
theorem Mks.set {k m : Nat} {L : List Value} (h : Mks k m L) (hl : m * 4 + 3 < L.length) : Mks k (m + 1) ((((L.set (m * 4) (.int .i64 (-10 - (k : Int)))).set (m * 4 + 1) (.int .i64 0)).set (m * 4 + 2) (.int .i64 0)).set (m * 4 + 3) (.string (wbK k m))) := by
  intro i hi
  rcases Nat.lt_or_ge i m with h1 | h1
  · obtain ⟨a, b, c, d⟩ := h i h1
    refine ⟨?_, ?_, ?_, ?_⟩
    all_goals
      rw [List.getElem?_set_ne (by omega), List.getElem?_set_ne (by omega), List.getElem?_set_ne (by omega), List.getElem?_set_ne (by omega)]
      assumption
  · obtain rfl : i = m := by omega
    refine ⟨?_, ?_, ?_, ?_⟩
    · rw [List.getElem?_set_ne (by omega), List.getElem?_set_ne (by omega), List.getElem?_set_ne (by omega), List.getElem?_set_self (by omega)]
    · rw [List.getElem?_set_ne (by omega), List.getElem?_set_ne (by omega), List.getElem?_set_self (by simp; omega)]
    · rw [List.getElem?_set_ne (by omega), List.getElem?_set_self (by simp; omega)]
    · rw [List.getElem?_set_self (by simp; omega)]
theorem Mks.app {k m : Nat} {L : List Value} (h : Mks k m L) (hl : L.length = m * 4) : Mks k (m + 1) (L ++ [.int .i64 (-10 - (k : Int)), .int .i64 0, .int .i64 0, .string (wbK k m)]) := by
  intro i hi
  rcases Nat.lt_or_ge i m with h1 | h1
  · obtain ⟨a, b, c, d⟩ := h i h1
    refine ⟨?_, ?_, ?_, ?_⟩
    all_goals
      rw [List.getElem?_append_left (by omega)]
      assumption
  · obtain rfl : i = m := by omega
    refine ⟨?_, ?_, ?_, ?_⟩
    all_goals
      rw [List.getElem?_append_right (by omega), hl]
      simp
theorem ownZ_len {w : World} {B : Nat} {e : TypeId} {size : Nat} {v : Value} {n : Nat} {xs : List Value} (h : w.ownsRow B e size v n xs) : xs.length = n * size := h.1
theorem ownZ_at {w : World} {B : Nat} {e : TypeId} {size : Nat} {so : Option Addr} {n sc : Nat} {xs : List Value} (h : w.ownsRow B e size (.slice so n sc) n xs) (hn : 0 < n) : ∃ g, so = some ⟨g, 0, none⟩ ∧ B ≤ g ∧ n ≤ sc ∧ (∀ j x, xs[j]? = some x → w.cell? ⟨g, j, none⟩ = some x) ∧ ∀ j, w.frozen? ⟨g, j, none⟩ = false := by
  rcases h.2 with ⟨e, e2⟩ | ⟨g', cap', cur, e, hb, hg, h1, h2, h3, h4⟩
  · omega
  · simp only [Value.slice.injEq] at e
    obtain ⟨rfl, _, rfl⟩ := e
    refine ⟨g', rfl, hb, by omega, fun j x hx => ?_, fun j => frozen_of_row w g' j _ _ hg⟩
    rw [cell_of_row _ _ j _ _ _ hg]
    rw [← h4] at hx
    rw [List.getElem?_take] at hx
    split at hx
    · rw [← Array.getElem?_toList]; exact hx
    · cases hx
theorem ownZ_set {w : World} {B : Nat} {e : TypeId} {size n cap g k : Nat} {xs : List Value} (h : w.ownsRow B e size (.slice (some ⟨g, 0, none⟩) n cap) n xs) (hn : 0 < n) (x : Value) : (w.setCell ⟨g, k, none⟩ x).ownsRow B e size (.slice (some ⟨g, 0, none⟩) n cap) n (xs.set k x) := by
  refine ⟨by have := h.1; simp at this ⊢; exact this, ?_⟩
  rcases h.2 with ⟨e, e2⟩ | ⟨g', cap', cur, e, hb, hg, h1, h2, h3, h4⟩
  · omega
  · simp only [Value.slice.injEq] at e
    obtain ⟨e1, _, rfl⟩ := e
    have e1 : g = g' := by simpa using e1
    subst e1
    refine .inr ⟨g, cap, cur.setIfInBounds k x, rfl, hb, heap_setCell_same w g k _ _ _ hg, h1, h2, by simpa using h3, ?_⟩
    rw [Array.toList_setIfInBounds, List.take_set, h4]
end Go.Proofs.YtohclfgghobldaaGreatDoor
namespace Go.Proofs.YtohclfgghobldaaGreatDoor
open Go.RowKit Go.Shelf
set_option linter.unusedVariables false
set_option linter.unusedSimpArgs false

/-- four lists of tokens in memory, apart, and the list of them -/
structure Ap (B gb gl lc : Nat) (so : Nat → Option Addr) (n sc : Nat → Nat) (v : Value) (w W : World) (L : Nat → List Value) : Prop where
  below : Below B w W
  own : ∀ k, k < 4 → W.ownsRow B 54 4 (.slice (so k) (n k) (sc k)) (n k) (L k)
  apart : ∀ j, j < 4 → ∀ k, k < 4 → j ≠ k → ∀ g, (Value.slice (so j) (n j) (sc j)).ownBlock = some g → (Value.slice (so k) (n k) (sc k)).ownBlock ≠ some g
  ls : W.ownsRow B 22 1 (.slice (some ⟨gl, 0, none⟩) 4 lc) 4 [.slice (so 0) (n 0) (sc 0), .slice (so 1) (n 1) (sc 1), .slice (so 2) (n 2) (sc 2), .slice (so 3) (n 3) (sc 3)]
  bk : BkAt W gb v
  le : B ≤ W.heap.size
theorem Ap.keep {B gb gl lc : Nat} {so : Nat → Option Addr} {n sc : Nat → Nat} {v : Value} {w W W' : World} {L : Nat → List Value} (h : Ap B gb gl lc so n sc v w W L) (hb : Below W.heap.size W W') : Ap B gb gl lc so n sc v w W' L :=
  ⟨h.below.trans (hb.mono h.le), fun k hk => below_row hb (h.own k hk), h.apart, below_row hb h.ls, heap_lowT hb (Array.getElem?_eq_some_iff.1 h.bk).1 h.bk, Nat.le_trans h.le hb.size⟩
theorem Ap.at {B gb gl lc : Nat} {so : Nat → Option Addr} {n sc : Nat → Nat} {v : Value} {w W : World} {L : Nat → List Value} (h : Ap B gb gl lc so n sc v w W L) {k : Nat} (hk : k < 4) : W.cell? ⟨gl, k, none⟩ = some (.slice (so k) (n k) (sc k)) ∧ 4 ≤ lc := by
  obtain ⟨g, e, _, h4, h2, _⟩ := ownZ_at h.ls (by decide)
  have e1 : gl = g := by simpa using e
  subst e1
  refine ⟨h2 k _ ?_, h4⟩
  rcases (show k = 0 ∨ k = 1 ∨ k = 2 ∨ k = 3 by omega) with rfl | rfl | rfl | rfl <;> rfl
def upL (L : Nat → List Value) (k : Nat) (x : List Value) : Nat → List Value := fun j => if j = k then x else L j
theorem upL_same (L : Nat → List Value) (k : Nat) (x : List Value) : upL L k x k = x := if_pos rfl
theorem upL_other (L : Nat → List Value) {k j : Nat} (x : List Value) (h : j ≠ k) : upL L k x j = L j := if_neg h
theorem Ap.set {B gb gl lc : Nat} {so : Nat → Option Addr} {n sc : Nat → Nat} {v : Value} {w W : World} {L : Nat → List Value} (h : Ap B gb gl lc so n sc v w W L) {k g : Nat} (hk : k < 4) (hg : so k = some ⟨g, 0, none⟩) (hn : 0 < n k) (j : Nat) (x : Value) : Ap B gb gl lc so n sc v w (W.setCell ⟨g, j, none⟩ x) (upL L k ((L k).set j x)) := by
  have hown := h.own k hk
  have hob : (Value.slice (so k) (n k) (sc k)).ownBlock = some g := by rw [hg]; rfl
  have hBg : B ≤ g := own_baseT hown hob
  refine ⟨h.below.setCell (p := ⟨g, j, none⟩) hBg _, fun i hi => ?_, h.apart, own_setT h.ls (fun e => ?_), ?_, by rw [World.size_setCell]; exact h.le⟩
  · by_cases hik : i = k
    · subst hik
      rw [upL_same]
      rw [hg] at hown ⊢
      exact ownZ_set hown hn x
    · rw [upL_other _ _ hik]
      exact own_setT (h.own i hi) (h.apart k hk i hi (fun e => hik e.symm) g hob)
  · rcases hown.2 with ⟨e1, e2⟩ | ⟨g', cap', cur, e1, hb, hgg, _⟩
    · rw [hg] at e1; cases e1
    · rw [hg] at e1
      have e3 : g = g' := by simpa [Value.ownBlock] using congrArg Value.ownBlock e1
      subst e3
      exact own_typeT h.ls hgg (by decide) e
  · refine (Below.heap_setCell _ _ _ _ ?_).trans h.bk
    intro e
    have e4 : gb = g := e
    subst e4
    exact own_typeT hown h.bk (by decide) hob
/-- the lists ahead of k are marked, and i tokens of k -/
def P1 (B gb gl lc : Nat) (so : Nat → Option Addr) (n sc : Nat → Nat) (v : Value) (w W : World) (k i : Nat) : Prop := ∃ L, Ap B gb gl lc so n sc v w W L ∧ (∀ j, j < k → Mks j (n j) (L j)) ∧ Mks k i (L k)
theorem P1.keep {B gb gl lc : Nat} {so : Nat → Option Addr} {n sc : Nat → Nat} {v : Value} {w W W' : World} {k i : Nat} (h : P1 B gb gl lc so n sc v w W k i) (hb : Below W.heap.size W W') : P1 B gb gl lc so n sc v w W' k i := by
  obtain ⟨L, h1, h2, h3⟩ := h
  exact ⟨L, h1.keep hb, h2, h3⟩
theorem P1.up {B gb gl lc : Nat} {so : Nat → Option Addr} {n sc : Nat → Nat} {v : Value} {w W : World} {k : Nat} (h : P1 B gb gl lc so n sc v w W k (n k)) : P1 B gb gl lc so n sc v w W (k + 1) 0 := by
  obtain ⟨L, h1, h2, h3⟩ := h
  refine ⟨L, h1, fun j hj => ?_, Mks.zero _ _⟩
  rcases Nat.lt_or_ge j k with h | h
  · exact h2 j h
  · obtain rfl : j = k := by omega
    exact h3
theorem P1.mark {B gb gl lc : Nat} {so : Nat → Option Addr} {n sc : Nat → Nat} {v : Value} {w W : World} {k i g : Nat} (h : P1 B gb gl lc so n sc v w W k i) (hk : k < 4) (hi : i < n k) (hg : so k = some ⟨g, 0, none⟩) : P1 B gb gl lc so n sc v w ((((W.setCell ⟨g, i * 4, none⟩ (.int .i64 (-10 - (k : Int)))).setCell ⟨g, i * 4 + 1, none⟩ (.int .i64 0)).setCell ⟨g, i * 4 + 2, none⟩ (.int .i64 0)).setCell ⟨g, i * 4 + 3, none⟩ (.string (wbK k i))) k (i + 1) := by
  obtain ⟨L, h1, h2, h3⟩ := h
  have hlen := ownZ_len (h1.own k hk)
  refine ⟨_, (((h1.set hk hg (by omega) _ _).set hk hg (by omega) _ _).set hk hg (by omega) _ _).set hk hg (by omega) _ _, fun j hj => ?_, ?_⟩
  · rw [upL_other _ _ (by omega), upL_other _ _ (by omega), upL_other _ _ (by omega), upL_other _ _ (by omega)]
    exact h2 j hj
  · rw [upL_same, upL_same, upL_same, upL_same]
    exact h3.set (by rw [hlen]; omega)
/-- what a round of the marking reads and writes -/
theorem P1.cells {B gb gl lc : Nat} {so : Nat → Option Addr} {n sc : Nat → Nat} {v : Value} {w W : World} {k i : Nat} (h : P1 B gb gl lc so n sc v w W k i) (hk : k < 4) (hi : i < n k) : ∃ g, so k = some ⟨g, 0, none⟩ ∧ n k ≤ sc k ∧ (∃ y0 y1 y2 y3, W.cell? ⟨g, i * 4, none⟩ = some y0 ∧ W.cell? ⟨g, i * 4 + 1, none⟩ = some y1 ∧ W.cell? ⟨g, i * 4 + 2, none⟩ = some y2 ∧ W.cell? ⟨g, i * 4 + 3, none⟩ = some y3) ∧ ∀ j, W.frozen? ⟨g, j, none⟩ = false := by
  obtain ⟨L, h1, h2, h3⟩ := h
  obtain ⟨g, e, _, h4, h5, h6⟩ := ownZ_at (h1.own k hk) (by omega)
  have hlen := ownZ_len (h1.own k hk)
  refine ⟨g, e, h4, ⟨_, _, _, _, h5 _ _ (List.getElem?_eq_getElem (by omega)), h5 _ _ (List.getElem?_eq_getElem (by omega)), h5 _ _ (List.getElem?_eq_getElem (by omega)), h5 _ _ (List.getElem?_eq_getElem (by omega))⟩, h6⟩
end Go.Proofs.YtohclfgghobldaaGreatDoor
namespace Go.Proofs.YtohclfgghobldaaGreatDoor
open Go.RowKit Go.Shelf
set_option linter.unusedVariables false
set_option linter.unusedSimpArgs false

/-- marks that stand in memory -/
def RdM (W : World) (so : Option Addr) (k m : Nat) : Prop := m = 0 ∨ ∃ g cur, so = some ⟨g, 0, none⟩ ∧ W.heap[g]? = some (.cells cur 54 (0, 0)) ∧ ∀ i, i < m → cur[i * 4]? = some (.int .i64 (-10 - (k : Int))) ∧ cur[i * 4 + 1]? = some (.int .i64 0) ∧ cur[i * 4 + 2]? = some (.int .i64 0) ∧ cur[i * 4 + 3]? = some (.string (wbK k i))
theorem RdM.of_own {W : World} {B : Nat} {so : Option Addr} {n sc k : Nat} {L : List Value} (h : W.ownsRow B 54 4 (.slice so n sc) n L) {m : Nat} (hm : m ≤ n) (hk : Mks k m L) : RdM W so k m := by
  rcases h.2 with ⟨e, e2⟩ | ⟨g', cap', cur, e, hb, hg, h1, h2, h3, h4⟩
  · exact .inl (by omega)
  · simp only [Value.slice.injEq] at e
    obtain ⟨rfl, _, rfl⟩ := e
    refine .inr ⟨g', cur, rfl, hg, fun i hi => ?_⟩
    obtain ⟨a, b, c, d⟩ := hk i hi
    have key : ∀ j x, L[j]? = some x → cur[j]? = some x := fun j x hx => by
      rw [← h4, List.getElem?_take] at hx
      split at hx
      · rw [← Array.getElem?_toList]; exact hx
      · cases hx
    exact ⟨key _ _ a, key _ _ b, key _ _ c, key _ _ d⟩
theorem RdM.keep {W W' : World} {so : Option Addr} {k m : Nat} (h : RdM W so k m) (hb : ∀ g, so = some ⟨g, 0, none⟩ → g < W.heap.size → W'.heap[g]? = W.heap[g]?) : RdM W' so k m := by
  rcases h with h | ⟨g, cur, e, hg, hc⟩
  · exact .inl h
  · exact .inr ⟨g, cur, e, (hb g e (Array.getElem?_eq_some_iff.1 hg).1).trans hg, hc⟩
theorem RdM.cells {W : World} {so : Option Addr} {k m i : Nat} (h : RdM W so k m) (hi : i < m) : ∃ g, so = some ⟨g, 0, none⟩ ∧ g < W.heap.size ∧ W.cell? ⟨g, i * 4, none⟩ = some (.int .i64 (-10 - (k : Int))) ∧ W.cell? ⟨g, i * 4 + 1, none⟩ = some (.int .i64 0) ∧ W.cell? ⟨g, i * 4 + 2, none⟩ = some (.int .i64 0) ∧ W.cell? ⟨g, i * 4 + 3, none⟩ = some (.string (wbK k i)) := by
  rcases h with h | ⟨g, cur, e, hg, hc⟩
  · omega
  · obtain ⟨a, b, c, d⟩ := hc i hi
    refine ⟨g, e, (Array.getElem?_eq_some_iff.1 hg).1, ?_, ?_, ?_, ?_⟩
    · rw [cell_of_row _ _ _ _ _ _ hg]; exact a
    · rw [cell_of_row _ _ _ _ _ _ hg]; exact b
    · rw [cell_of_row _ _ _ _ _ _ hg]; exact c
    · rw [cell_of_row _ _ _ _ _ _ hg]; exact d
theorem own_keep {W W' : World} {B : Nat} {e : TypeId} {size : Nat} {v : Value} {n : Nat} {xs : List Value} (h : W.ownsRow B e size v n xs) (hb : ∀ b, v.ownBlock = some b → b < W.heap.size → W'.heap[b]? = W.heap[b]?) : W'.ownsRow B e size v n xs := by
  refine ⟨h.1, h.2.imp id ?_⟩
  rintro ⟨g, cap, cur, rfl, e2, e3, rest⟩
  exact ⟨g, cap, cur, rfl, e2, (hb g rfl (Array.getElem?_eq_some_iff.1 e3).1).trans e3, rest⟩

/-- the lists' values -/
def vK (so : Nat → Option Addr) (n sc : Nat → Nat) (k : Nat) : Value := .slice (so k) (n k) (sc k)
/-- while list k is grown: what stands round about -/
structure Sur (B gb gl lc : Nat) (so : Nat → Option Addr) (n sc : Nat → Nat) (v : Value) (w W : World) (k : Nat) (gv : Value) (so' : Nat → Option Addr) (sc' : Nat → Nat) (L : Nat → List Value) (own : Option Nat) : Prop where
  below : Below B w W
  le : B ≤ W.heap.size
  ls : W.ownsRow B 22 1 (.slice (some ⟨gl, 0, none⟩) 4 lc) 4 [.slice (so 0) (n 0) (sc 0), .slice (so 1) (n 1) (sc 1), .slice (so 2) (n 2) (sc 2), .slice (so 3) (n 3) (sc 3)]
  bk : BkAt W gb v
  gs : W.ownsRow B 22 1 gv k ((List.range k).map fun j => .slice (so' j) (n j + 70) (sc' j))
  gsne : gv.ownBlock ≠ some gl
  more : ∀ j, k < j → j < 4 → W.ownsRow B 54 4 (vK so n sc j) (n j) (L j) ∧ Mks j (n j) (L j)
  apart : ∀ i, i < 4 → ∀ j, j < 4 → i ≠ j → ∀ g, (vK so n sc i).ownBlock = some g → (vK so n sc j).ownBlock ≠ some g
  rd : ∀ j, j ≤ k → j < 4 → RdM W (so j) j (n j)
  rd' : ∀ j, j < k → RdM W (so' j) j (n j + 70)
  sep : ∀ j, j < k → ∀ g, (so j = some ⟨g, 0, none⟩ ∧ 0 < n j) ∨ so' j = some ⟨g, 0, none⟩ → own ≠ some g ∧ ∀ i, k < i → i < 4 → (vK so n sc i).ownBlock ≠ some g
  ap : ∀ j, k < j → j < 4 → ∀ g, (vK so n sc j).ownBlock = some g → own ≠ some g
/-- list k itself -/
structure P2i (B gb gl lc : Nat) (so : Nat → Option Addr) (n sc : Nat → Nat) (v : Value) (w W : World) (k i : Nat) (gv v7 : Value) : Prop where
  ex : ∃ so' sc' L L7, Sur B gb gl lc so n sc v w W k gv so' sc' L v7.ownBlock ∧ W.ownsRow B 54 4 v7 (n k + i) L7 ∧ Mks k (n k + i) L7
theorem Sur.keep {B gb gl lc : Nat} {so : Nat → Option Addr} {n sc : Nat → Nat} {v : Value} {w W W' : World} {k : Nat} {gv : Value} {so' : Nat → Option Addr} {sc' : Nat → Nat} {L : Nat → List Value} {own : Option Nat} (h : Sur B gb gl lc so n sc v w W k gv so' sc' L own) (hb : Below W.heap.size W W') : Sur B gb gl lc so n sc v w W' k gv so' sc' L own :=
  ⟨h.below.trans (hb.mono h.le), Nat.le_trans h.le hb.size, below_row hb h.ls, heap_lowT hb (Array.getElem?_eq_some_iff.1 h.bk).1 h.bk, below_row hb h.gs, h.gsne, fun j h1 h2 => ⟨below_row hb (h.more j h1 h2).1, (h.more j h1 h2).2⟩, h.apart, fun j h1 h2 => (h.rd j h1 h2).keep (fun g _ hg => hb.block g hg), fun j h1 => (h.rd' j h1).keep (fun g _ hg => hb.block g hg), h.sep, h.ap⟩
theorem P2i.keep {B gb gl lc : Nat} {so : Nat → Option Addr} {n sc : Nat → Nat} {v : Value} {w W W' : World} {k i : Nat} {gv v7 : Value} (h : P2i B gb gl lc so n sc v w W k i gv v7) (hb : Below W.heap.size W W') : P2i B gb gl lc so n sc v w W' k i gv v7 := by
  obtain ⟨so', sc', L, L7, h1, h2, h3⟩ := h.ex
  exact ⟨so', sc', L, L7, h1.keep hb, below_row hb h2, h3⟩
/-- a token's block is no list of lists' -/
theorem tok_ne {W : World} {B : Nat} {vt vl : Value} {nt nl : Nat} {xt xl : List Value} (ht : W.ownsRow B 54 4 vt nt xt) (hl : W.ownsRow B 22 1 vl nl xl) {g : Nat} (hg : vt.ownBlock = some g) : vl.ownBlock ≠ some g := by
  rcases ht.2 with ⟨rfl, _⟩ | ⟨g', cap, cur, rfl, e2, e3, _⟩
  · cases hg
  · simp [Value.ownBlock] at hg
    subst hg
    exact own_typeT hl e3 (by decide)
theorem tok_bk {W : World} {B : Nat} {vt : Value} {nt : Nat} {xt : List Value} {gb : Nat} {v : Value} (ht : W.ownsRow B 54 4 vt nt xt) (hb : BkAt W gb v) : vt.ownBlock ≠ some gb := own_typeT ht hb (by decide)
/-- a token put behind list k -/
theorem P2i.step {B gb gl lc : Nat} {so : Nat → Option Addr} {n sc : Nat → Nat} {v : Value} {w W W5 : World} {k i : Nat} {gv v7 v7' : Value} {so' : Nat → Option Addr} {sc' : Nat → Nat} {L : Nat → List Value} {L7 : List Value} (hk : k < 4) (h1 : Sur B gb gl lc so n sc v w W k gv so' sc' L v7.ownBlock) (h2 : W.ownsRow B 54 4 v7 (n k + i) L7) (h3 : Mks k (n k + i) L7) (hb : Below B w W5) (hsz : W.heap.size ≤ W5.heap.size)
    (h5 : W5.ownsRow B 54 4 v7' (n k + i + 1) (L7 ++ [.int .i64 (-10 - (k : Int)), .int .i64 0, .int .i64 0, .string (wbK k (n k + i))]))
    (hblk : ∀ b, b < W.heap.size → v7.ownBlock ≠ some b → W5.heap[b]? = W.heap[b]?)
    (hat : v7'.ownBlock = v7.ownBlock ∨ ((∃ g, v7'.ownBlock = some g ∧ W.heap.size ≤ g) ∧ ∀ b, b < W.heap.size → W5.heap[b]? = W.heap[b]?)) :
    P2i B gb gl lc so n sc v w W5 k (i + 1) gv v7' := by
  have hlen : L7.length = (n k + i) * 4 := h2.1
  refine ⟨so', sc', L, _, ⟨hb, Nat.le_trans h1.le hsz, ?_, ?_, ?_, h1.gsne, ?_, h1.apart, ?_, ?_, ?_, ?_⟩, h5, h3.app hlen⟩
  · exact own_keep h1.ls (fun b e hbl => hblk b hbl (fun e7 => tok_ne h2 h1.ls e7 e))
  · exact (hblk gb (Array.getElem?_eq_some_iff.1 h1.bk).1 (tok_bk h2 h1.bk)).trans h1.bk
  · exact own_keep h1.gs (fun b e hbl => hblk b hbl (fun e7 => tok_ne h2 h1.gs e7 e))
  · intro j hj1 hj2
    exact ⟨own_keep (h1.more j hj1 hj2).1 (fun b e hbl => hblk b hbl (h1.ap j hj1 hj2 b e)), (h1.more j hj1 hj2).2⟩
  · intro j hj1 hj2
    rcases Nat.lt_or_ge j k with hjk | hjk
    · by_cases hn0 : n j = 0
      · exact .inl hn0
      · exact (h1.rd j hj1 hj2).keep (fun g e hg => hblk g hg (h1.sep j hjk g (.inl ⟨e, by omega⟩)).1)
    · obtain rfl : j = k := by omega
      rcases hat with he | ⟨_, hall⟩
      · -- in place: either the block is another, or the list's own head tells it
        rcases h1.rd j hj1 hj2 with h0 | ⟨g, cur, e, hg, hc⟩
        · exact .inl h0
        · by_cases hgo : v7.ownBlock = some g
          · have hr := RdM.of_own (so := some ⟨g, 0, none⟩) (sc := (match v7' with | .slice _ _ c => c | _ => 0)) (k := j) (m := n j) (n := n j + i + 1) (W := W5) (B := B) (L := L7 ++ [.int .i64 (-10 - (j : Int)), .int .i64 0, .int .i64 0, .string (wbK j (n j + i))]) (by
              rcases h5.2 with ⟨rfl, e0⟩ | ⟨g5, cap5, cur5, rfl, _⟩
              · rw [hgo] at he; cases he
              · have : g5 = g := by rw [hgo] at he; simpa [Value.ownBlock] using he
                subst this
                exact h5) (by omega) (fun q hq => (h3.app hlen) q (by omega))
            rw [e]; exact hr
          · exact (RdM.keep (.inr ⟨g, cur, e, hg, hc⟩) (fun g2 e2 hg2 => hblk g2 hg2 (by
              have : g2 = g := by rw [e] at e2; simpa using e2.symm
              rw [this]; exact hgo)))
      · exact (h1.rd j hj1 hj2).keep (fun g e hg => hall g hg)
  · intro j hj1
    exact (h1.rd' j hj1).keep (fun g e hg => hblk g hg (h1.sep j hj1 g (.inr e)).1)
  · intro j hj1 g hg
    refine ⟨?_, (h1.sep j hj1 g hg).2⟩
    rcases hat with he | ⟨⟨g', he, hge⟩, _⟩
    · rw [he]; exact (h1.sep j hj1 g hg).1
    · rw [he]
      intro e
      have e' : g' = g := by simpa using e
      subst e'
      rcases hg with hg | hg
      · rcases h1.rd j (by omega) (by omega) with h0 | ⟨g2, cur, e2, hg2, _⟩
        · have := hg.2; omega
        · have : g2 = g' := by rw [hg.1] at e2; simpa using e2.symm
          subst this
          have := (Array.getElem?_eq_some_iff.1 hg2).1
          omega
      · rcases h1.rd' j hj1 with h0 | ⟨g2, cur, e2, hg2, _⟩
        · omega
        · have : g2 = g' := by rw [hg] at e2; simpa using e2.symm
          subst this
          have := (Array.getElem?_eq_some_iff.1 hg2).1
          omega
  · intro j hj1 hj2 g hg
    rcases hat with he | ⟨⟨g', he, hge⟩, _⟩
    · rw [he]; exact h1.ap j hj1 hj2 g hg
    · rw [he]
      intro e
      have e' : g' = g := by simpa using e
      subst e'
      have := own_ltT (h1.more j hj1 hj2).1 g' hg
      omega
theorem own_weaken {W : World} {B B' : Nat} {e : TypeId} {size : Nat} {v : Value} {n : Nat} {xs : List Value} (h : W.ownsRow B e size v n xs) (hB : B' ≤ B) : W.ownsRow B' e size v n xs := by
  refine ⟨h.1, h.2.imp id ?_⟩
  rintro ⟨g, cap, cur, rfl, e2, rest⟩
  exact ⟨g, cap, cur, rfl, Nat.le_trans hB e2, rest⟩
theorem Sur.at {B gb gl lc : Nat} {so : Nat → Option Addr} {n sc : Nat → Nat} {v : Value} {w W : World} {k : Nat} {gv : Value} {so' : Nat → Option Addr} {sc' : Nat → Nat} {L : Nat → List Value} {own : Option Nat} (h : Sur B gb gl lc so n sc v w W k gv so' sc' L own) {j : Nat} (hj : j < 4) : W.cell? ⟨gl, j, none⟩ = some (.slice (so j) (n j) (sc j)) := by
  obtain ⟨g, e, _, h4, h2, _⟩ := ownZ_at h.ls (by decide)
  have e1 : gl = g := by simpa using e
  subst e1
  refine h2 j _ ?_
  rcases (show j = 0 ∨ j = 1 ∨ j = 2 ∨ j = 3 by omega) with rfl | rfl | rfl | rfl <;> rfl
end Go.Proofs.YtohclfgghobldaaGreatDoor
namespace Go.Proofs.YtohclfgghobldaaGreatDoor
open Go.RowKit Go.Shelf
set_option linter.unusedVariables false
set_option linter.unusedSimpArgs false

/-- when all four are grown -/
structure P3 (B gb gl lc : Nat) (so : Nat → Option Addr) (n sc : Nat → Nat) (v : Value) (w W : World) (gv : Value) : Prop where
  ex : ∃ (so' : Nat → Option Addr) (sc' : Nat → Nat), Below B w W ∧ B ≤ W.heap.size ∧ W.ownsRow B 22 1 (.slice (some ⟨gl, 0, none⟩) 4 lc) 4 [.slice (so 0) (n 0) (sc 0), .slice (so 1) (n 1) (sc 1), .slice (so 2) (n 2) (sc 2), .slice (so 3) (n 3) (sc 3)] ∧ BkAt W gb v ∧
    W.ownsRow B 22 1 gv 4 ((List.range 4).map fun j => .slice (so' j) (n j + 70) (sc' j)) ∧ (∀ j, j < 4 → RdM W (so j) j (n j)) ∧ ∀ j, j < 4 → RdM W (so' j) j (n j + 70)
def P2 (B gb gl lc : Nat) (so : Nat → Option Addr) (n sc : Nat → Nat) (v : Value) (w W : World) (k : Nat) (gv : Value) : Prop := (k < 4 ∧ P2i B gb gl lc so n sc v w W k 0 gv (vK so n sc k)) ∨ (k = 4 ∧ P3 B gb gl lc so n sc v w W gv)
theorem P1.done {B gb gl lc : Nat} {so : Nat → Option Addr} {n sc : Nat → Nat} {v : Value} {w W : World} (h : P1 B gb gl lc so n sc v w W 4 0) : P2 B gb gl lc so n sc v w W 0 (.slice none 0 0) := by
  obtain ⟨L, h1, h2, _⟩ := h
  refine .inl ⟨by decide, fun j => so j, sc, L, L 0, ⟨h1.below, h1.le, h1.ls, h1.bk, World.ownsRow_nil _ _ _ _, (fun e => by cases e), fun j _ hj => ⟨h1.own j hj, h2 j hj⟩, h1.apart, fun j hj hj4 => ?_, fun j hj => absurd hj (Nat.not_lt_zero _), fun j hj => absurd hj (Nat.not_lt_zero _), fun j hj hj4 g hg => h1.apart j hj4 0 (by decide) (by omega) g hg⟩, h1.own 0 (by decide), h2 0 (by decide)⟩
  exact RdM.of_own (h1.own j hj4) (Nat.le_refl _) (h2 j hj4)
theorem gs_ne {W : World} {B : Nat} {gv : Value} {k : Nat} {xs : List Value} {so : Option Addr} {j m g : Nat} (hgs : W.ownsRow B 22 1 gv k xs) (hr : RdM W so j m) (hm : m ≠ 0) (he : so = some ⟨g, 0, none⟩) : gv.ownBlock ≠ some g := by
  rcases hr with h | ⟨g2, cur, e, hg, _⟩
  · exact absurd h hm
  · have : g2 = g := by rw [he] at e; simpa using e.symm
    subst this
    exact own_typeT hgs hg (by decide)
theorem RdM.keep2 {W W' : World} {B : Nat} {gv : Value} {k : Nat} {xs : List Value} {so : Option Addr} {j m : Nat} (hgs : W.ownsRow B 22 1 gv k xs) (hblk : ∀ b, b < W.heap.size → gv.ownBlock ≠ some b → W'.heap[b]? = W.heap[b]?) (hr : RdM W so j m) : RdM W' so j m := by
  by_cases hm : m = 0
  · exact .inl hm
  · exact hr.keep (fun g e hg => hblk g hg (gs_ne hgs hr hm e))
def upS {α : Type} (f : Nat → α) (k : Nat) (x : α) : Nat → α := fun j => if j = k then x else f j
theorem upS_same {α : Type} (f : Nat → α) (k : Nat) (x : α) : upS f k x k = x := if_pos rfl
theorem upS_other {α : Type} (f : Nat → α) {k j : Nat} (x : α) (h : j ≠ k) : upS f k x j = f j := if_neg h
theorem range_up (so' : Nat → Option Addr) (sc' n : Nat → Nat) (k : Nat) (s7 : Option Addr) (c7 : Nat) : (List.range (k + 1)).map (fun j => Value.slice (upS so' k s7 j) (n j + 70) (upS sc' k c7 j)) = (List.range k).map (fun j => Value.slice (so' j) (n j + 70) (sc' j)) ++ [.slice s7 (n k + 70) c7] := by
  rw [List.range_succ, List.map_append]
  congr 1
  · apply List.map_congr_left
    intro j hj
    have : j < k := List.mem_range.1 hj
    rw [upS_other _ _ (by omega), upS_other _ _ (by omega)]
  · simp [upS]
theorem P2i.next {B gb gl lc : Nat} {so : Nat → Option Addr} {n sc : Nat → Nat} {v : Value} {w W W' : World} {k : Nat} {gv gv' : Value} {s7 : Option Addr} {c7 : Nat} {so' : Nat → Option Addr} {sc' : Nat → Nat} {L : Nat → List Value} {L7 : List Value} (hk : k < 4) (h1 : Sur B gb gl lc so n sc v w W k gv so' sc' L (Value.slice s7 (n k + 70) c7).ownBlock) (h2 : W.ownsRow B 54 4 (.slice s7 (n k + 70) c7) (n k + 70) L7) (h3 : Mks k (n k + 70) L7) (hb : Below B w W') (hsz : W.heap.size ≤ W'.heap.size)
    (hgs : W'.ownsRow B 22 1 gv' (k + 1) ((List.range k).map (fun j => .slice (so' j) (n j + 70) (sc' j)) ++ [.slice s7 (n k + 70) c7]))
    (hblk : ∀ b, b < W.heap.size → gv.ownBlock ≠ some b → W'.heap[b]? = W.heap[b]?) (hne : gv'.ownBlock ≠ some gl) : P2 B gb gl lc so n sc v w W' (k + 1) gv' := by
  have hls := own_keep h1.ls (W' := W') (fun b e hbl => hblk b hbl (by
    have : b = gl := by simpa [Value.ownBlock] using e.symm
    rw [this]; exact h1.gsne))
  have hbk : BkAt W' gb v := (hblk gb (Array.getElem?_eq_some_iff.1 h1.bk).1 (own_typeT h1.gs h1.bk (by decide))).trans h1.bk
  rw [← range_up so' sc' n k s7 c7] at hgs
  have hrd : ∀ j, j ≤ k → j < 4 → RdM W' (so j) j (n j) := fun j a b => RdM.keep2 h1.gs hblk (h1.rd j a b)
  have hrow : ∀ {vt : Value} {nt : Nat} {xt : List Value}, W.ownsRow B 54 4 vt nt xt → W'.ownsRow B 54 4 vt nt xt := fun ht => own_keep ht (fun b e hbl => hblk b hbl (tok_ne ht h1.gs e))
  have hrd' : ∀ j, j < k + 1 → RdM W' (upS so' k s7 j) j (n j + 70) := by
    intro j hj
    rcases Nat.lt_or_ge j k with hjk | hjk
    · rw [upS_other _ _ (by omega)]
      exact RdM.keep2 h1.gs hblk (h1.rd' j hjk)
    · obtain rfl : j = k := by omega
      rw [upS_same]
      exact RdM.of_own (hrow h2) (Nat.le_refl _) h3
  by_cases hk4 : k + 1 < 4
  · have hm := h1.more (k + 1) (by omega) hk4
    refine .inl ⟨hk4, upS so' k s7, upS sc' k c7, L, L (k + 1), ⟨hb, Nat.le_trans h1.le hsz, hls, hbk, hgs, hne, ?_, h1.apart, ?_, hrd', ?_, ?_⟩, hrow hm.1, hm.2⟩
    · intro j hj1 hj2
      exact ⟨hrow (h1.more j (by omega) hj2).1, (h1.more j (by omega) hj2).2⟩
    · intro j hj1 hj2
      rcases Nat.lt_or_ge j (k + 1) with hjk | hjk
      · exact hrd j (by omega) hj2
      · obtain rfl : j = k + 1 := by omega
        exact RdM.of_own (hrow hm.1) (Nat.le_refl _) hm.2
    · intro j hj1 g hg
      rcases Nat.lt_or_ge j k with hjk | hjk
      · rw [upS_other _ _ (by omega)] at hg
        have hs := (h1.sep j hjk g hg).2
        exact ⟨hs (k + 1) (by omega) hk4, fun i hi1 hi2 => hs i (by omega) hi2⟩
      · obtain rfl : j = k := by omega
        rw [upS_same] at hg
        rcases hg with ⟨hg, hn0⟩ | hg
        · have hvb : (vK so n sc j).ownBlock = some g := by unfold vK; rw [hg]; rfl
          exact ⟨h1.apart j hk (j + 1) hk4 (by omega) g hvb, fun i hi1 hi2 => h1.apart j hk i hi2 (by omega) g hvb⟩
        · have hvb : (Value.slice s7 (n j + 70) c7).ownBlock = some g := by rw [hg]; rfl
          exact ⟨fun e => h1.ap (j + 1) (by omega) hk4 g e hvb, fun i hi1 hi2 e => h1.ap i (by omega) hi2 g e hvb⟩
    · intro j hj1 hj2 g hg
      exact h1.apart j hj2 (k + 1) hk4 (by omega) g hg
  · obtain rfl : k = 3 := by omega
    exact .inr ⟨rfl, upS so' 3 s7, upS sc' 3 c7, hb, Nat.le_trans h1.le hsz, hls, hbk, hgs, fun j hj => hrd j (by omega) hj, hrd'⟩
theorem P2.keep {B gb gl lc : Nat} {so : Nat → Option Addr} {n sc : Nat → Nat} {v : Value} {w W W' : World} {k : Nat} {gv : Value} (h : P2 B gb gl lc so n sc v w W k gv) (hb : Below W.heap.size W W') : P2 B gb gl lc so n sc v w W' k gv := by
  rcases h with ⟨h1, h2⟩ | ⟨h1, h2⟩
  · exact .inl ⟨h1, h2.keep hb⟩
  · obtain ⟨so', sc', a, b, c, d, e, f, g⟩ := h2.ex
    exact .inr ⟨h1, so', sc', a.trans (hb.mono b), Nat.le_trans b hb.size, below_row hb c, heap_lowT hb (Array.getElem?_eq_some_iff.1 d).1 d, below_row hb e, fun j hj => (f j hj).keep (fun g _ hg => hb.block g hg), fun j hj => (g j hj).keep (fun g _ hg => hb.block g hg)⟩
end Go.Proofs.YtohclfgghobldaaGreatDoor
