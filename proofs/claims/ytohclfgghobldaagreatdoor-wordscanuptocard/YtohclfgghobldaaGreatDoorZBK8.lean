import Derived.Test.YtohclfgghobldaaGreatDoorZBK6
namespace Go.Proofs.YtohclfgghobldaaGreatDoor
open Go.RowKit Go.Shelf
set_option linter.unusedVariables false
set_option linter.unusedSimpArgs false

/-- marks that stand in memory -/
def RdM (W : World) (so : Option Addr) (k m : Nat) : Prop := m = 0 ∨ ∃ g cur, so = some ⟨g, 0, none⟩ ∧ W.heap[g]? = some (.cells cur 54 (0, 0)) ∧ ∀ i, i < m → cur[i * 4]? = some (.int .i64 (-10 - (k : Int))) ∧ cur[i * 4 + 1]? = some (.int .i64 0) ∧ cur[i * 4 + 2]? = some (.int .i64 0) ∧ cur[i * 4 + 3]? = some (.string (wbK k i))
theorem RdM.of_own {W : World} {B : Nat} {so : Option Addr} {n sc k : Nat} {L : List Value} (h : W.ownsRow B 54 4 (.slice so n sc) n L) {m : Nat} (hm : m ≤ n) (hk : Mks k m L) : RdM W so k m := by
  rcases h.2 with ⟨e, e2⟩ | ⟨g', cap', cur, e, hb, hg, h1, h2, h3, h4⟩
  · exact .inl (by omega)
  · simp only [Value.slice.injEq] at e
    obtain ⟨rfl, _, rfl⟩ := e
    refine .inr ⟨g', cur, rfl, hg, fun i hi => ?_⟩
    obtain ⟨a, b, c, d⟩ := hk i hi
    have key : ∀ j x, L[j]? = some x → cur[j]? = some x := fun j x hx => by
      rw [← h4, List.getElem?_take] at hx
      split at hx
      · rw [← Array.getElem?_toList]; exact hx
      · cases hx
    exact ⟨key _ _ a, key _ _ b, key _ _ c, key _ _ d⟩
theorem RdM.keep {W W' : World} {so : Option Addr} {k m : Nat} (h : RdM W so k m) (hb : ∀ g, so = some ⟨g, 0, none⟩ → g < W.heap.size → W'.heap[g]? = W.heap[g]?) : RdM W' so k m := by
  rcases h with h | ⟨g, cur, e, hg, hc⟩
  · exact .inl h
  · exact .inr ⟨g, cur, e, (hb g e (Array.getElem?_eq_some_iff.1 hg).1).trans hg, hc⟩
theorem RdM.cells {W : World} {so : Option Addr} {k m i : Nat} (h : RdM W so k m) (hi : i < m) : ∃ g, so = some ⟨g, 0, none⟩ ∧ g < W.heap.size ∧ W.cell? ⟨g, i * 4, none⟩ = some (.int .i64 (-10 - (k : Int))) ∧ W.cell? ⟨g, i * 4 + 1, none⟩ = some (.int .i64 0) ∧ W.cell? ⟨g, i * 4 + 2, none⟩ = some (.int .i64 0) ∧ W.cell? ⟨g, i * 4 + 3, none⟩ = some (.string (wbK k i)) := by
  rcases h with h | ⟨g, cur, e, hg, hc⟩
  · omega
  · obtain ⟨a, b, c, d⟩ := hc i hi
    refine ⟨g, e, (Array.getElem?_eq_some_iff.1 hg).1, ?_, ?_, ?_, ?_⟩
    · rw [cell_of_row _ _ _ _ _ _ hg]; exact a
    · rw [cell_of_row _ _ _ _ _ _ hg]; exact b
    · rw [cell_of_row _ _ _ _ _ _ hg]; exact c
    · rw [cell_of_row _ _ _ _ _ _ hg]; exact d
theorem own_keep {W W' : World} {B : Nat} {e : TypeId} {size : Nat} {v : Value} {n : Nat} {xs : List Value} (h : W.ownsRow B e size v n xs) (hb : ∀ b, v.ownBlock = some b → b < W.heap.size → W'.heap[b]? = W.heap[b]?) : W'.ownsRow B e size v n xs := by
  refine ⟨h.1, h.2.imp id ?_⟩
  rintro ⟨g, cap, cur, rfl, e2, e3, rest⟩
  exact ⟨g, cap, cur, rfl, e2, (hb g rfl (Array.getElem?_eq_some_iff.1 e3).1).trans e3, rest⟩

/-- the lists' values -/
def vK (so : Nat → Option Addr) (n sc : Nat → Nat) (k : Nat) : Value := .slice (so k) (n k) (sc k)
/-- while list k is grown: what stands round about -/
structure Sur (B gb gl lc : Nat) (so : Nat → Option Addr) (n sc : Nat → Nat) (v : Value) (w W : World) (k : Nat) (gv : Value) (so' : Nat → Option Addr) (sc' : Nat → Nat) (L : Nat → List Value) (own : Option Nat) : Prop where
  below : Below B w W
  le : B ≤ W.heap.size
  ls : W.ownsRow B 22 1 (.slice (some ⟨gl, 0, none⟩) 4 lc) 4 [.slice (so 0) (n 0) (sc 0), .slice (so 1) (n 1) (sc 1), .slice (so 2) (n 2) (sc 2), .slice (so 3) (n 3) (sc 3)]
  bk : BkAt W gb v
  gs : W.ownsRow B 22 1 gv k ((List.range k).map fun j => .slice (so' j) (n j + 70) (sc' j))
  gsne : gv.ownBlock ≠ some gl
  more : ∀ j, k < j → j < 4 → W.ownsRow B 54 4 (vK so n sc j) (n j) (L j) ∧ Mks j (n j) (L j)
  apart : ∀ i, i < 4 → ∀ j, j < 4 → i ≠ j → ∀ g, (vK so n sc i).ownBlock = some g → (vK so n sc j).ownBlock ≠ some g
  rd : ∀ j, j ≤ k → j < 4 → RdM W (so j) j (n j)
  rd' : ∀ j, j < k → RdM W (so' j) j (n j + 70)
  sep : ∀ j, j < k → ∀ g, (so j = some ⟨g, 0, none⟩ ∧ 0 < n j) ∨ so' j = some ⟨g, 0, none⟩ → own ≠ some g ∧ ∀ i, k < i → i < 4 → (vK so n sc i).ownBlock ≠ some g
  ap : ∀ j, k < j → j < 4 → ∀ g, (vK so n sc j).ownBlock = some g → own ≠ some g
/-- list k itself -/
structure P2i (B gb gl lc : Nat) (so : Nat → Option Addr) (n sc : Nat → Nat) (v : Value) (w W : World) (k i : Nat) (gv v7 : Value) : Prop where
  ex : ∃ so' sc' L L7, Sur B gb gl lc so n sc v w W k gv so' sc' L v7.ownBlock ∧ W.ownsRow B 54 4 v7 (n k + i) L7 ∧ Mks k (n k + i) L7
theorem Sur.keep {B gb gl lc : Nat} {so : Nat → Option Addr} {n sc : Nat → Nat} {v : Value} {w W W' : World} {k : Nat} {gv : Value} {so' : Nat → Option Addr} {sc' : Nat → Nat} {L : Nat → List Value} {own : Option Nat} (h : Sur B gb gl lc so n sc v w W k gv so' sc' L own) (hb : Below W.heap.size W W') : Sur B gb gl lc so n sc v w W' k gv so' sc' L own :=
  ⟨h.below.trans (hb.mono h.le), Nat.le_trans h.le hb.size, below_row hb h.ls, heap_lowT hb (Array.getElem?_eq_some_iff.1 h.bk).1 h.bk, below_row hb h.gs, h.gsne, fun j h1 h2 => ⟨below_row hb (h.more j h1 h2).1, (h.more j h1 h2).2⟩, h.apart, fun j h1 h2 => (h.rd j h1 h2).keep (fun g _ hg => hb.block g hg), fun j h1 => (h.rd' j h1).keep (fun g _ hg => hb.block g hg), h.sep, h.ap⟩
theorem P2i.keep {B gb gl lc : Nat} {so : Nat → Option Addr} {n sc : Nat → Nat} {v : Value} {w W W' : World} {k i : Nat} {gv v7 : Value} (h : P2i B gb gl lc so n sc v w W k i gv v7) (hb : Below W.heap.size W W') : P2i B gb gl lc so n sc v w W' k i gv v7 := by
  obtain ⟨so', sc', L, L7, h1, h2, h3⟩ := h.ex
  exact ⟨so', sc', L, L7, h1.keep hb, below_row hb h2, h3⟩
/-- a token's block is no list of lists' -/
theorem tok_ne {W : World} {B : Nat} {vt vl : Value} {nt nl : Nat} {xt xl : List Value} (ht : W.ownsRow B 54 4 vt nt xt) (hl : W.ownsRow B 22 1 vl nl xl) {g : Nat} (hg : vt.ownBlock = some g) : vl.ownBlock ≠ some g := by
  rcases ht.2 with ⟨rfl, _⟩ | ⟨g', cap, cur, rfl, e2, e3, _⟩
  · cases hg
  · simp [Value.ownBlock] at hg
    subst hg
    exact own_typeT hl e3 (by decide)
theorem tok_bk {W : World} {B : Nat} {vt : Value} {nt : Nat} {xt : List Value} {gb : Nat} {v : Value} (ht : W.ownsRow B 54 4 vt nt xt) (hb : BkAt W gb v) : vt.ownBlock ≠ some gb := own_typeT ht hb (by decide)
/-- a token put behind list k -/
theorem P2i.step {B gb gl lc : Nat} {so : Nat → Option Addr} {n sc : Nat → Nat} {v : Value} {w W W5 : World} {k i : Nat} {gv v7 v7' : Value} {so' : Nat → Option Addr} {sc' : Nat → Nat} {L : Nat → List Value} {L7 : List Value} (hk : k < 4) (h1 : Sur B gb gl lc so n sc v w W k gv so' sc' L v7.ownBlock) (h2 : W.ownsRow B 54 4 v7 (n k + i) L7) (h3 : Mks k (n k + i) L7) (hb : Below B w W5) (hsz : W.heap.size ≤ W5.heap.size)
    (h5 : W5.ownsRow B 54 4 v7' (n k + i + 1) (L7 ++ [.int .i64 (-10 - (k : Int)), .int .i64 0, .int .i64 0, .string (wbK k (n k + i))]))
    (hblk : ∀ b, b < W.heap.size → v7.ownBlock ≠ some b → W5.heap[b]? = W.heap[b]?)
    (hat : v7'.ownBlock = v7.ownBlock ∨ ((∃ g, v7'.ownBlock = some g ∧ W.heap.size ≤ g) ∧ ∀ b, b < W.heap.size → W5.heap[b]? = W.heap[b]?)) :
    P2i B gb gl lc so n sc v w W5 k (i + 1) gv v7' := by
  have hlen : L7.length = (n k + i) * 4 := h2.1
  refine ⟨so', sc', L, _, ⟨hb, Nat.le_trans h1.le hsz, ?_, ?_, ?_, h1.gsne, ?_, h1.apart, ?_, ?_, ?_, ?_⟩, h5, h3.app hlen⟩
  · exact own_keep h1.ls (fun b e hbl => hblk b hbl (fun e7 => tok_ne h2 h1.ls e7 e))
  · exact (hblk gb (Array.getElem?_eq_some_iff.1 h1.bk).1 (tok_bk h2 h1.bk)).trans h1.bk
  · exact own_keep h1.gs (fun b e hbl => hblk b hbl (fun e7 => tok_ne h2 h1.gs e7 e))
  · intro j hj1 hj2
    exact ⟨own_keep (h1.more j hj1 hj2).1 (fun b e hbl => hblk b hbl (h1.ap j hj1 hj2 b e)), (h1.more j hj1 hj2).2⟩
  · intro j hj1 hj2
    rcases Nat.lt_or_ge j k with hjk | hjk
    · by_cases hn0 : n j = 0
      · exact .inl hn0
      · exact (h1.rd j hj1 hj2).keep (fun g e hg => hblk g hg (h1.sep j hjk g (.inl ⟨e, by omega⟩)).1)
    · obtain rfl : j = k := by omega
      rcases hat with he | ⟨_, hall⟩
      · -- in place: either the block is another, or the list's own head tells it
        rcases h1.rd j hj1 hj2 with h0 | ⟨g, cur, e, hg, hc⟩
        · exact .inl h0
        · by_cases hgo : v7.ownBlock = some g
          · have hr := RdM.of_own (so := some ⟨g, 0, none⟩) (sc := (match v7' with | .slice _ _ c => c | _ => 0)) (k := j) (m := n j) (n := n j + i + 1) (W := W5) (B := B) (L := L7 ++ [.int .i64 (-10 - (j : Int)), .int .i64 0, .int .i64 0, .string (wbK j (n j + i))]) (by
              rcases h5.2 with ⟨rfl, e0⟩ | ⟨g5, cap5, cur5, rfl, _⟩
              · rw [hgo] at he; cases he
              · have : g5 = g := by rw [hgo] at he; simpa [Value.ownBlock] using he
                subst this
                exact h5) (by omega) (fun q hq => (h3.app hlen) q (by omega))
            rw [e]; exact hr
          · exact (RdM.keep (.inr ⟨g, cur, e, hg, hc⟩) (fun g2 e2 hg2 => hblk g2 hg2 (by
              have : g2 = g := by rw [e] at e2; simpa using e2.symm
              rw [this]; exact hgo)))
      · exact (h1.rd j hj1 hj2).keep (fun g e hg => hall g hg)
  · intro j hj1
    exact (h1.rd' j hj1).keep (fun g e hg => hblk g hg (h1.sep j hj1 g (.inr e)).1)
  · intro j hj1 g hg
    refine ⟨?_, (h1.sep j hj1 g hg).2⟩
    rcases hat with he | ⟨⟨g', he, hge⟩, _⟩
    · rw [he]; exact (h1.sep j hj1 g hg).1
    · rw [he]
      intro e
      have e' : g' = g := by simpa using e
      subst e'
      rcases hg with hg | hg
      · rcases h1.rd j (by omega) (by omega) with h0 | ⟨g2, cur, e2, hg2, _⟩
        · have := hg.2; omega
        · have : g2 = g' := by rw [hg.1] at e2; simpa using e2.symm
          subst this
          have := (Array.getElem?_eq_some_iff.1 hg2).1
          omega
      · rcases h1.rd' j hj1 with h0 | ⟨g2, cur, e2, hg2, _⟩
        · omega
        · have : g2 = g' := by rw [hg] at e2; simpa using e2.symm
          subst this
          have := (Array.getElem?_eq_some_iff.1 hg2).1
          omega
  · intro j hj1 hj2 g hg
    rcases hat with he | ⟨⟨g', he, hge⟩, _⟩
    · rw [he]; exact h1.ap j hj1 hj2 g hg
    · rw [he]
      intro e
      have e' : g' = g := by simpa using e
      subst e'
      have := own_ltT (h1.more j hj1 hj2).1 g' hg
      omega
theorem own_weaken {W : World} {B B' : Nat} {e : TypeId} {size : Nat} {v : Value} {n : Nat} {xs : List Value} (h : W.ownsRow B e size v n xs) (hB : B' ≤ B) : W.ownsRow B' e size v n xs := by
  refine ⟨h.1, h.2.imp id ?_⟩
  rintro ⟨g, cap, cur, rfl, e2, rest⟩
  exact ⟨g, cap, cur, rfl, Nat.le_trans hB e2, rest⟩
theorem Sur.at {B gb gl lc : Nat} {so : Nat → Option Addr} {n sc : Nat → Nat} {v : Value} {w W : World} {k : Nat} {gv : Value} {so' : Nat → Option Addr} {sc' : Nat → Nat} {L : Nat → List Value} {own : Option Nat} (h : Sur B gb gl lc so n sc v w W k gv so' sc' L own) {j : Nat} (hj : j < 4) : W.cell? ⟨gl, j, none⟩ = some (.slice (so j) (n j) (sc j)) := by
  obtain ⟨g, e, _, h4, h2, _⟩ := ownZ_at h.ls (by decide)
  have e1 : gl = g := by simpa using e
  subst e1
  refine h2 j _ ?_
  rcases (show j = 0 ∨ j = 1 ∨ j = 2 ∨ j = 3 by omega) with rfl | rfl | rfl | rfl <;> rfl
end Go.Proofs.YtohclfgghobldaaGreatDoor
