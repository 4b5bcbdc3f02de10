import Derived.Test.YtohclfgghobldaaGreatDoorZBK8
namespace Go.Proofs.YtohclfgghobldaaGreatDoor
open Go.RowKit Go.Shelf
set_option linter.unusedVariables false
set_option linter.unusedSimpArgs false

/-- when all four are grown -/
structure P3 (B gb gl lc : Nat) (so : Nat → Option Addr) (n sc : Nat → Nat) (v : Value) (w W : World) (gv : Value) : Prop where
  ex : ∃ (so' : Nat → Option Addr) (sc' : Nat → Nat), Below B w W ∧ B ≤ W.heap.size ∧ W.ownsRow B 22 1 (.slice (some ⟨gl, 0, none⟩) 4 lc) 4 [.slice (so 0) (n 0) (sc 0), .slice (so 1) (n 1) (sc 1), .slice (so 2) (n 2) (sc 2), .slice (so 3) (n 3) (sc 3)] ∧ BkAt W gb v ∧
    W.ownsRow B 22 1 gv 4 ((List.range 4).map fun j => .slice (so' j) (n j + 70) (sc' j)) ∧ (∀ j, j < 4 → RdM W (so j) j (n j)) ∧ ∀ j, j < 4 → RdM W (so' j) j (n j + 70)
def P2 (B gb gl lc : Nat) (so : Nat → Option Addr) (n sc : Nat → Nat) (v : Value) (w W : World) (k : Nat) (gv : Value) : Prop := (k < 4 ∧ P2i B gb gl lc so n sc v w W k 0 gv (vK so n sc k)) ∨ (k = 4 ∧ P3 B gb gl lc so n sc v w W gv)
theorem P1.done {B gb gl lc : Nat} {so : Nat → Option Addr} {n sc : Nat → Nat} {v : Value} {w W : World} (h : P1 B gb gl lc so n sc v w W 4 0) : P2 B gb gl lc so n sc v w W 0 (.slice none 0 0) := by
  obtain ⟨L, h1, h2, _⟩ := h
  refine .inl ⟨by decide, fun j => so j, sc, L, L 0, ⟨h1.below, h1.le, h1.ls, h1.bk, World.ownsRow_nil _ _ _ _, (fun e => by cases e), fun j _ hj => ⟨h1.own j hj, h2 j hj⟩, h1.apart, fun j hj hj4 => ?_, fun j hj => absurd hj (Nat.not_lt_zero _), fun j hj => absurd hj (Nat.not_lt_zero _), fun j hj hj4 g hg => h1.apart j hj4 0 (by decide) (by omega) g hg⟩, h1.own 0 (by decide), h2 0 (by decide)⟩
  exact RdM.of_own (h1.own j hj4) (Nat.le_refl _) (h2 j hj4)
theorem gs_ne {W : World} {B : Nat} {gv : Value} {k : Nat} {xs : List Value} {so : Option Addr} {j m g : Nat} (hgs : W.ownsRow B 22 1 gv k xs) (hr : RdM W so j m) (hm : m ≠ 0) (he : so = some ⟨g, 0, none⟩) : gv.ownBlock ≠ some g := by
  rcases hr with h | ⟨g2, cur, e, hg, _⟩
  · exact absurd h hm
  · have : g2 = g := by rw [he] at e; simpa using e.symm
    subst this
    exact own_typeT hgs hg (by decide)
theorem RdM.keep2 {W W' : World} {B : Nat} {gv : Value} {k : Nat} {xs : List Value} {so : Option Addr} {j m : Nat} (hgs : W.ownsRow B 22 1 gv k xs) (hblk : ∀ b, b < W.heap.size → gv.ownBlock ≠ some b → W'.heap[b]? = W.heap[b]?) (hr : RdM W so j m) : RdM W' so j m := by
  by_cases hm : m = 0
  · exact .inl hm
  · exact hr.keep (fun g e hg => hblk g hg (gs_ne hgs hr hm e))
def upS {α : Type} (f : Nat → α) (k : Nat) (x : α) : Nat → α := fun j => if j = k then x else f j
theorem upS_same {α : Type} (f : Nat → α) (k : Nat) (x : α) : upS f k x k = x := if_pos rfl
theorem upS_other {α : Type} (f : Nat → α) {k j : Nat} (x : α) (h : j ≠ k) : upS f k x j = f j := if_neg h
theorem range_up (so' : Nat → Option Addr) (sc' n : Nat → Nat) (k : Nat) (s7 : Option Addr) (c7 : Nat) : (List.range (k + 1)).map (fun j => Value.slice (upS so' k s7 j) (n j + 70) (upS sc' k c7 j)) = (List.range k).map (fun j => Value.slice (so' j) (n j + 70) (sc' j)) ++ [.slice s7 (n k + 70) c7] := by
  rw [List.range_succ, List.map_append]
  congr 1
  · apply List.map_congr_left
    intro j hj
    have : j < k := List.mem_range.1 hj
    rw [upS_other _ _ (by omega), upS_other _ _ (by omega)]
  · simp [upS]
theorem P2i.next {B gb gl lc : Nat} {so : Nat → Option Addr} {n sc : Nat → Nat} {v : Value} {w W W' : World} {k : Nat} {gv gv' : Value} {s7 : Option Addr} {c7 : Nat} {so' : Nat → Option Addr} {sc' : Nat → Nat} {L : Nat → List Value} {L7 : List Value} (hk : k < 4) (h1 : Sur B gb gl lc so n sc v w W k gv so' sc' L (Value.slice s7 (n k + 70) c7).ownBlock) (h2 : W.ownsRow B 54 4 (.slice s7 (n k + 70) c7) (n k + 70) L7) (h3 : Mks k (n k + 70) L7) (hb : Below B w W') (hsz : W.heap.size ≤ W'.heap.size)
    (hgs : W'.ownsRow B 22 1 gv' (k + 1) ((List.range k).map (fun j => .slice (so' j) (n j + 70) (sc' j)) ++ [.slice s7 (n k + 70) c7]))
    (hblk : ∀ b, b < W.heap.size → gv.ownBlock ≠ some b → W'.heap[b]? = W.heap[b]?) (hne : gv'.ownBlock ≠ some gl) : P2 B gb gl lc so n sc v w W' (k + 1) gv' := by
  have hls := own_keep h1.ls (W' := W') (fun b e hbl => hblk b hbl (by
    have : b = gl := by simpa [Value.ownBlock] using e.symm
    rw [this]; exact h1.gsne))
  have hbk : BkAt W' gb v := (hblk gb (Array.getElem?_eq_some_iff.1 h1.bk).1 (own_typeT h1.gs h1.bk (by decide))).trans h1.bk
  rw [← range_up so' sc' n k s7 c7] at hgs
  have hrd : ∀ j, j ≤ k → j < 4 → RdM W' (so j) j (n j) := fun j a b => RdM.keep2 h1.gs hblk (h1.rd j a b)
  have hrow : ∀ {vt : Value} {nt : Nat} {xt : List Value}, W.ownsRow B 54 4 vt nt xt → W'.ownsRow B 54 4 vt nt xt := fun ht => own_keep ht (fun b e hbl => hblk b hbl (tok_ne ht h1.gs e))
  have hrd' : ∀ j, j < k + 1 → RdM W' (upS so' k s7 j) j (n j + 70) := by
    intro j hj
    rcases Nat.lt_or_ge j k with hjk | hjk
    · rw [upS_other _ _ (by omega)]
      exact RdM.keep2 h1.gs hblk (h1.rd' j hjk)
    · obtain rfl : j = k := by omega
      rw [upS_same]
      exact RdM.of_own (hrow h2) (Nat.le_refl _) h3
  by_cases hk4 : k + 1 < 4
  · have hm := h1.more (k + 1) (by omega) hk4
    refine .inl ⟨hk4, upS so' k s7, upS sc' k c7, L, L (k + 1), ⟨hb, Nat.le_trans h1.le hsz, hls, hbk, hgs, hne, ?_, h1.apart, ?_, hrd', ?_, ?_⟩, hrow hm.1, hm.2⟩
    · intro j hj1 hj2
      exact ⟨hrow (h1.more j (by omega) hj2).1, (h1.more j (by omega) hj2).2⟩
    · intro j hj1 hj2
      rcases Nat.lt_or_ge j (k + 1) with hjk | hjk
      · exact hrd j (by omega) hj2
      · obtain rfl : j = k + 1 := by omega
        exact RdM.of_own (hrow hm.1) (Nat.le_refl _) hm.2
    · intro j hj1 g hg
      rcases Nat.lt_or_ge j k with hjk | hjk
      · rw [upS_other _ _ (by omega)] at hg
        have hs := (h1.sep j hjk g hg).2
        exact ⟨hs (k + 1) (by omega) hk4, fun i hi1 hi2 => hs i (by omega) hi2⟩
      · obtain rfl : j = k := by omega
        rw [upS_same] at hg
        rcases hg with ⟨hg, hn0⟩ | hg
        · have hvb : (vK so n sc j).ownBlock = some g := by unfold vK; rw [hg]; rfl
          exact ⟨h1.apart j hk (j + 1) hk4 (by omega) g hvb, fun i hi1 hi2 => h1.apart j hk i hi2 (by omega) g hvb⟩
        · have hvb : (Value.slice s7 (n j + 70) c7).ownBlock = some g := by rw [hg]; rfl
          exact ⟨fun e => h1.ap (j + 1) (by omega) hk4 g e hvb, fun i hi1 hi2 e => h1.ap i (by omega) hi2 g e hvb⟩
    · intro j hj1 hj2 g hg
      exact h1.apart j hj2 (k + 1) hk4 (by omega) g hg
  · obtain rfl : k = 3 := by omega
    exact .inr ⟨rfl, upS so' 3 s7, upS sc' 3 c7, hb, Nat.le_trans h1.le hsz, hls, hbk, hgs, fun j hj => hrd j (by omega) hj, hrd'⟩
theorem P2.keep {B gb gl lc : Nat} {so : Nat → Option Addr} {n sc : Nat → Nat} {v : Value} {w W W' : World} {k : Nat} {gv : Value} (h : P2 B gb gl lc so n sc v w W k gv) (hb : Below W.heap.size W W') : P2 B gb gl lc so n sc v w W' k gv := by
  rcases h with ⟨h1, h2⟩ | ⟨h1, h2⟩
  · exact .inl ⟨h1, h2.keep hb⟩
  · obtain ⟨so', sc', a, b, c, d, e, f, g⟩ := h2.ex
    exact .inr ⟨h1, so', sc', a.trans (hb.mono b), Nat.le_trans b hb.size, below_row hb c, heap_lowT hb (Array.getElem?_eq_some_iff.1 d).1 d, below_row hb e, fun j hj => (f j hj).keep (fun g _ hg => hb.block g hg), fun j hj => (g j hj).keep (fun g _ hg => hb.block g hg)⟩
end Go.Proofs.YtohclfgghobldaaGreatDoor
