import Derived.Test.YtfjmgccbpiolhaaGreatDoorMW11
import Derived.Test.YtfjmgccbpiolhaaGreatDoorMW22
import Derived.Deep.AppendLies
namespace Go.Proofs.YtfjmgccbpiolhaaGreatDoor
open Go.RowKit
set_option linter.unusedVariables false
set_option linter.unusedSimpArgs false

def lnT : Nat → TypeId
  | 0 => 47
  | 1 => 120
  | 4 => 22
  | 6 => 129
  | 7 => 134
  | 8 => 135
  | 9 => 142
  | _ => 0
def lnE : Nat → TypeId
  | 0 => 9
  | 4 => 49
  | _ => 0
def lnZ : Nat → Nat
  | 4 => 5
  | _ => 1
def lnM : Nat → Nat → List Value
  | 0, i => [.string (wbL i)]
  | 4, i => [.int .i64 (-1), .string (wbL i), .string ⟨#[]⟩, .slice none 0 0, .slice none 0 0]
  | _, _ => []
def lnU {α : Type} (f : Nat → α) (k : Nat) (x : α) : Nat → α := fun j => if j = k then x else f j
theorem lnU_same {α : Type} (f : Nat → α) (k : Nat) (x : α) : lnU f k x k = x := if_pos rfl
theorem lnU_other {α : Type} (f : Nat → α) {k j : Nat} (x : α) (h : j ≠ k) : lnU f k x j = f j := if_neg h
theorem lnT_E {j : Nat} (hj : j = 0 ∨ j = 4) (k : Nat) : lnT k ≠ lnE j := by
  rcases hj with rfl | rfl <;> (unfold lnT lnE; split <;> decide)
theorem lnT_inj {j k : Nat} (hj : j = 0 ∨ j = 4) (hk : k ≠ j) : lnT k ≠ lnT j := by
  rcases hj with rfl | rfl
  · show lnT k ≠ 47
    unfold lnT
    split <;> first | decide | exact absurd rfl hk
  · show lnT k ≠ 22
    unfold lnT
    split <;> first | decide | exact absurd rfl hk
def MkR (w : World) (B j : Nat) (x : Value) : Prop := ∃ g nn cap cur, x = .slice (some ⟨g, 0, none⟩) nn cap ∧ 16 ≤ nn ∧ nn ≤ 1099511627776 ∧ nn ≤ cap ∧ B < g ∧ w.heap[g]? = some (.cells cur (lnE j) (0, 0)) ∧ ∀ i, i < 16 → ∀ k u, (lnM j i)[k]? = some u → cur[(nn - 16 + i) * lnZ j + k]? = some u
structure LnAt (B : Nat) (w : World) (c : Nat → Value) (n : Nat → Nat) (xs : Nat → List Value) : Prop where
  box : w.heap[B]? = some (.cells #[c 0, c 1, c 2, c 3, c 4, c 5, c 6, c 7, c 8, c 9, c 10, c 11, c 12, c 13, c 14, c 15] 42 (0, 0))
  own : ∀ j, w.ownsRow (B + 1) (lnT j) 1 (c j) (n j) (xs j)
  mks : ∀ j, j = 0 ∨ j = 4 → ∀ x ∈ xs j, MkR w B j x
  nil : ∀ j, j ≠ 0 → j ≠ 4 → c j = .slice none 0 0
structure KpL (B : Nat) (c c' : Nat → Value) (w w' : World) : Prop where
  os : w'.os = w.os
  tape : w'.tape = w.tape
  output : w'.output = w.output
  size : w.heap.size ≤ w'.heap.size
  block : ∀ b, b < w.heap.size → b ≠ B → (∀ j, (c j).ownBlock ≠ some b) → w'.heap[b]? = w.heap[b]?
  row : ∀ j, (c' j).ownBlock = (c j).ownBlock ∨ ∀ g, (c' j).ownBlock = some g → w.heap.size ≤ g
def LnD (B : Nat) (c : Nat → Value) (b : Nat) : Prop := B < b ∧ ∀ j, (c j).ownBlock ≠ some b
theorem lnOwn_keep {W W' : World} {B : Nat} {e : TypeId} {size : Nat} {v : Value} {n : Nat} {xs : List Value} (h : W.ownsRow B e size v n xs) (hb : ∀ b, v.ownBlock = some b → b < W.heap.size → W'.heap[b]? = W.heap[b]?) : W'.ownsRow B e size v n xs := by
  refine ⟨h.1, h.2.imp id ?_⟩
  rintro ⟨g, cap, cur, rfl, e2, e3, rest⟩
  exact ⟨g, cap, cur, rfl, e2, (hb g rfl (Array.getElem?_eq_some_iff.1 e3).1).trans e3, rest⟩
theorem lnOwn_type {w : World} {B : Nat} {e t : TypeId} {size : Nat} {v : Value} {n : Nat} {xs : List Value} {g : Nat} {cs : Array Value} {f : Nat × Nat} (h : w.ownsRow B e size v n xs) (hg : w.heap[g]? = some (.cells cs t f)) (ht : t ≠ e) : v.ownBlock ≠ some g := by
  intro hb
  rcases h.2 with ⟨rfl, _⟩ | ⟨g', cap, cur, rfl, e2, e3, _⟩
  · cases hb
  · simp [Value.ownBlock] at hb
    subst hb
    rw [hg] at e3
    simp at e3
    exact ht e3.2.1
theorem lnOwn_cur {w : World} {B : Nat} {e : TypeId} {size : Nat} {v : Value} {n : Nat} {xs : List Value} {g : Nat} (h : w.ownsRow B e size v n xs) (hg : v.ownBlock = some g) : ∃ cs, w.heap[g]? = some (.cells cs e (0, 0)) := by
  rcases h.2 with ⟨rfl, _⟩ | ⟨g', cap, cur, rfl, e2, e3, _⟩
  · cases hg
  · simp [Value.ownBlock] at hg
    subst hg
    exact ⟨cur, e3⟩
theorem LnAt.lt {B : Nat} {w : World} {c : Nat → Value} {n : Nat → Nat} {xs : Nat → List Value} (h : LnAt B w c n xs) : B < w.heap.size := (Array.getElem?_eq_some_iff.1 h.box).1
theorem LnAt.base {B : Nat} {w : World} {c : Nat → Value} {n : Nat → Nat} {xs : Nat → List Value} (h : LnAt B w c n xs) {j b : Nat} (hb : (c j).ownBlock = some b) : B + 1 ≤ b ∧ b < w.heap.size := (h.own j).lt b hb
theorem MkR.keep {w w' : World} {B j : Nat} {x : Value} (h : MkR w B j x) (hs : ∀ b cs, B < b → w.heap[b]? = some (.cells cs (lnE j) (0, 0)) → w'.heap[b]? = w.heap[b]?) : MkR w' B j x := by
  obtain ⟨g, nn, cap, cur, e, h1, h2, h3, h4, h5, h6⟩ := h
  exact ⟨g, nn, cap, cur, e, h1, h2, h3, h4, (hs g cur h4 h5).trans h5, h6⟩
theorem LnAt.keep {B : Nat} {w w' : World} {c : Nat → Value} {n : Nat → Nat} {xs : Nat → List Value} (h : LnAt B w c n xs) (hb : Below w.heap.size w w') : LnAt B w' c n xs :=
  ⟨(hb.block B h.lt).trans h.box, fun j => lnOwn_keep (h.own j) (fun b _ hl => hb.block b hl), fun j hj x hx => (h.mks j hj x hx).keep (fun b cs _ he => hb.block b (Array.getElem?_eq_some_iff.1 he).1), h.nil⟩
theorem LnAt.keepD {B : Nat} {w w' : World} {c : Nat → Value} {n : Nat → Nat} {xs : Nat → List Value} (h : LnAt B w c n xs) (hbx : w'.heap[B]? = w.heap[B]?) (hr : ∀ j b, (c j).ownBlock = some b → w'.heap[b]? = w.heap[b]?) (hm : ∀ j, j = 0 ∨ j = 4 → ∀ x ∈ xs j, MkR w B j x → MkR w' B j x) : LnAt B w' c n xs :=
  ⟨hbx.trans h.box, fun j => lnOwn_keep (h.own j) (fun b hb _ => hr j b hb), fun j hj x hx => hm j hj x hx (h.mks j hj x hx), h.nil⟩
theorem KpL.refl (B : Nat) (c : Nat → Value) (w : World) : KpL B c c w w := ⟨rfl, rfl, rfl, Nat.le_refl _, fun _ _ _ _ => rfl, fun _ => .inl rfl⟩
theorem KpL.trans {B : Nat} {c c1 c2 : Nat → Value} {w w1 w2 : World} (h : KpL B c c1 w w1) (k : KpL B c1 c2 w1 w2) : KpL B c c2 w w2 := by
  refine ⟨k.os.trans h.os, k.tape.trans h.tape, k.output.trans h.output, Nat.le_trans h.size k.size, fun b hb h1 h2 => ?_, fun j => ?_⟩
  · refine (k.block b (Nat.lt_of_lt_of_le hb h.size) h1 (fun j e => ?_)).trans (h.block b hb h1 h2)
    rcases h.row j with r | r
    · exact h2 j (r ▸ e)
    · have := r b e; omega
  · rcases k.row j with r | r
    · rcases h.row j with r2 | r2
      · exact .inl (r.trans r2)
      · exact .inr (fun g e => r2 g (r ▸ e))
    · exact .inr (fun g e => Nat.le_trans h.size (r g e))
theorem KpL.low {B : Nat} {c : Nat → Value} {w w' : World} (hb : Below w.heap.size w w') : KpL B c c w w' := ⟨hb.os, hb.tape, hb.output, hb.size, fun b h1 _ _ => hb.block b h1, fun _ => .inl rfl⟩
theorem KpL.below {B : Nat} {c c' : Nat → Value} {n : Nat → Nat} {xs : Nat → List Value} {w w' : World} (h : KpL B c c' w w') (hl : LnAt B w c n xs) : Below B w w' :=
  ⟨h.os, h.tape, h.output, h.size, fun b hb => h.block b (Nat.lt_trans hb hl.lt) (by omega) (fun j e => by have := (hl.base e).1; omega)⟩
theorem LnD.keep {B : Nat} {c c' : Nat → Value} {w w' : World} (h : KpL B c c' w w') {b : Nat} (hd : LnD B c b) (hl : b < w.heap.size) : LnD B c' b := ⟨hd.1, fun j e => by
  rcases h.row j with r | r
  · exact hd.2 j (r ▸ e)
  · have := r b e; omega⟩
def LnFr (w : World) (xs xs' : Nat → List Value) : Prop := ∀ j, j = 0 ∨ j = 4 → ∀ x ∈ xs' j, x ∈ xs j ∨ ∀ g, x.ownBlock = some g → w.heap.size ≤ g
theorem LnFr.refl (w : World) (xs : Nat → List Value) : LnFr w xs xs := fun _ _ _ h => .inl h
theorem LnFr.trans {w w1 : World} {xs xs1 xs2 : Nat → List Value} (h : LnFr w xs xs1) (k : LnFr w1 xs1 xs2) (hs : w.heap.size ≤ w1.heap.size) : LnFr w xs xs2 := fun j hj x hx => by
  rcases k j hj x hx with h1 | h1
  · exact h j hj x h1
  · exact .inr (fun g e => Nat.le_trans hs (h1 g e))
theorem MkR.lt {w : World} {B j : Nat} {x : Value} (h : MkR w B j x) {g : Nat} (hg : x.ownBlock = some g) : g < w.heap.size ∧ B < g := by
  obtain ⟨g', nn, cap, cur, rfl, h1, h2, h3, h4, h5, h6⟩ := h
  simp [Value.ownBlock] at hg
  subst hg
  exact ⟨(Array.getElem?_eq_some_iff.1 h5).1, h4⟩
theorem LnAt.other {B q : Nat} {w w' : World} {c : Nat → Value} {n : Nat → Nat} {xs : Nat → List Value} (h : LnAt B w c n xs) (hq : q ≠ B) (hc : ∀ j, (c j).ownBlock ≠ some q) (hx : ∀ j, j = 0 ∨ j = 4 → ∀ x ∈ xs j, x.ownBlock ≠ some q) (hs : ∀ b, b < w.heap.size → b ≠ q → w'.heap[b]? = w.heap[b]?) : LnAt B w' c n xs := by
  refine h.keepD (hs B h.lt (fun e => hq e.symm)) (fun j b hb => hs b (h.base hb).2 (fun e => hc j (e ▸ hb))) (fun j hj x hxx hm => ?_)
  have hne := hx j hj x hxx
  obtain ⟨g, nn, cap, cur, rfl, h1, h2, h3, h4, h5, h6⟩ := hm
  exact ⟨g, nn, cap, cur, rfl, h1, h2, h3, h4, (hs g (Array.getElem?_eq_some_iff.1 h5).1 (fun e => hne (by simp [Value.ownBlock, e]))).trans h5, h6⟩
theorem LnAt.push {B : Nat} {w : World} {c : Nat → Value} {n : Nat → Nat} {xs : Nat → List Value} (h : LnAt B w c n xs) {j : Nat} (hj : j = 0 ∨ j = 4) {tmp : Obj} {W5 w6 : World} {x : Value} {g cap : Nat}
    (hown : W5.ownsRow (B + 1) (lnT j) 1 (.slice (some ⟨g, 0, none⟩) (n j + 1) cap) (n j + 1) (xs j ++ [x])) (hgrow : (w.alloc tmp).grownBy W5 (c j).ownBlock) (hat : (c j).ownBlock = some g ∨ g = w.heap.size + 1) (hx : MkR w B j x)
    (h6 : W5.setCell ⟨B, j, none⟩ (.slice (some ⟨g, 0, none⟩) (n j + 1) cap) = w6) :
    LnAt B w6 (lnU c j (.slice (some ⟨g, 0, none⟩) (n j + 1) cap)) (lnU n j (n j + 1)) (lnU xs j (xs j ++ [x])) ∧ KpL B c (lnU c j (.slice (some ⟨g, 0, none⟩) (n j + 1) cap)) w w6 := by
  have hB := h.lt
  have blk : ∀ b, b < w.heap.size → (c j).ownBlock ≠ some b → W5.heap[b]? = w.heap[b]? := fun b hb hn => (hgrow.block b (by simp; omega) (fun e => hn e.symm)).trans (Below.heap_alloc _ _ _ hb)
  have hnB : ∀ k, (c k).ownBlock ≠ some B := fun k e => by have := (h.base e).1; omega
  have hgB : B + 1 ≤ g := by
    rcases hat with e | e
    · exact (h.base e).1
    · omega
  have blk6 : ∀ b, b < w.heap.size → b ≠ B → (c j).ownBlock ≠ some b → w6.heap[b]? = w.heap[b]? := fun b hb h1 hn => by
    rw [← h6]
    exact (Below.heap_setCell _ _ _ _ h1).trans (blk b hb hn)
  have hbox5 : W5.heap[B]? = some (.cells #[c 0, c 1, c 2, c 3, c 4, c 5, c 6, c 7, c 8, c 9, c 10, c 11, c 12, c 13, c 14, c 15] 42 (0, 0)) := (blk B hB (hnB j)).trans h.box
  have hz : w6.heap.size = W5.heap.size := by rw [← h6]; simp
  have hgs := hgrow.size
  simp at hgs
  have hbel : Below B w w6 := by
    rw [← h6]
    exact (((Below.refl B w).alloc (Nat.le_of_lt hB) _).grown hgrow (by simp; omega) (fun r e => by have := (h.base e).1; omega)).setCell (p := ⟨B, j, none⟩) (Nat.le_refl _) _
  refine ⟨⟨?_, fun k => ?_, fun k hk y hy => ?_, fun k k0 k4 => ?_⟩, ⟨hbel.os, hbel.tape, hbel.output, by omega, fun b hb h1 h2 => blk6 b hb h1 (h2 j), fun k => ?_⟩⟩
  · rw [← h6]
    have e : (W5.setCell ⟨B, j, none⟩ (.slice (some ⟨g, 0, none⟩) (n j + 1) cap)).heap[B]? = some (.cells (#[c 0, c 1, c 2, c 3, c 4, c 5, c 6, c 7, c 8, c 9, c 10, c 11, c 12, c 13, c 14, c 15].setIfInBounds j (.slice (some ⟨g, 0, none⟩) (n j + 1) cap)) 42 (0, 0)) := by
      show (W5.heap.modify B _)[B]? = _
      rw [Array.getElem?_modify, if_pos rfl, hbox5]; rfl
    rw [e]
    rcases hj with rfl | rfl <;> simp [lnU]
  · by_cases hk : k = j
    · subst hk
      rw [lnU_same, lnU_same, lnU_same, ← h6]
      exact lnOwn_keep hown (fun b hb _ => Below.heap_setCell _ _ _ _ (by simp [Value.ownBlock] at hb; show b ≠ B; omega))
    · rw [lnU_other _ _ hk, lnU_other _ _ hk, lnU_other _ _ hk]
      refine lnOwn_keep (h.own k) (fun b hb hl => blk6 b hl (fun e => hnB k (e ▸ hb)) (fun e => ?_))
      obtain ⟨cs, he⟩ := lnOwn_cur (h.own k) hb
      exact lnOwn_type (h.own j) he (lnT_inj hj hk) e
  · have hy' : MkR w B k y := by
      by_cases hkj : k = j
      · subst hkj
        rw [lnU_same] at hy
        rcases List.mem_append.1 hy with hy | hy
        · exact h.mks k hk y hy
        · rcases List.mem_singleton.1 hy with rfl; exact hx
      · rw [lnU_other _ _ hkj] at hy
        exact h.mks k hk y hy
    exact hy'.keep (fun b cs hb he => blk6 b (Array.getElem?_eq_some_iff.1 he).1 (by omega) (lnOwn_type (h.own j) he (fun e => lnT_E hk j e.symm)))
  · rw [lnU_other _ _ (by rcases hj with rfl | rfl <;> omega)]
    exact h.nil k k0 k4
  · by_cases hk : k = j
    · subst hk
      rw [lnU_same]
      rcases hat with e | e
      · exact .inl e.symm
      · exact .inr (fun q hq => by simp [Value.ownBlock] at hq; omega)
    · rw [lnU_other _ _ hk]; exact .inl rfl

def InL (D : Nat → Prop) (W : World) : Nat → VT → Value → Prop
  | 0, _, _ => False
  | h + 1, T, v => ∃ (io : Option Addr) (icap : Nat) (ko : Option Addr) (kcap : Nat),
      v = .agg #[.int .i64 T.kind, .string T.num, .string T.text, .slice io T.items.length icap, .slice ko T.keys.length kcap] ∧
      T.num.size ≤ 140737488355328 ∧ T.text.size ≤ 140737488355328 ∧ T.items.length ≤ 140737488355328 ∧ T.keys.length ≤ 140737488355328 ∧ T.items.length ≤ icap ∧ T.keys.length ≤ kcap ∧
      (∀ k ∈ T.keys, k.size ≤ 140737488355328) ∧
      (0 < T.keys.length → ∃ b off, ko = some ⟨b, off, none⟩ ∧ D b ∧ b < W.heap.size ∧ ∀ i, i < T.keys.length → W.cell? ⟨b, off + i, none⟩ = some (.string (T.keys.getD i .empty))) ∧
      (0 < T.items.length → ∃ b off, io = some ⟨b, off, none⟩ ∧ D b ∧ b < W.heap.size ∧ ∀ i, (hi : i < T.items.length) → ∃ v0 v1 v2 v3 v4 : Value,
        (W.cell? ⟨b, off + i * 5, none⟩ = some v0 ∧ W.cell? ⟨b, off + i * 5 + 1, none⟩ = some v1 ∧ W.cell? ⟨b, off + i * 5 + 2, none⟩ = some v2 ∧ W.cell? ⟨b, off + i * 5 + 3, none⟩ = some v3 ∧ W.cell? ⟨b, off + i * 5 + 4, none⟩ = some v4) ∧ InL D W h T.items[i] (.agg #[v0, v1, v2, v3, v4]))
theorem InL.keep {D D' : Nat → Prop} {W W' : World} (hz : W.heap.size ≤ W'.heap.size) (hs : ∀ b, D b → b < W.heap.size → W'.heap[b]? = W.heap[b]?) (hlo : ∀ b, D b → b < W.heap.size → D' b) : ∀ {h : Nat} {T : VT} {v : Value}, InL D W h T v → InL D' W' h T v
  | 0, _, _, h => h
  | h + 1, T, v, hI => by
    obtain ⟨io, icap, ko, kcap, e, a1, a2, a3, a4, a5, a6, a7, hk, hi⟩ := hI
    have cc : ∀ b o u, D b → b < W.heap.size → W.cell? ⟨b, o, none⟩ = some u → W'.cell? ⟨b, o, none⟩ = some u := fun b o u h1 h2 h3 => (World.cell?_of_block (a := ⟨b, o, none⟩) (hs b h1 h2)).trans h3
    refine ⟨io, icap, ko, kcap, e, a1, a2, a3, a4, a5, a6, a7, fun h0 => ?_, fun h0 => ?_⟩
    · obtain ⟨b, off, e2, hb, hl, hc⟩ := hk h0
      exact ⟨b, off, e2, hlo b hb hl, Nat.lt_of_lt_of_le hl hz, fun i hi => cc _ _ _ hb hl (hc i hi)⟩
    · obtain ⟨b, off, e2, hb, hl, hc⟩ := hi h0
      refine ⟨b, off, e2, hlo b hb hl, Nat.lt_of_lt_of_le hl hz, fun i hil => ?_⟩
      obtain ⟨v0, v1, v2, v3, v4, ⟨c0, c1, c2, c3, c4⟩, ht⟩ := hc i hil
      exact ⟨v0, v1, v2, v3, v4, ⟨cc _ _ _ hb hl c0, cc _ _ _ hb hl c1, cc _ _ _ hb hl c2, cc _ _ _ hb hl c3, cc _ _ _ hb hl c4⟩, InL.keep hz hs hlo ht⟩
theorem InL.toH {D : Nat → Prop} {W : World} : ∀ {h : Nat} {T : VT} {v : Value}, InL D W h T v → InH W h T v
  | 0, _, _, h => h
  | h + 1, T, v, hI => by
    obtain ⟨io, icap, ko, kcap, e, a1, a2, a3, a4, a5, a6, a7, hk, hi⟩ := hI
    refine ⟨io, icap, ko, kcap, e, a1, a2, a3, a4, a5, a6, a7, ⟨fun h0 => ?_⟩, fun h0 => ?_⟩
    · obtain ⟨b, off, e2, _, hl, hc⟩ := hk h0
      exact ⟨b, off, e2, hl, hc⟩
    · obtain ⟨b, off, e2, _, hl, hc⟩ := hi h0
      refine ⟨b, off, e2, hl, fun i hil => ?_⟩
      obtain ⟨v0, v1, v2, v3, v4, c, ht⟩ := hc i hil
      exact ⟨v0, v1, v2, v3, v4, c, InL.toH ht⟩
theorem InL.kp {B : Nat} {c c' : Nat → Value} {w w' : World} (k : KpL B c c' w w') {h : Nat} {T : VT} {v : Value} (hI : InL (LnD B c) w h T v) : InL (LnD B c') w' h T v :=
  InL.keep k.size (fun b hb hl => k.block b hl (by have := hb.1; omega) hb.2) (fun b hb hl => LnD.keep k hb hl) hI
end Go.Proofs.YtfjmgccbpiolhaaGreatDoor
namespace Go.Proofs.YtfjmgccbpiolhaaGreatDoor
open Go.RowKit
set_option linter.unusedVariables false
set_option linter.unusedSimpArgs false
attribute [local go_sem] Oper.semAt_some

theorem Tryz.infoLs : (Tryz.prog.info? 9).map (fun i => (i.zero, i.size, i.bytes)) = some (some (.string ⟨#[]⟩), 1, 16) := by kernel_rfl
theorem Tryz.infoLss : (Tryz.prog.info? 47).map (fun i => (i.zero, i.size, i.bytes)) = some (some (.slice none 0 0), 1, 24) := by kernel_rfl
def lsT (keys : List ByteArray) (k : Nat) : List Value := (keys.take k).map Value.string
def lsM (k : Nat) : List Value := (List.range k).map fun i => Value.string (wbL i)
theorem lsT_up {keys : List ByteArray} {k : Nat} (hk : k < keys.length) : lsT keys (k + 1) = lsT keys k ++ [.string (keys.getD k .empty)] := by
  unfold lsT
  rw [List.take_succ_eq_append_getElem hk, List.map_append]
  simp [List.getD, hk]
theorem lsM_up (k : Nat) : lsM (k + 1) = lsM k ++ [.string (wbL k)] := by
  unfold lsM
  rw [List.range_succ, List.map_append]
  rfl
theorem lsT_len (keys : List ByteArray) : (lsT keys keys.length).length = keys.length := by unfold lsT; simp
theorem lsT_get {keys : List ByteArray} {i : Nat} (hi : i < keys.length) : (lsT keys keys.length)[i]? = some (.string (keys.getD i .empty)) := by
  unfold lsT
  rw [List.take_length, List.getElem?_map, List.getElem?_eq_getElem hi]
  simp [List.getD, hi]
theorem lsM_get {i : Nat} (k : Nat) (hi : i < k) : (lsM k)[i]? = some (.string (wbL i)) := by
  unfold lsM
  rw [List.getElem?_map, List.getElem?_range hi]
  rfl
theorem own_curL {w : World} {lo g n cap size : Nat} {e : TypeId} {xs : List Value} (h : w.ownsRow lo e size (.slice (some ⟨g, 0, none⟩) n cap) n xs) (hn : 0 < n) : ∃ cur, w.heap[g]? = some (.cells cur e (0, 0)) ∧ lo ≤ g ∧ n ≤ cap ∧ cap ≤ maxLen ∧ cur.size = cap * size ∧ ∀ (j : Nat) (u : Value), xs[j]? = some u → cur[j]? = some u := by
  rcases h.2 with ⟨_, h0⟩ | ⟨g', cap', cur, e1, e2, e3, e4, e5, e6, e7⟩
  · omega
  · simp only [Value.slice.injEq, Option.some.injEq, Addr.mk.injEq, and_true, true_and] at e1
    obtain ⟨rfl, rfl⟩ := e1
    refine ⟨cur, e3, e2, e4, e5, e6, fun j u hu => ?_⟩
    rw [← e7, List.getElem?_take] at hu
    split at hu
    · rw [← Array.getElem?_toList]; exact hu
    · cases hu
structure LsR (B K : Nat) (keys : List ByteArray) (c c' : Nat → Value) (n n' : Nat → Nat) (xs xs' : Nat → List Value) (w w' : World) (g cap : Nat) : Prop where
  loan : LnAt B w' c' n' xs'
  fr : LnFr w xs xs'
  kp : KpL B c c' w w'
  dom : LnD B c' g
  new : w.heap.size ≤ g
  lt : g < w'.heap.size
  fit : K ≤ cap
  num : n' 0 = n 0 + 1 ∧ ∀ j, j ≠ 0 → n' j = n j
  cells : ∀ i, i < K → w'.cell? ⟨g, i, none⟩ = some (.string (keys.getD i .empty))

set_option maxRecDepth 100000 in
set_option maxHeartbeats 3200000 in
theorem w_lStrings (B : Nat) (ko : Option Addr) (K kcap : Nat) (keys : List ByteArray) (w0 w : World) (c : Nat → Value) (n : Nat → Nat) (xs : Nat → List Value) (hk : KIn w0 ko keys) (hK : keys.length = K) (hcap : K ≤ kcap) (hK2 : K ≤ 1048577) (h0 : Below w0.heap.size w0 w) (hB : w0.heap.size ≤ B) (hL : LnAt B w c n xs) (hn : n 0 ≤ 1099511627776) :
    Calls Tryz.prog 56 #[.pointer (some ⟨B, 0, none⟩), .slice ko K kcap] w fun e w' => ∃ g cap c' n' xs', e = .returned (.slice (some ⟨g, 0, none⟩) K cap) ∧ Hid (LsR B K keys c c' n n' xs xs' w w' g cap) := by
  obtain ⟨i0, hi0, hz0, hz1, hz2⟩ := info_parts Tryz.infoLs
  obtain ⟨i1, hi1, hy0, hy1, hy2⟩ := info_parts Tryz.infoLss
  have HK := Hid.mk (hk.keep h0)
  have HKK := Hid.mk hK
  have HL := Hid.mk hL
  have hBl := hL.lt
  obtain ⟨M0, hM0⟩ : ∃ M0, n 0 = M0 := ⟨_, rfl⟩
  have HM0 := Hid.mk hM0
  rw [hM0] at hn
  clear hk hK hL h0 hB hM0
  go_enter Tryz.func56, Tryz.ntmps56
  go_wp2_with fail
  go_loopw [5, 6] (fun v i wr => ∃ k : Nat, k ≤ K ∧ i = .int .i64 (k : Int) ∧ Hid (wr.ownsRow w.heap.size 9 1 v k (lsT keys k)) ∧ Hid (Below w.heap.size w wr)) (fun _ i _ => K - (intOf i).toNat)
  case atStart => exact ⟨0, Nat.zero_le _, rfl, World.ownsRow_nil _ _ _ _, Below.refl _ _⟩
  case round =>
    obtain ⟨k, hk, rfl, HO, HB⟩ := hrel
    by_cases hlt : k < K
    · have hl1 : (k : Int) < (K : Int) := by omega
      have hl0 : (0 : Int) ≤ (k : Int) := by omega
      have hkl : k < keys.length := by rw [HKK.out]; exact hlt
      obtain ⟨b, off, rfl, hbl, hrow⟩ := (HK.out.keep HB.out).row (by omega)
      have c0 := hrow k hkl
      have HUp := Hid.mk (lsT_up hkl)
      generalize keys.getD k .empty = key at c0 HUp
      have ho := HO.out
      have hle : w.heap.size ≤ wr.heap.size := HB.out.size
      clear hrow hbl hkl
      go_wp2_with (at_builtin; go_loud (refine wpList_append_own _ rfl _ _ 47 rfl w.heap.size 9 i0 (.string ⟨#[]⟩) 1 16 Tryz.underlying47 hi0 hz0 hz1 hz2 rfl (by decide) _ _ _ rfl (ho.alloc _) ⟨wr.heap.size, 0, none⟩ 1 1 [.string key] rfl rfl (World.news_of_block (cs := #[.string key]) (t := 9) (fr := (0, 0)) (heap_alloc_new wr _)) (by intro u hu; simp at hu; subst hu; rfl) (by unfold maxLen; omega) (by omega) (by simp; omega) ?_))
      intro v' w5 hown' hgrow _
      have HB5 : Hid (Below w.heap.size w w5) := (HB.out.alloc hle _).grown hgrow (by simp; omega) (fun r e => (ho.lt r e).1)
      have HO5 : Hid (w5.ownsRow w.heap.size 9 1 v' (k + 1) (lsT keys (k + 1))) := by show World.ownsRow _ _ _ _ _ _ _; rw [HUp.out]; exact hown'
      clear hown' hgrow ho c0
      go_wp2_with fail
      go_roundw
      case rel => exact ⟨k + 1, by omega, by go_num, HO5, HB5⟩
      case measure => simp [intOf]; omega
    · have hl1 : ¬ (k : Int) < (K : Int) := by omega
      obtain rfl : k = K := by omega
      rename_i v1
      go_wp2_with fail
      go_loopw [5, 7] (fun v i wr => ∃ m : Nat, m ≤ 16 ∧ i = .int .i64 (m : Int) ∧ Hid (wr.ownsRow w.heap.size 9 1 v (k + m) (lsT keys k ++ lsM m)) ∧ Hid (Below w.heap.size w wr)) (fun _ i _ => 16 - (intOf i).toNat)
      case atStart => exact ⟨0, Nat.zero_le _, rfl, by show World.ownsRow _ _ _ _ _ _ _; simpa [lsM] using HO.out, HB⟩
      case round =>
        clear HO HB
        obtain ⟨m, hm, rfl, HO, HB⟩ := hrel
        by_cases hlt2 : m < 16
        · have hm1 : (m : Int) < 16 := by omega
          have hm0 : (0 : Int) ≤ (m : Int) := by omega
          have HC := Hid.mk (fun u => w_lmarkS m u (by omega))
          have HUp := Hid.mk (lsM_up m)
          generalize wbL m = key at HC HUp
          go_wp2_with fail
          refine (HC.out _).mono ?_
          rintro e w4 ⟨rfl, hb4⟩
          have hs4 := hb4.size
          have hle : w.heap.size ≤ w4.heap.size := Nat.le_trans HB.out.size hs4
          have ho : w4.ownsRow w.heap.size 9 1 _ (k + m) (lsT keys k ++ lsM m) := lnOwn_keep HO.out (fun b _ hl => hb4.block b hl)
          have HB4 : Hid (Below w.heap.size w w4) := HB.out.trans (hb4.mono HB.out.size)
          clear hb4 HC
          go_wp2_with (at_builtin; go_loud (refine wpList_append_own _ rfl _ _ 47 rfl w.heap.size 9 i0 (.string ⟨#[]⟩) 1 16 Tryz.underlying47 hi0 hz0 hz1 hz2 rfl (by decide) _ _ _ rfl (ho.alloc _) ⟨w4.heap.size, 0, none⟩ 1 1 [.string key] rfl rfl (World.news_of_block (cs := #[.string key]) (t := 9) (fr := (0, 0)) (heap_alloc_new w4 _)) (by intro u hu; simp at hu; subst hu; rfl) (by unfold maxLen; omega) (by omega) (by simp; omega) ?_))
          intro v' w5 hown' hgrow _
          have HB5 : Hid (Below w.heap.size w w5) := (HB4.out.alloc hle _).grown hgrow (by simp; omega) (fun r e => (ho.lt r e).1)
          have HO5 : Hid (w5.ownsRow w.heap.size 9 1 v' (k + (m + 1)) (lsT keys k ++ lsM (m + 1))) := by show World.ownsRow _ _ _ _ _ _ _; rw [HUp.out]; first | exact hown' | (rw [← List.append_assoc]; exact hown')
          clear hown' hgrow ho
          go_wp2_with fail
          go_roundw
          case rel => exact ⟨m + 1, by omega, by go_num, HO5, HB5⟩
          case measure => simp [intOf]; omega
        · have hm1 : ¬ (m : Int) < 16 := by omega
          obtain rfl : m = 16 := by omega
          rename_i v2 w2 v3
          obtain ⟨g, cap, hv, hgb, hgl⟩ := HO.out.form (by omega)
          subst hv
          obtain ⟨cur, hcur, _, hfit, _, hcs, hget⟩ := own_curL HO.out (by omega)
          have hfit1 : k ≤ cap := by omega
          have hfit2 : (k : Int) ≤ (cap : Int) := by omega
          have hk0 : (0 : Int) ≤ (k : Int) := by omega
          have HLr := Hid.mk (HL.out.keep HB.out)
          have c0 : wr.cell? ⟨B, 0, none⟩ = some (c 0) := by rw [cell_of_row _ _ 0 _ _ _ HLr.out.box]; rfl
          have hBr := HLr.out.lt
          have hrow0 := HLr.out.own 0
          rw [HM0.out] at hrow0
          have hmk : MkR wr B 0 (.slice (some ⟨g, 0, none⟩) (k + 16) cap) := by
            refine ⟨g, k + 16, cap, cur, rfl, by omega, by omega, hfit, by omega, hcur, fun i hi j u hu => ?_⟩
            have hju : j = 0 ∧ u = .string (wbL i) := by
              cases j with
              | zero => exact ⟨rfl, by simpa [lnM] using hu.symm⟩
              | succ j => simp [lnM] at hu
            obtain ⟨rfl, rfl⟩ := hju
            refine hget _ _ ?_
            have e1 : (k + 16 - 16 + i) * lnZ 0 + 0 = k + i := by show (k + 16 - 16 + i) * 1 + 0 = _; omega
            have e2 : (lsT keys k).length = k := by have := lsT_len keys; rw [HKK.out] at this; exact this
            rw [e1, List.getElem?_append_right (by omega), e2, Nat.add_sub_cancel_left]
            exact lsM_get 16 hi
          have HMK := Hid.mk hmk
          have HG := Hid.mk (And.intro hcur (And.intro hget (And.intro hgb hgl)))
          generalize hc0 : c 0 = cc0 at c0 hrow0
          have HC0 := Hid.mk hc0
          clear hmk hcur hget hcs hc0
          go_wp2_with (at_builtin; go_loud (refine wpList_append_lies _ rfl _ _ 25 rfl (B + 1) 47 i1 (.slice none 0 0) 1 24 Tryz.underlying25 hi1 hy0 hy1 hy2 rfl (by decide) _ _ _ rfl (hrow0.alloc _) ⟨wr.heap.size, 0, none⟩ 1 1 [.slice (some ⟨g, 0, none⟩) (k + 16) cap] rfl rfl (World.news_of_block (cs := #[.slice (some ⟨g, 0, none⟩) (k + 16) cap]) (t := 47) (fr := (0, 0)) (heap_alloc_new wr _)) (by intro u hu; simp at hu; subst hu; rfl) (by decide) (by unfold maxLen; omega) (by omega) (by simp; omega) (wr.heap.size + 1) (by simp) ?_))
          intro g5 cap5 w5 hown5 hgrow5 hat5 hlt5
          obtain ⟨w6, hw6⟩ : ∃ w6, w5.setCell ⟨B, 0, none⟩ (.slice (some ⟨g5, 0, none⟩) (M0 + 1) cap5) = w6 := ⟨_, rfl⟩
          have hpush := HLr.out.push (j := 0) (.inl rfl) (tmp := .cells #[.slice (some ⟨g, 0, none⟩) (k + 16) cap] 47) (W5 := w5) (w6 := w6) (x := .slice (some ⟨g, 0, none⟩) (k + 16) cap) (g := g5) (cap := cap5) (by rw [HM0.out]; exact hown5) (by rw [HC0.out]; exact hgrow5) (by rw [HC0.out]; exact hat5) HMK.out (by rw [HM0.out]; exact hw6)
          have f0 : w5.frozen? ⟨B, 0, none⟩ = false := by
            have hbx : w5.heap[B]? = wr.heap[B]? := (hgrow5.block B (by simp; omega) (fun e => by have h1 := HLr.out.base (j := 0) (by rw [HC0.out]; exact e.symm); omega)).trans (Below.heap_alloc _ _ _ hBr)
            simp [World.frozen?, hbx, HLr.out.box]
          have e0 : w5.cell? ⟨B, 0, none⟩ = some cc0 := by
            have hbx : w5.heap[B]? = wr.heap[B]? := (hgrow5.block B (by simp; omega) (fun e => by have h1 := HLr.out.base (j := 0) (by rw [HC0.out]; exact e.symm); omega)).trans (Below.heap_alloc _ _ _ hBr)
            exact (World.cell?_of_block (a := ⟨B, 0, none⟩) (hbx.trans (Below.heap_alloc _ _ _ hBr).symm)).trans ((Below.alloc (Below.refl _ wr) (Nat.le_refl _) (.cells #[.slice (some ⟨g, 0, none⟩) (k + 16) cap] 47)).cell (p := ⟨B, 0, none⟩) hBr |>.trans c0)
          have HP := Hid.mk hpush
          clear hpush hown5 hgrow5 hat5 c0 hrow0
          go_wp2_with fail
          (try rw [hw6])
          first | go_ret | go_ret2
          obtain ⟨hln, hkp⟩ := HP.out
          have hkpw : KpL B c _ w w6 := (KpL.low HB.out).trans hkp
          obtain ⟨hcur, hget, hgb, hgl⟩ := HG.out
          have hgD : ∀ j, (c j).ownBlock ≠ some g := fun j => lnOwn_type (HLr.out.own j) hcur (fun e => lnT_E (.inl rfl) j e.symm)
          have hblk : w6.heap[g]? = wr.heap[g]? := hkp.block g hgl (by omega) hgD
          have hfr : LnFr w xs (lnU xs 0 (xs 0 ++ [.slice (some ⟨g, 0, none⟩) (k + 16) cap])) := fun j hj x hx => by
            by_cases hj0 : j = 0
            · subst hj0
              rw [lnU_same] at hx
              rcases List.mem_append.1 hx with hx | hx
              · exact .inl hx
              · rcases List.mem_singleton.1 hx with rfl
                exact .inr (fun q hq => by simp [Value.ownBlock] at hq; omega)
            · rw [lnU_other _ _ hj0] at hx
              exact .inl hx
          refine ⟨g, cap, _, _, _, rfl, ⟨hln, hfr, hkpw, LnD.keep hkp ⟨by omega, hgD⟩ hgl, by omega, Nat.lt_of_lt_of_le hgl hkp.size, hfit1, ⟨lnU_same _ _ _, fun j hj => lnU_other _ _ hj⟩, fun i hi => ?_⟩⟩
          have h1 : w6.cell? ⟨g, i, none⟩ = cur[i]? := cell_of_row _ _ _ _ _ _ (hblk.trans hcur)
          rw [h1]
          refine hget _ _ ?_
          have e2 : (lsT keys k).length = k := by have := lsT_len keys; rw [HKK.out] at this; exact this
          rw [List.getElem?_append_left (by omega)]
          have := lsT_get (keys := keys) (i := i) (by rw [HKK.out]; exact hi)
          rw [HKK.out] at this
          exact this
end Go.Proofs.YtfjmgccbpiolhaaGreatDoor
namespace Go.Proofs.YtfjmgccbpiolhaaGreatDoor
open Go.RowKit
set_option linter.unusedVariables false
set_option linter.unusedSimpArgs false
attribute [local go_sem] Oper.semAt_some

def cUpL (k : Nat) (c : Nat → Fin 5 → Value) (x0 x1 x2 x3 x4 : Value) (i : Nat) : Fin 5 → Value := if i = k then (fun j => match j with | 0 => x0 | 1 => x1 | 2 => x2 | 3 => x3 | 4 => x4) else c i
theorem flat_cUpL (k : Nat) (c : Nat → Fin 5 → Value) (x0 x1 x2 x3 x4 : Value) : flat (cUpL k c x0 x1 x2 x3 x4) (k + 1) = flat c k ++ [x0, x1, x2, x3, x4] := by
  rw [flat_up]
  congr 1
  · exact flat_eq (fun i hi => by unfold cUpL; rw [if_neg (by omega)])
  · unfold cUpL; simp
def mkF (i : Nat) : Fin 5 → Value := fun j => match j with | 0 => .int .i64 (-1) | 1 => .string (wbL i) | 2 => .string ⟨#[]⟩ | 3 => .slice none 0 0 | 4 => .slice none 0 0
structure LvR (B h : Nat) (T : VT) (c c' : Nat → Value) (n n' : Nat → Nat) (xs xs' : Nat → List Value) (w w' : World) (v' : Value) : Prop where
  loan : LnAt B w' c' n' xs'
  kp : KpL B c c' w w'
  fr : LnFr w xs xs'
  tree : InL (fun b => w.heap.size ≤ b ∧ LnD B c' b) w' h T v'
  num : n' 0 ≤ n 0 + szN h T ∧ n' 4 ≤ n 4 + szN h T
structure VsS (B h N : Nat) (ts : List VT) (c c' : Nat → Value) (n n' : Nat → Nat) (xs xs' : Nat → List Value) (w : World) (k S : Nat) (v : Value) (cc : Nat → Fin 5 → Value) (wr : World) : Prop where
  loan : LnAt B wr c' n' xs'
  kp : KpL B c c' w wr
  fr : LnFr w xs xs'
  own : wr.ownsRow w.heap.size 49 5 v k (flat cc k)
  trees : ∀ i, (hi : i < ts.length) → i < k → InL (fun b => w.heap.size ≤ b ∧ LnD B c' b ∧ v.ownBlock ≠ some b) wr h ts[i] (.agg #[cc i 0, cc i 1, cc i 2, cc i 3, cc i 4])
  apart : ∀ g, v.ownBlock = some g → ∀ j, j = 0 ∨ j = 4 → ∀ x ∈ xs' j, x.ownBlock ≠ some g
  num : n' 0 ≤ n 0 + S ∧ n' 4 ≤ n 4 + S
  marks : ∀ i, N + i < k → cc (N + i) = mkF i
theorem VsS.low {B h N : Nat} {ts : List VT} {c c' : Nat → Value} {n n' : Nat → Nat} {xs xs' : Nat → List Value} {w wr w4 : World} {k S : Nat} {v : Value} {cc : Nat → Fin 5 → Value} (H : VsS B h N ts c c' n n' xs xs' w k S v cc wr) (hb : Below wr.heap.size wr w4) : VsS B h N ts c c' n n' xs xs' w k S v cc w4 :=
  ⟨H.loan.keep hb, H.kp.trans (KpL.low hb), H.fr, lnOwn_keep H.own (fun b _ hl => hb.block b hl), fun i hi hk => InL.keep hb.size (fun b _ hl => hb.block b hl) (fun b hd _ => hd) (H.trees i hi hk), H.apart, H.num, H.marks⟩
theorem VsS.far {B h N : Nat} {ts : List VT} {c c' : Nat → Value} {n n' : Nat → Nat} {xs xs' : Nat → List Value} {w wr : World} {k S : Nat} {v : Value} {cc : Nat → Fin 5 → Value} (H : VsS B h N ts c c' n n' xs xs' w k S v cc wr) (hB : B < w.heap.size) {g : Nat} (hg : v.ownBlock = some g) : w.heap.size ≤ g ∧ g < wr.heap.size ∧ g ≠ B ∧ ∀ j, (c' j).ownBlock ≠ some g := by
  obtain ⟨h1, h2⟩ := H.own.lt g hg
  obtain ⟨cs, he⟩ := lnOwn_cur H.own hg
  exact ⟨h1, h2, by omega, fun j => lnOwn_type (H.loan.own j) he (fun e => lnT_E (j := 4) (.inr rfl) j e.symm)⟩
theorem VsS.val {B h N : Nat} {ts : List VT} {c c' c4 : Nat → Value} {n n' n4 : Nat → Nat} {xs xs' xs4 : Nat → List Value} {w wr w4 : World} {k S : Nat} {v y : Value} {cc : Nat → Fin 5 → Value} {T : VT} (H : VsS B h N ts c c' n n' xs xs' w k S v cc wr) (hB : B < w.heap.size) (R : LvR B h T c' c4 n' n4 xs' xs4 wr w4 y) :
    VsS B h N ts c c4 n n4 xs xs4 w k (S + szN h T) v cc w4 ∧ InL (fun b => w.heap.size ≤ b ∧ LnD B c4 b ∧ v.ownBlock ≠ some b) w4 h T y := by
  have hz := H.kp.size
  refine ⟨⟨R.loan, H.kp.trans R.kp, H.fr.trans R.fr hz, lnOwn_keep H.own (fun b hb hl => ?_), fun i hi hk => ?_, fun g hg j hj x hx => ?_, ?_, H.marks⟩, ?_⟩
  · obtain ⟨_, _, f3, f4⟩ := H.far hB hb
    exact R.kp.block b hl f3 f4
  · exact InL.keep R.kp.size (fun b hb hl => R.kp.block b hl (by have := hb.2.1.1; omega) hb.2.1.2) (fun b hb hl => ⟨hb.1, LnD.keep R.kp hb.2.1 hl, hb.2.2⟩) (H.trees i hi hk)
  · obtain ⟨_, f2, _, _⟩ := H.far hB hg
    rcases R.fr j hj x hx with h1 | h1
    · exact H.apart g hg j hj x h1
    · intro e; have := h1 g e; omega
  · obtain ⟨a1, a2⟩ := H.num
    obtain ⟨b1, b2⟩ := R.num
    exact ⟨by omega, by omega⟩
  · refine InL.keep (Nat.le_refl _) (fun _ _ _ => rfl) (fun b hb _ => ⟨by have := hb.1; omega, hb.2, fun e => ?_⟩) R.tree
    obtain ⟨_, f2, _, _⟩ := H.far hB e
    have := hb.1
    omega
theorem VsS.app {B h N : Nat} {ts : List VT} {c c' : Nat → Value} {n n' : Nat → Nat} {xs xs' : Nat → List Value} {w w4 w5 : World} {k S : Nat} {v : Value} {cc : Nat → Fin 5 → Value} (H : VsS B h N ts c c' n n' xs xs' w k S v cc w4) (hB : B < w.heap.size) (hN : ts.length = N) {x0 x1 x2 x3 x4 : Value} {g cap : Nat}
    (hown : w5.ownsRow w.heap.size 49 5 (.slice (some ⟨g, 0, none⟩) (k + 1) cap) (k + 1) (flat cc k ++ [x0, x1, x2, x3, x4])) (hgrow : w4.grownBy w5 v.ownBlock) (hat : v.ownBlock = some g ∨ g = w4.heap.size)
    (hnew : (hk : k < ts.length) → InL (fun b => w.heap.size ≤ b ∧ LnD B c' b ∧ v.ownBlock ≠ some b) w4 h ts[k] (.agg #[x0, x1, x2, x3, x4])) (hmk : N ≤ k → ∀ j, (fun j : Fin 5 => match j with | 0 => x0 | 1 => x1 | 2 => x2 | 3 => x3 | 4 => x4) j = mkF (k - N) j) :
    VsS B h N ts c c' n n' xs xs' w (k + 1) S (.slice (some ⟨g, 0, none⟩) (k + 1) cap) (cUpL k cc x0 x1 x2 x3 x4) w5 := by
  have hgs := hgrow.size
  have dd : ∀ b, w.heap.size ≤ b ∧ LnD B c' b ∧ v.ownBlock ≠ some b → b < w4.heap.size → w.heap.size ≤ b ∧ LnD B c' b ∧ (Value.slice (some ⟨g, 0, none⟩) (k + 1) cap).ownBlock ≠ some b := fun b hb hl => ⟨hb.1, hb.2.1, fun e => by
    simp [Value.ownBlock] at e
    rcases hat with h1 | h1
    · exact hb.2.2 (e ▸ h1)
    · omega⟩
  have kk : ∀ b, w.heap.size ≤ b ∧ LnD B c' b ∧ v.ownBlock ≠ some b → b < w4.heap.size → w5.heap[b]? = w4.heap[b]? := fun b hb hl => hgrow.block b hl (fun e => hb.2.2 e.symm)
  have hloan : LnAt B w5 c' n' xs' := by
    cases hv : v.ownBlock with
    | none => exact H.loan.keep ⟨hgrow.os, hgrow.tape, hgrow.output, hgrow.size, fun b hb => hgrow.block b hb (by rw [hv]; intro e; cases e)⟩
    | some q =>
      obtain ⟨_, _, f3, f4⟩ := H.far hB hv
      exact H.loan.other f3 f4 (H.apart q hv) (fun b hb hne => hgrow.block b hb (by rw [hv]; intro e; injection e with e; exact hne e))
  refine ⟨hloan, ⟨hgrow.os.trans H.kp.os, hgrow.tape.trans H.kp.tape, hgrow.output.trans H.kp.output, Nat.le_trans H.kp.size hgrow.size, fun b hb h1 h2 => (hgrow.block b (Nat.lt_of_lt_of_le hb H.kp.size) (fun e => by have := (H.far hB e.symm).1; omega)).trans (H.kp.block b hb h1 h2), H.kp.row⟩, H.fr, by rw [flat_cUpL]; exact hown, fun i hi hk => ?_, fun q hq j hj x hx e => ?_, H.num, fun i hi => ?_⟩
  · by_cases hik : i = k
    · subst hik
      have := InL.keep hgs kk dd (hnew hi)
      simpa [cUpL] using this
    · have := InL.keep hgs kk dd (H.trees i hi (by omega))
      simpa [cUpL, hik] using this
  · simp [Value.ownBlock] at hq
    subst hq
    rcases hat with h1 | h1
    · exact H.apart g h1 j hj x hx e
    · have := ((H.loan.mks j hj x hx).lt e).1
      omega
  · by_cases hik : N + i = k
    · subst hik
      have h1 := hmk (by omega)
      rw [Nat.add_sub_cancel_left] at h1
      unfold cUpL
      rw [if_pos rfl]
      exact funext h1
    · unfold cUpL
      rw [if_neg hik]
      exact H.marks i (by omega)
structure LvsR (B h : Nat) (ts : List VT) (c c' : Nat → Value) (n n' : Nat → Nat) (xs xs' : Nat → List Value) (w w' : World) (g cap : Nat) : Prop where
  loan : LnAt B w' c' n' xs'
  kp : KpL B c c' w w'
  fr : LnFr w xs xs'
  new : w.heap.size ≤ g
  dom : LnD B c' g
  fit : ts.length ≤ cap
  blk : ∃ cur, w'.heap[g]? = some (.cells cur 49 (0, 0))
  row : ∀ i, (hi : i < ts.length) → ∃ v0 v1 v2 v3 v4 : Value, (w'.cell? ⟨g, i * 5, none⟩ = some v0 ∧ w'.cell? ⟨g, i * 5 + 1, none⟩ = some v1 ∧ w'.cell? ⟨g, i * 5 + 2, none⟩ = some v2 ∧ w'.cell? ⟨g, i * 5 + 3, none⟩ = some v3 ∧ w'.cell? ⟨g, i * 5 + 4, none⟩ = some v4) ∧ InL (fun b => w.heap.size ≤ b ∧ LnD B c' b ∧ b ≠ g) w' h ts[i] (.agg #[v0, v1, v2, v3, v4])
  num : n' 0 ≤ n 0 + sumL (ts.map (szN h)) ∧ n' 4 ≤ n 4 + 1 + sumL (ts.map (szN h))
theorem VsS.mark {B h N : Nat} {ts : List VT} {c c' : Nat → Value} {n n' : Nat → Nat} {xs xs' : Nat → List Value} {w wr : World} {S g cap : Nat} {cc : Nat → Fin 5 → Value} (H : VsS B h N ts c c' n n' xs xs' w (N + 16) S (.slice (some ⟨g, 0, none⟩) (N + 16) cap) cc wr) (hB : B < w.heap.size) (hN : N ≤ 1048577) : MkR wr B 4 (.slice (some ⟨g, 0, none⟩) (N + 16) cap) := by
  obtain ⟨cur, hcur, hlo, hfit, _, _, hget⟩ := own_curL H.own (by omega)
  refine ⟨g, N + 16, cap, cur, rfl, by omega, by omega, hfit, by omega, hcur, fun i hi j u hu => ?_⟩
  have hj : j < 5 := by
    have := (List.getElem?_eq_some_iff.1 hu).1
    simpa [lnM] using this
  refine hget _ _ ?_
  have e1 : (N + 16 - 16 + i) * lnZ 4 + j = (N + i) * 5 + j := by show (N + 16 - 16 + i) * 5 + j = _; rw [Nat.add_sub_cancel]
  rw [e1]
  have h1 := flat_get cc (N + 16) (N + i) ⟨j, hj⟩ (by omega)
  rw [h1, H.marks i (by omega)]
  rcases (show j = 0 ∨ j = 1 ∨ j = 2 ∨ j = 3 ∨ j = 4 by omega) with rfl | rfl | rfl | rfl | rfl <;> (simp [lnM] at hu; subst hu; rfl)
theorem VsS.done {B h N : Nat} {ts : List VT} {c c' : Nat → Value} {n n' : Nat → Nat} {xs xs' : Nat → List Value} {w wr : World} {S g cap : Nat} {cc : Nat → Fin 5 → Value} (H : VsS B h N ts c c' n n' xs xs' w (N + 16) S (.slice (some ⟨g, 0, none⟩) (N + 16) cap) cc wr) (hB : B < w.heap.size) (hts : ts.length = N) (hN : N ≤ 1048577) (hS : S ≤ sumL (ts.map (szN h))) {tmp : Obj} {w5 w6 : World} {g5 cap5 : Nat}
    (hown : w5.ownsRow (B + 1) (lnT 4) 1 (.slice (some ⟨g5, 0, none⟩) (n' 4 + 1) cap5) (n' 4 + 1) (xs' 4 ++ [.slice (some ⟨g, 0, none⟩) (N + 16) cap])) (hgrow : (wr.alloc tmp).grownBy w5 (c' 4).ownBlock) (hat : (c' 4).ownBlock = some g5 ∨ g5 = wr.heap.size + 1)
    (h6 : w5.setCell ⟨B, 4, none⟩ (.slice (some ⟨g5, 0, none⟩) (n' 4 + 1) cap5) = w6) :
    LvsR B h ts c (lnU c' 4 (.slice (some ⟨g5, 0, none⟩) (n' 4 + 1) cap5)) n (lnU n' 4 (n' 4 + 1)) xs (lnU xs' 4 (xs' 4 ++ [.slice (some ⟨g, 0, none⟩) (N + 16) cap])) w w6 g cap := by
  obtain ⟨hln, hkp⟩ := H.loan.push (j := 4) (.inr rfl) hown hgrow hat (H.mark hB hN) h6
  obtain ⟨cur, hcur, hlo, hfit, _, _, hget⟩ := own_curL H.own (by omega)
  obtain ⟨_, f2, f3, f4⟩ := H.far hB (g := g) rfl
  have hblk : w6.heap[g]? = wr.heap[g]? := hkp.block g f2 f3 f4
  refine ⟨hln, H.kp.trans hkp, fun j hj x hx => ?_, hlo, LnD.keep hkp ⟨by omega, f4⟩ f2, by omega, ⟨cur, hblk.trans hcur⟩, fun i hi => ?_, ?_⟩
  · by_cases hj4 : j = 4
    · subst hj4
      rw [lnU_same] at hx
      rcases List.mem_append.1 hx with hx | hx
      · exact H.fr 4 hj x hx
      · rcases List.mem_singleton.1 hx with rfl
        exact .inr (fun q hq => by simp [Value.ownBlock] at hq; omega)
    · rw [lnU_other _ _ hj4] at hx
      exact H.fr j hj x hx
  · have g0 : ∀ j : Fin 5, w6.cell? ⟨g, i * 5 + j.1, none⟩ = some (cc i j) := fun j => by
      have h1 : w6.cell? ⟨g, i * 5 + j.1, none⟩ = cur[i * 5 + j.1]? := cell_of_row _ _ _ _ _ _ (hblk.trans hcur)
      rw [h1]
      exact hget _ _ (flat_get cc (N + 16) i j (by omega))
    refine ⟨cc i 0, cc i 1, cc i 2, cc i 3, cc i 4, ⟨g0 0, g0 1, g0 2, g0 3, g0 4⟩, ?_⟩
    refine InL.keep hkp.size (fun b hb hl => hkp.block b hl (by have := hb.2.1.1; omega) hb.2.1.2) (fun b hb hl => ⟨hb.1, LnD.keep hkp hb.2.1 hl, fun e => hb.2.2 (by simp [Value.ownBlock, e])⟩) (H.trees i hi (by omega))
  · obtain ⟨a1, a2⟩ := H.num
    refine ⟨?_, ?_⟩
    · rw [lnU_other _ _ (by omega)]; omega
    · rw [lnU_same]; omega
end Go.Proofs.YtfjmgccbpiolhaaGreatDoor
namespace Go.Proofs.YtfjmgccbpiolhaaGreatDoor
open Go.RowKit
set_option linter.unusedVariables false
set_option linter.unusedSimpArgs false
attribute [local go_sem] Oper.semAt_some

theorem Tryz.infoLv : (Tryz.prog.info? 49).map (fun i => (i.zero, i.size, i.bytes)) = some (some (.agg #[.int .i64 0, .string ⟨#[]⟩, .string ⟨#[]⟩, .slice none 0 0, .slice none 0 0]), 5, 88) := by kernel_rfl
theorem Tryz.infoLvs : (Tryz.prog.info? 22).map (fun i => (i.zero, i.size, i.bytes)) = some (some (.slice none 0 0), 1, 24) := by kernel_rfl
def LVok (h : Nat) : Prop := ∀ (B : Nat) (T : VT) (v : Value) (w0 w : World) (c : Nat → Value) (n : Nat → Nat) (xs : Nat → List Value), InH w0 h T v → Below w0.heap.size w0 w → w0.heap.size ≤ B → LnAt B w c n xs → szN h T ≤ 1048577 → n 0 + szN h T ≤ 1099511627776 → n 4 + szN h T ≤ 1099511627776 →
  Calls Tryz.prog 22 #[.pointer (some ⟨B, 0, none⟩), v] w fun e w' => ∃ v' c' n' xs', e = .returned v' ∧ Hid (LvR B h T c c' n n' xs xs' w w' v')
theorem inH_cellsL {W : World} {h : Nat} {T : VT} {v0 v1 v2 v3 v4 : Value} (hI : InH W h T (.agg #[v0, v1, v2, v3, v4])) : ∃ (io : Option Addr) (ic : Nat) (ko : Option Addr) (kc : Nat), v0 = .int .i64 T.kind ∧ v1 = .string T.num ∧ v2 = .string T.text ∧ v3 = .slice io T.items.length ic ∧ v4 = .slice ko T.keys.length kc := by
  cases h with
  | zero => exact hI.elim
  | succ h =>
    obtain ⟨io, icap, ko, kcap, e, _⟩ := hI
    simp only [Value.agg.injEq, Array.mk.injEq, List.cons.injEq, and_true] at e
    exact ⟨io, icap, ko, kcap, e⟩
theorem inL_shapeL {D : Nat → Prop} {W : World} {h : Nat} {T : VT} {v : Value} (hI : InL D W h T v) : ∃ (io : Option Addr) (ic : Nat) (ko : Option Addr) (kc : Nat), v = .agg #[.int .i64 T.kind, .string T.num, .string T.text, .slice io T.items.length ic, .slice ko T.keys.length kc] := by
  cases h with
  | zero => exact hI.elim
  | succ h =>
    obtain ⟨io, icap, ko, kcap, e, _⟩ := hI
    exact ⟨io, icap, ko, kcap, e⟩
theorem two_new (w : World) (o1 o2 : Obj) : ((w.alloc o1).alloc o2).heap[w.heap.size + 1]? = some o2 ∧ Below w.heap.size w ((w.alloc o1).alloc o2) := by
  refine ⟨?_, (below1 w o1).trans ((below1 (w.alloc o1) o2).mono (by simp))⟩
  have := heap_alloc_new (w.alloc o1) o2
  rwa [World.size_alloc] at this
theorem sum_takeL (f : VT → Nat) (ts : List VT) (k : Nat) (hk : k < ts.length) : sumL ((ts.take (k + 1)).map f) = sumL ((ts.take k).map f) + f ts[k] ∧ sumL ((ts.take k).map f) + f ts[k] ≤ sumL (ts.map f) := by
  have e : ts.take (k + 1) = ts.take k ++ [ts[k]] := List.take_succ_eq_append_getElem hk
  have e1 : sumL ((ts.take (k + 1)).map f) = sumL ((ts.take k).map f) + f ts[k] := by
    rw [e, List.map_append, sumL_append]
    simp [sumL]
  refine ⟨e1, ?_⟩
  rw [← e1]
  have e2 : ts.map f = (ts.take (k + 1)).map f ++ (ts.drop (k + 1)).map f := by rw [← List.map_append, List.take_append_drop]
  rw [e2, sumL_append]
  omega
theorem one5L {a0 a1 a2 : Value} {io : Option Addr} {N ic : Nat} {ko : Option Addr} {K kc : Nat} (h0 : a0.oneCell' = true) (h1 : a1.oneCell' = true) (h2 : a2.oneCell' = true) : ∀ u ∈ [a0, a1, a2, .slice io N ic, .slice ko K kc], u.oneCell' = true := by
  intro u hu
  simp at hu
  rcases hu with rfl | rfl | rfl | rfl | rfl
  · exact h0
  · exact h1
  · exact h2
  · rfl
  · rfl

set_option maxRecDepth 100000 in
set_option maxHeartbeats 6400000 in
theorem w_lValues (h : Nat) (ih : LVok h) (B : Nat) (io : Option Addr) (N icap : Nat) (ts : List VT) (w0 w : World) (c : Nat → Value) (n : Nat → Nat) (xs : Nat → List Value) (hi : IIn w0 h io ts) (hN : ts.length = N) (hcap : N ≤ icap) (hN2 : N ≤ 1048577) (h0 : Below w0.heap.size w0 w) (hB : w0.heap.size ≤ B) (hL : LnAt B w c n xs) (hS : sumL (ts.map (szN h)) ≤ 1048577) (hn0 : n 0 + sumL (ts.map (szN h)) ≤ 1099511627776) (hn4 : n 4 + sumL (ts.map (szN h)) ≤ 1099511627776) :
    Calls Tryz.prog 7 #[.pointer (some ⟨B, 0, none⟩), .slice io N icap] w fun e w' => ∃ g cap c' n' xs', e = .returned (.slice (some ⟨g, 0, none⟩) N cap) ∧ Hid (LvsR B h ts c c' n n' xs xs' w w' g cap) := by
  obtain ⟨i0, hi0, hz0, hz1, hz2⟩ := info_parts Tryz.infoLv
  obtain ⟨i1, hi1, hy0, hy1, hy2⟩ := info_parts Tryz.infoLvs
  have HI := Hid.mk hi
  have HNN := Hid.mk hN
  have HL := Hid.mk hL
  have HIh := Hid.mk ih
  have H0 := Hid.mk h0
  have HBB := Hid.mk hB
  have HSS := Hid.mk (And.intro hS (And.intro hn0 hn4))
  have hBl := hL.lt
  clear hi hN hL ih h0 hB hS hn0 hn4
  go_enter Tryz.func7, Tryz.ntmps7
  go_wp2_with fail
  go_loopw [5, 6] (fun v i wr => ∃ (k : Nat) (c' : Nat → Value) (n' : Nat → Nat) (xs' : Nat → List Value) (cc : Nat → Fin 5 → Value), k ≤ N ∧ i = .int .i64 (k : Int) ∧ Hid (VsS B h N ts c c' n n' xs xs' w k (sumL ((ts.take k).map (szN h))) v cc wr)) (fun _ i _ => N - (intOf i).toNat)
  case atStart => exact ⟨0, c, n, xs, fun _ _ => undef, Nat.zero_le _, rfl, HL.out, KpL.refl _ _ _, LnFr.refl _ _, World.ownsRow_nil _ _ _ _, fun i hi hk => absurd hk (Nat.not_lt_zero _), (fun g e => by cases e), ⟨Nat.le_add_right _ _, Nat.le_add_right _ _⟩, fun i hi => absurd hi (Nat.not_lt_zero _)⟩
  case round =>
    obtain ⟨k, c', n', xs', cc, hk, rfl, HV⟩ := hrel
    by_cases hlt : k < N
    · have hl1 : (k : Int) < (N : Int) := by omega
      have hl0 : (0 : Int) ≤ (k : Int) := by omega
      have hkl : k < ts.length := by rw [HNN.out]; exact hlt
      have hbw : Below w0.heap.size w0 wr := H0.out.trans (((HV.out.kp.below HL.out).mono HBB.out).mono (Nat.le_refl _))
      obtain ⟨b, off, rfl, hbl, hrow⟩ := HI.out.row (by omega)
      obtain ⟨v0, v1, v2, v3, v4, ⟨a0, a1, a2, a3, a4⟩, ht⟩ := hrow k hkl
      obtain ⟨jo, jc, jk, jkc, rfl, rfl, rfl, rfl, rfl⟩ := inH_cellsL ht
      have d0 := (hbw.cell (p := ⟨b, off + k * 5, none⟩) hbl).trans a0
      have d1 := (hbw.cell (p := ⟨b, off + k * 5 + 1, none⟩) hbl).trans a1
      have d2 := (hbw.cell (p := ⟨b, off + k * 5 + 2, none⟩) hbl).trans a2
      have d3 := (hbw.cell (p := ⟨b, off + k * 5 + 3, none⟩) hbl).trans a3
      have d4 := (hbw.cell (p := ⟨b, off + k * 5 + 4, none⟩) hbl).trans a4
      obtain ⟨s1, s2⟩ := sum_takeL (szN h) ts k hkl
      obtain ⟨q0, q1, q2⟩ := HSS.out
      obtain ⟨m0, m4⟩ := HV.out.num
      have HC := Hid.mk (HIh.out B ts[k] _ w0 wr c' n' xs' ht hbw HBB.out HV.out.loan (by omega) (by omega) (by omega))
      have HS1 := Hid.mk s1
      have HKL := Hid.mk hkl
      clear a0 a1 a2 a3 a4 hrow hbl hbw s1 s2 q0 q1 q2 m0 m4
      generalize hT : ts[k] = T at *
      have HT := Hid.mk hT
      clear hT ht
      go_wp2_with fail
      refine HC.out.mono ?_
      rintro e w4 ⟨y, c4, n4, xs4, rfl, HR⟩
      obtain ⟨HV4', hy⟩ := HV.out.val hBl HR.out
      obtain ⟨yo, yc, yk, ykc, rfl⟩ := inL_shapeL hy
      have HV4 := Hid.mk HV4'
      have HY := Hid.mk hy
      obtain ⟨t1, t2⟩ := two_new w4 (.cells #[.int .i64 T.kind, .string T.num, .string T.text, .slice yo T.items.length yc, .slice yk T.keys.length ykc] 49) (.cells #[.int .i64 T.kind, .string T.num, .string T.text, .slice yo T.items.length yc, .slice yk T.keys.length ykc] 49)
      have HV5 := Hid.mk (HV4.out.low t2)
      have ho := HV5.out.own
      have hle : w.heap.size ≤ w4.heap.size := HV4.out.kp.size
      have HT2 := Hid.mk t2
      clear HC d0 d1 d2 d3 d4 HV4' hy HR t2
      go_wp2_with (at_builtin; go_loud (refine wpList_append_lies _ rfl _ _ 22 rfl w.heap.size 49 i0 (.agg #[.int .i64 0, .string ⟨#[]⟩, .string ⟨#[]⟩, .slice none 0 0, .slice none 0 0]) 5 88 Tryz.underlying22 hi0 hz0 hz1 hz2 rfl (by decide) _ _ _ rfl ho ⟨w4.heap.size + 1, 0, none⟩ 1 1 [.int .i64 T.kind, .string T.num, .string T.text, .slice yo T.items.length yc, .slice yk T.keys.length ykc] rfl rfl (World.news_of_block (cs := #[.int .i64 T.kind, .string T.num, .string T.text, .slice yo T.items.length yc, .slice yk T.keys.length ykc]) (t := 49) (fr := (0, 0)) t1) (one5L rfl rfl rfl) (by decide) (by unfold maxLen; omega) (by omega) (by simp; omega) (w4.heap.size + 1 + 1) (by simp) ?_))
      intro g5 cap5 w5 hown5 hgrow5 hat5 hlt5
      have HN : Hid (VsS B h N ts c c4 n n4 xs xs4 w (k + 1) (sumL ((ts.take (k + 1)).map (szN h))) (.slice (some ⟨g5, 0, none⟩) (k + 1) cap5) (cUpL k cc (.int .i64 T.kind) (.string T.num) (.string T.text) (.slice yo T.items.length yc) (.slice yk T.keys.length ykc)) w5) := by
        show VsS _ _ _ _ _ _ _ _ _ _ _ _ _ _ _ _
        rw [HS1.out]
        refine HV5.out.app hBl HNN.out hown5 hgrow5 (by simpa using hat5) (fun hk2 => ?_) (fun h2 => by omega)
        have e2 : ts[k]'hk2 = T := HT.out
        rw [e2]
        exact InL.keep HT2.out.size (fun b _ hl => HT2.out.block b hl) (fun b hd _ => hd) HY.out
      clear hown5 hgrow5 hat5 ho t1
      go_wp2_with fail
      go_roundw
      case rel => exact ⟨k + 1, c4, n4, xs4, _, by omega, by go_num, HN⟩
      case measure => simp [intOf]; omega
    · have hl1 : ¬ (k : Int) < (N : Int) := by omega
      obtain rfl : k = N := by omega
      go_wp2_with fail
      go_loopw [5, 8] (fun v i wr => ∃ (m : Nat) (c' : Nat → Value) (n' : Nat → Nat) (xs' : Nat → List Value) (cc : Nat → Fin 5 → Value), m ≤ 16 ∧ i = .int .i64 (m : Int) ∧ Hid (VsS B h k ts c c' n n' xs xs' w (k + m) (sumL (ts.map (szN h))) v cc wr)) (fun _ i _ => 16 - (intOf i).toNat)
      case atStart =>
        refine ⟨0, c', n', xs', cc, Nat.zero_le _, rfl, ?_⟩
        have h1 := HV.out
        rw [List.take_of_length_le (by rw [HNN.out]; exact Nat.le_refl _)] at h1
        exact h1
      case round =>
        clear HV
        obtain ⟨m, c', n', xs', cc, hm, rfl, HV⟩ := hrel
        by_cases hlt2 : m < 16
        · have hm1 : (m : Int) < 16 := by omega
          have hm0 : (0 : Int) ≤ (m : Int) := by omega
          have HC := Hid.mk (fun u => w_lmarkV m u (by omega))
          have HMF : Hid (∀ (q : Fin 5), (fun j : Fin 5 => match j with | 0 => (.int .i64 (-1) : Value) | 1 => .string (wbL m) | 2 => .string ⟨#[]⟩ | 3 => .slice none 0 0 | 4 => .slice none 0 0) q = mkF m q) := fun q => rfl
          generalize hkey : wbL m = key at HC HMF
          clear hkey
          go_wp2_with fail
          refine (HC.out _).mono ?_
          rintro e w4 ⟨rfl, hb4⟩
          have HV4 := Hid.mk (HV.out.low hb4)
          obtain ⟨t1, t2⟩ := two_new w4 (.cells #[.int .i64 (-1), .string key, .string ⟨#[]⟩, .slice none 0 0, .slice none 0 0] 49) (.cells #[.int .i64 (-1), .string key, .string ⟨#[]⟩, .slice none 0 0, .slice none 0 0] 49)
          have HV5 := Hid.mk (HV4.out.low t2)
          have ho := HV5.out.own
          have hle : w.heap.size ≤ w4.heap.size := HV4.out.kp.size
          clear HC hb4 t2
          go_wp2_with (at_builtin; go_loud (refine wpList_append_lies _ rfl _ _ 22 rfl w.heap.size 49 i0 (.agg #[.int .i64 0, .string ⟨#[]⟩, .string ⟨#[]⟩, .slice none 0 0, .slice none 0 0]) 5 88 Tryz.underlying22 hi0 hz0 hz1 hz2 rfl (by decide) _ _ _ rfl ho ⟨w4.heap.size + 1, 0, none⟩ 1 1 [.int .i64 (-1), .string key, .string ⟨#[]⟩, .slice none 0 0, .slice none 0 0] rfl rfl (World.news_of_block (cs := #[.int .i64 (-1), .string key, .string ⟨#[]⟩, .slice none 0 0, .slice none 0 0]) (t := 49) (fr := (0, 0)) t1) (one5L rfl rfl rfl) (by decide) (by unfold maxLen; omega) (by omega) (by simp; omega) (w4.heap.size + 1 + 1) (by simp) ?_))
          intro g5 cap5 w5 hown5 hgrow5 hat5 hlt5
          have HN : Hid (VsS B h k ts c c' n n' xs xs' w (k + (m + 1)) (sumL (ts.map (szN h))) (.slice (some ⟨g5, 0, none⟩) (k + m + 1) cap5) (cUpL (k + m) cc (.int .i64 (-1)) (.string key) (.string ⟨#[]⟩) (.slice none 0 0) (.slice none 0 0)) w5) := by
            refine HV5.out.app hBl HNN.out hown5 hgrow5 (by simpa using hat5) (fun hk2 => absurd hk2 (by rw [HNN.out]; omega)) (fun _ => ?_)
            rw [Nat.add_sub_cancel_left]
            exact HMF.out
          clear hown5 hgrow5 hat5 ho t1
          go_wp2_with fail
          go_roundw
          case rel => exact ⟨m + 1, c', n', xs', _, by omega, by go_num, HN⟩
          case measure => simp [intOf]; omega
        · have hm1 : ¬ (m : Int) < 16 := by omega
          obtain rfl : m = 16 := by omega
          obtain ⟨g, cap, hv, hgb, hgl⟩ := HV.out.own.form (by omega)
          subst hv
          obtain ⟨cur, _, _, hfit, _⟩ := own_curL HV.out.own (by omega)
          have hfit1 : k ≤ cap := by omega
          have hfit2 : (k : Int) ≤ (cap : Int) := by omega
          have hk0 : (0 : Int) ≤ (k : Int) := by omega
          have c0 : wr.cell? ⟨B, 4, none⟩ = some (c' 4) := by rw [cell_of_row _ _ 4 _ _ _ HV.out.loan.box]; rfl
          have hBr := HV.out.loan.lt
          have hrow0 := HV.out.loan.own 4
          obtain ⟨M0, hM0⟩ : ∃ M0, n' 4 = M0 := ⟨_, rfl⟩
          have hM : M0 ≤ 1099511627776 := by
            have h1 := HV.out.num.2
            have h2 := HSS.out.2.2
            omega
          have HM0 := Hid.mk hM0
          rw [hM0] at hrow0
          generalize hc0 : c' 4 = cc0 at c0 hrow0
          have HC0 := Hid.mk hc0
          clear hc0 hM0
          go_wp2_with (at_builtin; go_loud (refine wpList_append_lies _ rfl _ _ 29 rfl (B + 1) 22 i1 (.slice none 0 0) 1 24 Tryz.underlying29 hi1 hy0 hy1 hy2 rfl (by decide) _ _ _ rfl (hrow0.alloc _) ⟨wr.heap.size, 0, none⟩ 1 1 [.slice (some ⟨g, 0, none⟩) (k + 16) cap] rfl rfl (World.news_of_block (cs := #[.slice (some ⟨g, 0, none⟩) (k + 16) cap]) (t := 22) (fr := (0, 0)) (heap_alloc_new wr _)) (by intro u hu; simp at hu; subst hu; rfl) (by decide) (by unfold maxLen; omega) (by omega) (by simp; omega) (wr.heap.size + 1) (by simp) ?_))
          intro g5 cap5 w5 hown5 hgrow5 hat5 hlt5
          obtain ⟨w6, hw6⟩ : ∃ w6, w5.setCell ⟨B, 4, none⟩ (.slice (some ⟨g5, 0, none⟩) (M0 + 1) cap5) = w6 := ⟨_, rfl⟩
          have HP := Hid.mk (HV.out.done hBl HNN.out (by omega) (Nat.le_refl _) (tmp := .cells #[.slice (some ⟨g, 0, none⟩) (k + 16) cap] 22) (w5 := w5) (w6 := w6) (g5 := g5) (cap5 := cap5) (by rw [HM0.out]; exact hown5) (by rw [HC0.out]; exact hgrow5) (by rw [HC0.out]; exact hat5) (by rw [HM0.out]; exact hw6))
          have hbx : w5.heap[B]? = wr.heap[B]? := (hgrow5.block B (by simp; omega) (fun e => by have h1 := HV.out.loan.base (j := 4) (by rw [HC0.out]; exact e.symm); omega)).trans (Below.heap_alloc _ _ _ hBr)
          have f0 : w5.frozen? ⟨B, 4, none⟩ = false := by simp [World.frozen?, hbx, HV.out.loan.box]
          have e0 : w5.cell? ⟨B, 4, none⟩ = some cc0 := (World.cell?_of_block (a := ⟨B, 4, none⟩) hbx).trans c0
          clear hown5 hgrow5 hat5 c0 hrow0 hbx
          go_wp2_with fail
          (try rw [hw6])
          first | go_ret | go_ret2
          exact ⟨g, cap, _, _, _, rfl, HP⟩
end Go.Proofs.YtfjmgccbpiolhaaGreatDoor
namespace Go.Proofs.YtfjmgccbpiolhaaGreatDoor
open Go.RowKit
set_option linter.unusedVariables false
set_option linter.unusedSimpArgs false
attribute [local go_sem] Oper.semAt_some

structure KpM (m B : Nat) (c c' : Nat → Value) (w w' : World) : Prop where
  os : w'.os = w.os
  tape : w'.tape = w.tape
  output : w'.output = w.output
  size : w.heap.size ≤ w'.heap.size
  block : ∀ b, b < m → b ≠ B → (∀ j, (c j).ownBlock ≠ some b) → w'.heap[b]? = w.heap[b]?
  row : ∀ j, (c' j).ownBlock = (c j).ownBlock ∨ ∀ g, (c' j).ownBlock = some g → m ≤ g
theorem KpM.trans {m B : Nat} {c c1 c2 : Nat → Value} {w w1 w2 : World} (h : KpM m B c c1 w w1) (k : KpM m B c1 c2 w1 w2) : KpM m B c c2 w w2 := by
  refine ⟨k.os.trans h.os, k.tape.trans h.tape, k.output.trans h.output, Nat.le_trans h.size k.size, fun b hb h1 h2 => ?_, fun j => ?_⟩
  · refine (k.block b hb h1 (fun j e => ?_)).trans (h.block b hb h1 h2)
    rcases h.row j with r | r
    · exact h2 j (r ▸ e)
    · have := r b e; omega
  · rcases k.row j with r | r
    · rcases h.row j with r2 | r2
      · exact .inl (r.trans r2)
      · exact .inr (fun g e => r2 g (r ▸ e))
    · exact .inr r
theorem KpL.toM {m B : Nat} {c c' : Nat → Value} {w w' : World} (h : KpL B c c' w w') (hm : m ≤ w.heap.size) : KpM m B c c' w w' := ⟨h.os, h.tape, h.output, h.size, fun b hb => h.block b (Nat.lt_of_lt_of_le hb hm), fun j => (h.row j).imp id (fun r g e => Nat.le_trans hm (r g e))⟩
theorem KpM.toL {B : Nat} {c c' : Nat → Value} {w w' : World} (h : KpM w.heap.size B c c' w w') : KpL B c c' w w' := ⟨h.os, h.tape, h.output, h.size, h.block, h.row⟩
theorem KpM.low {m B : Nat} {c : Nat → Value} {w w' : World} (hb : Below m w w') : KpM m B c c w w' := ⟨hb.os, hb.tape, hb.output, hb.size, fun b h1 _ _ => hb.block b h1, fun _ => .inl rfl⟩
theorem iin_lenL {W : World} {h : Nat} {io : Option Addr} {ts : List VT} (hi : IIn W h io ts) : ts.length ≤ sumL (ts.map (szN h)) := by
  have h1 : ∀ t ∈ ts, 1 ≤ szN h t := fun t ht => by
    obtain ⟨i, hil, rfl⟩ := List.getElem_of_mem ht
    obtain ⟨b, off, _, _, hc⟩ := hi.row (by omega)
    obtain ⟨_, _, _, _, _, _, hI⟩ := hc i hil
    cases h with
    | zero => exact hI.elim
    | succ h => show 1 ≤ 1 + _ + _; omega
  clear hi
  induction ts with
  | nil => exact Nat.zero_le _
  | cons t r ih =>
    have h2 := h1 t List.mem_cons_self
    have h3 := ih (fun x hx => h1 x (List.mem_cons_of_mem _ hx))
    simp only [List.length_cons, List.map_cons, sumL]
    omega
theorem boxes3L (w : World) (o1 o2 o3 : Obj) : (((w.alloc o1).alloc o2).alloc o3).heap[w.heap.size]? = some o1 ∧ (((w.alloc o1).alloc o2).alloc o3).heap[w.heap.size + 1]? = some o2 ∧ (((w.alloc o1).alloc o2).alloc o3).heap[w.heap.size + 1 + 1]? = some o3 ∧ (((w.alloc o1).alloc o2).alloc o3).heap.size = w.heap.size + 3 ∧ Below w.heap.size w (((w.alloc o1).alloc o2).alloc o3) := by
  refine ⟨?_, ?_, ?_, by simp, (((below1 w o1).trans ((below1 (w.alloc o1) o2).mono (by simp))).trans ((below1 ((w.alloc o1).alloc o2) o3).mono (by simp; omega)))⟩
  · rw [Below.heap_alloc _ _ _ (by simp; omega), Below.heap_alloc _ _ _ (by simp), heap_alloc_new]
  · rw [Below.heap_alloc _ _ _ (by simp), show w.heap.size + 1 = (w.alloc o1).heap.size from by simp, heap_alloc_new]
  · rw [show w.heap.size + 1 + 1 = ((w.alloc o1).alloc o2).heap.size from by simp, heap_alloc_new]
theorem setL_one (w : World) (B i : Nat) (t : TypeId) (cs : Array Value) (v : Value) (h : w.heap[B]? = some (.cells cs t (0, 0))) : (w.setCell ⟨B, i, none⟩ v).heap[B]? = some (.cells (cs.setIfInBounds i v) t (0, 0)) ∧ (∀ b, b ≠ B → (w.setCell ⟨B, i, none⟩ v).heap[b]? = w.heap[b]?) ∧ (w.setCell ⟨B, i, none⟩ v).heap.size = w.heap.size ∧ ∀ n, n ≤ B → Below n w (w.setCell ⟨B, i, none⟩ v) := by
  refine ⟨?_, fun b hb => Below.heap_setCell _ _ _ _ hb, by simp, fun n hn => (Below.refl n w).setCell (p := ⟨B, i, none⟩) hn _⟩
  show (w.heap.modify B _)[B]? = _
  rw [Array.getElem?_modify, if_pos rfl, h]; rfl

set_option maxRecDepth 100000 in
set_option maxHeartbeats 6400000 in
theorem w_lValue_step (h : Nat) (ih : LVok h) : LVok (h + 1) := by
  intro B T v w0 w c n xs hI h0 hB hL hsz hn0 hn4
  have hsz' : szN (h + 1) T = 1 + T.keys.length + sumL (T.items.map (szN h)) := rfl
  obtain ⟨io, icap, ko, kcap, rfl, q1, q2, q3, q4, q5, q6, q7, hk, hi⟩ := hI
  have hII : IIn w0 h io T.items := ⟨hi⟩
  have hlen := iin_lenL hII
  have hBl := hL.lt
  obtain ⟨x0, x1, x2, x3, x4⟩ := boxes3L w (.cells #[.int .i64 T.kind, .string T.num, .string T.text, .slice io T.items.length icap, .slice ko T.keys.length kcap] 49) (.cells #[.int .i64 0, .string ⟨#[]⟩, .string ⟨#[]⟩, .slice none 0 0, .slice none 0 0] 49) (.cells #[.int .i64 T.kind, .string T.num, .string T.text, .slice io T.items.length icap, .slice ko T.keys.length kcap] 49)
  obtain ⟨W3, hW3⟩ : ∃ W3, ((w.alloc (.cells #[.int .i64 T.kind, .string T.num, .string T.text, .slice io T.items.length icap, .slice ko T.keys.length kcap] 49)).alloc (.cells #[.int .i64 0, .string ⟨#[]⟩, .string ⟨#[]⟩, .slice none 0 0, .slice none 0 0] 49)).alloc (.cells #[.int .i64 T.kind, .string T.num, .string T.text, .slice io T.items.length icap, .slice ko T.keys.length kcap] 49) = W3 := ⟨_, rfl⟩
  rw [hW3] at x0 x1 x2 x3 x4
  have hL3 := hL.keep x4
  have HC := Hid.mk (w_lValues h ih B io T.items.length icap T.items w0 W3 c n xs hII rfl q5 (by omega) (h0.trans (x4.mono h0.size)) hB hL3 (by omega) (by omega) (by omega))
  have HX := Hid.mk (And.intro x0 (And.intro x1 (And.intro x2 (And.intro x3 x4))))
  obtain ⟨a0, a1, a2, a3, a4, _⟩ := vboxL_cells x0
  have HL := Hid.mk hL
  have HL3 := Hid.mk hL3
  have HQ := Hid.mk (And.intro q1 (And.intro q2 (And.intro q3 (And.intro q4 (And.intro q7 hk)))))
  have H0 := Hid.mk h0
  have HBB := Hid.mk hB
  have HSZ := Hid.mk (And.intro hsz (And.intro hn0 (And.intro hn4 hlen)))
  have HW3 := Hid.mk hW3
  clear x0 x1 x2 x3 x4 hL3 hL q1 q2 q3 q4 q7 hk hi hII h0 hB hsz hn0 hn4 hlen hsz' ih
  go_enter Tryz.func22, Tryz.ntmps22
  go_wp2_with fail
  refine HC.out.mono ?_
  rintro e w4 ⟨g, cap, c1, n1, xs1, rfl, HR1⟩
  obtain ⟨x0, x1, x2, x3, x4⟩ := HX.out
  have R1 := HR1.out
  have far : ∀ q, q < W3.heap.size → w.heap.size ≤ q → w4.heap[q]? = W3.heap[q]? := fun q hq1 hq2 => R1.kp.block q hq1 (by omega) (fun j e => by have := (HL.out.base e).2; omega)
  have y0 := (far w.heap.size (by omega) (by omega)).trans x0
  have y1 := (far (w.heap.size + 1) (by omega) (by omega)).trans x1
  have y2 := (far (w.heap.size + 1 + 1) (by omega) (by omega)).trans x2
  obtain ⟨w5, hw5⟩ : ∃ w5, w4.setCell ⟨w.heap.size + 1 + 1, 3, none⟩ (.slice (some ⟨g, 0, none⟩) T.items.length cap) = w5 := ⟨_, rfl⟩
  obtain ⟨z2, zo, zs, zb⟩ := setL_one w4 (w.heap.size + 1 + 1) 3 49 _ (.slice (some ⟨g, 0, none⟩) T.items.length cap) y2
  rw [hw5] at z2 zo zs zb
  have z0 := (zo w.heap.size (by omega)).trans y0
  have z1 := (zo (w.heap.size + 1) (by omega)).trans y1
  have rows1 : ∀ j q, w.heap.size ≤ q → q < W3.heap.size → (c1 j).ownBlock ≠ some q := fun j q h1 h2 e => by
    rcases R1.kp.row j with r | r
    · have := (HL.out.base (j := j) (r ▸ e)).2; omega
    · have := r q e; omega
  have lists1 : ∀ j, j = 0 ∨ j = 4 → ∀ x ∈ xs1 j, ∀ q, w.heap.size ≤ q → q < W3.heap.size → x.ownBlock ≠ some q := fun j hj x hx q h1 h2 e => by
    rcases R1.fr j hj x hx with r | r
    · have := ((HL.out.mks j hj x r).lt e).1; omega
    · have := r q e; omega
  have hL5 : LnAt B w5 c1 n1 xs1 := R1.loan.other (q := w.heap.size + 1 + 1) (by omega) (fun j => rows1 j _ (by omega) (by omega)) (fun j hj x hx => lists1 j hj x hx _ (by omega) (by omega)) (fun b _ hne => zo b hne)
  have hb05 : Below w0.heap.size w0 w5 := H0.out.trans (((x4.mono (Nat.le_trans HBB.out (Nat.le_of_lt hBl))).trans (((R1.kp.below HL3.out).mono HBB.out).trans (zb _ (by have := HBB.out; omega)))).mono (Nat.le_refl _))
  obtain ⟨m0, m4⟩ := R1.num
  obtain ⟨p1, p2, p3, p4⟩ := HSZ.out
  have hsz' : szN (h + 1) T = 1 + T.keys.length + sumL (T.items.map (szN h)) := rfl
  have HC2 := Hid.mk (w_lStrings B ko T.keys.length kcap T.keys w0 w5 c1 n1 xs1 HQ.out.2.2.2.2.2 rfl q6 (by omega) hb05 HBB.out hL5 (by omega))
  obtain ⟨b0, b1, b2, b3, b4, _⟩ := vboxL_cells z0
  obtain ⟨_, _, _, e3, _, _, _, _, e8, _⟩ := vboxL_cells y2
  have HY2 := Hid.mk y2
  have HZ := Hid.mk (And.intro z0 (And.intro z1 (And.intro z2 (And.intro zs zb))))
  have HZO := Hid.mk zo
  have HL5 := Hid.mk hL5
  have HRO := Hid.mk rows1
  have HLI := Hid.mk lists1
  have HW5 := Hid.mk hw5
  have HB05 := Hid.mk hb05
  clear R1 far y0 y1 y2 z2 zo zs zb z0 z1 rows1 lists1 hL5 hb05 m0 m4 p1 p2 p3 p4 hsz' HC x0 x1 x2 x3 x4 a0 a1 a2 a3 a4
  go_wp2_with fail
  refine HC2.out.mono ?_
  rintro e w6 ⟨g2, cap2, c2, n2, xs2, rfl, HR2⟩
  obtain ⟨z0, z1, z2, zs, zb⟩ := HZ.out
  obtain ⟨x0, x1, x2, x3, x4⟩ := HX.out
  have R1 := HR1.out
  have R2 := HR2.out
  have s4 := R1.kp.size
  have far : ∀ q, q < W3.heap.size → w.heap.size ≤ q → w6.heap[q]? = w5.heap[q]? := fun q hq1 hq2 => R2.kp.block q (by omega) (by omega) (fun j => HRO.out j q hq2 hq1)
  have u1 := (far (w.heap.size + 1) (by omega) (by omega)).trans z1
  have u2 := (far (w.heap.size + 1 + 1) (by omega) (by omega)).trans z2
  obtain ⟨w7, hw7⟩ : ∃ w7, w6.setCell ⟨w.heap.size + 1 + 1, 4, none⟩ (.slice (some ⟨g2, 0, none⟩) T.keys.length cap2) = w7 := ⟨_, rfl⟩
  obtain ⟨v2, vo, vs, vb⟩ := setL_one w6 (w.heap.size + 1 + 1) 4 49 _ (.slice (some ⟨g2, 0, none⟩) T.keys.length cap2) u2
  rw [hw7] at v2 vo vs vb
  have v1 := (vo (w.heap.size + 1) (by omega)).trans u1
  have HU2 := Hid.mk u2
  obtain ⟨e0, e1, e2, e3', e4, _, _, _, _, e9⟩ := vboxL_cells u2
  obtain ⟨f0, f1, f2, f3, f4, _⟩ := vboxL_cells v2
  obtain ⟨r0, r1, r2, r3, r4, t0, t1, t2, t3, t4⟩ := vboxL_cells v1
  have HV := Hid.mk (And.intro v1 (And.intro v2 (And.intro vo (And.intro vs vb))))
  have HFAR := Hid.mk far
  clear z0 z1 z2 zs zb x0 x1 x2 x3 x4 R1 R2 s4 far u1 u2 v2 vo vs vb v1 HC2 b0 b1 b2 b3 b4 e3 e8
  go_wp2_with fail
  (try simp only [Exit.inBlock, Exit.then])
  generalize hz : ((((w7.setCell ⟨w.heap.size + 1, 0, none⟩ (.int .i64 T.kind)).setCell ⟨w.heap.size + 1, 1, none⟩ (.string T.num)).setCell ⟨w.heap.size + 1, 2, none⟩ (.string T.text)).setCell ⟨w.heap.size + 1, 3, none⟩ (.slice (some ⟨g, 0, none⟩) T.items.length cap)).setCell ⟨w.heap.size + 1, 4, none⟩ (.slice (some ⟨g2, 0, none⟩) T.keys.length cap2) = wz
  obtain ⟨k1, k2, k3, k4⟩ := setL5 _ _ _ _ _ _ _ _ _ _ _ _ _ HV.out.1 wz hz.symm
  obtain ⟨d0, d1, d2, d3, d4, _⟩ := vboxL_cells k1
  refine bodyPost_ret (v := .agg #[.int .i64 T.kind, .string T.num, .string T.text, .slice (some ⟨g, 0, none⟩) T.items.length cap, .slice (some ⟨g2, 0, none⟩) T.keys.length cap2]) (by simp [results, Tryz.results22, go_sem, d0, d1, d2, d3, d4]) rfl ?_
  refine ⟨_, c2, n2, xs2, rfl, ?_⟩
  clear d0 d1 d2 d3 d4 hz e0 e1 e2 e3' e4 e9 f0 f1 f2 f3 f4 r0 r1 r2 r3 r4 t0 t1 t2 t3 t4 k1 hw7 hW3
  obtain ⟨v1, v2, vo, vs, vb⟩ := HV.out
  obtain ⟨z0, z1, z2, zs, zb⟩ := HZ.out
  obtain ⟨x0, x1, x2, x3, x4⟩ := HX.out
  have zo := HZO.out
  have R1 := HR1.out
  have R2 := HR2.out
  have s4 := R1.kp.size
  have s6 := R2.kp.size
  have rows2 : ∀ j q, w.heap.size ≤ q → q < W3.heap.size → (c2 j).ownBlock ≠ some q := fun j q h1 h2 e => by
    rcases R2.kp.row j with r | r
    · exact HRO.out j q h1 h2 (r ▸ e)
    · have := r q e; omega
  have lists2 : ∀ j, j = 0 ∨ j = 4 → ∀ x ∈ xs2 j, ∀ q, w.heap.size ≤ q → q < W3.heap.size → x.ownBlock ≠ some q := fun j hj x hx q h1 h2 e => by
    rcases R2.fr j hj x hx with r | r
    · exact HLI.out j hj x r q h1 h2 e
    · have := r q e; omega
  have L7 : LnAt B w7 c2 n2 xs2 := R2.loan.other (q := w.heap.size + 1 + 1) (by omega) (fun j => rows2 j _ (by omega) (by omega)) (fun j hj x hx => lists2 j hj x hx _ (by omega) (by omega)) (fun b _ hne => vo b hne)
  have L8 : LnAt B wz c2 n2 xs2 := L7.other (q := w.heap.size + 1) (by omega) (fun j => rows2 j _ (by omega) (by omega)) (fun j hj x hx => lists2 j hj x hx _ (by omega) (by omega)) (fun b _ hne => k2 b hne)
  have KP : KpM w.heap.size B c c2 w wz := (((((KpM.low x4).trans (R1.kp.toM (by omega))).trans (KpM.low (zb _ (by omega)))).trans (R2.kp.toM (by omega))).trans (KpM.low (vb _ (by omega)))).trans (KpM.low (k4 _ (by omega)))
  have blk4 : ∀ b, b < w4.heap.size → W3.heap.size ≤ b → LnD B c1 b → wz.heap[b]? = w4.heap[b]? := fun b h1 h2 hd => (k2 b (by omega)).trans ((vo b (by omega)).trans ((R2.kp.block b (by omega) (by have := hd.1; omega) hd.2).trans (zo b (by omega))))
  have dom4 : ∀ b, b < w4.heap.size → LnD B c1 b → LnD B c2 b := fun b h1 hd => LnD.keep R2.kp hd (by omega)
  obtain ⟨cur, hcur⟩ := R1.blk
  have hgl : g < w4.heap.size := (Array.getElem?_eq_some_iff.1 hcur).1
  have hgn := R1.new
  have hg2n := R2.new
  have hg2l := R2.lt
  obtain ⟨q1, q2, q3, q4, q7, _⟩ := HQ.out
  refine ⟨L8, KP.toL, ((LnFr.refl w xs).trans R1.fr x4.size).trans R2.fr (by omega), ⟨some ⟨g, 0, none⟩, cap, some ⟨g2, 0, none⟩, cap2, rfl, q1, q2, q3, q4, R1.fit, R2.fit, q7, fun h0 => ?_, fun h0 => ?_⟩, ?_⟩
  · refine ⟨g2, 0, rfl, ⟨by omega, R2.dom⟩, by omega, fun i hi => ?_⟩
    rw [Nat.zero_add]
    exact (World.cell?_of_block (a := ⟨g2, i, none⟩) ((k2 g2 (by omega)).trans (vo g2 (by omega)))).trans (R2.cells i hi)
  · refine ⟨g, 0, rfl, ⟨by omega, dom4 g hgl R1.dom⟩, by omega, fun i hi => ?_⟩
    obtain ⟨y0, y1, y2, y3, y4, ⟨c0, c1', c2', c3, c4⟩, ht⟩ := R1.row i hi
    have cc : ∀ o u, w4.cell? ⟨g, o, none⟩ = some u → wz.cell? ⟨g, o, none⟩ = some u := fun o u hu => (World.cell?_of_block (a := ⟨g, o, none⟩) (blk4 g hgl hgn R1.dom)).trans hu
    refine ⟨y0, y1, y2, y3, y4, ⟨?_, ?_, ?_, ?_, ?_⟩, InL.keep (by omega) (fun b hb hl => blk4 b hl hb.1 hb.2.1) (fun b hb hl => ⟨by have := hb.1; omega, dom4 b hl hb.2.1⟩) ht⟩
    · rw [Nat.zero_add]; exact cc _ _ c0
    · rw [Nat.zero_add]; exact cc _ _ c1'
    · rw [Nat.zero_add]; exact cc _ _ c2'
    · rw [Nat.zero_add]; exact cc _ _ c3
    · rw [Nat.zero_add]; exact cc _ _ c4
  · obtain ⟨m0, m4⟩ := R1.num
    obtain ⟨p0, p4⟩ := R2.num
    have p4' := p4 4 (by omega)
    have hsz' : szN (h + 1) T = 1 + T.keys.length + sumL (T.items.map (szN h)) := rfl
    exact ⟨by omega, by omega⟩

theorem w_lValue : ∀ h, LVok h
  | 0 => fun _ _ _ _ _ _ _ _ hI => hI.elim
  | h + 1 => w_lValue_step h (w_lValue h)
end Go.Proofs.YtfjmgccbpiolhaaGreatDoor
