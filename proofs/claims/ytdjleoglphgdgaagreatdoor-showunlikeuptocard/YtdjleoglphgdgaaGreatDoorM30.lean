import Derived.Test.YtdjleoglphgdgaaGreatDoorM25
import Derived.Test.YtdjleoglphgdgaaGreatDoorM27
import Derived.WalkMore
import Derived.Deep.LoopGhost
import Derived.Test.YtdjleoglphgdgaaGreatDoorM24
import Derived.Test.YtdjleoglphgdgaaGreatDoorM26
namespace Go.Proofs.YtdjleoglphgdgaaGreatDoor
open Go.RowKit Go.Shelf
set_option linter.unusedVariables false
set_option linter.unusedSimpArgs false
attribute [local go_sem] Oper.semAt_some

def flT (l : List Tok) : List Value := l.flatMap fun t => [.int .i64 (t.kind : Int), .int .i64 (t.at_ : Int), .int .i64 (t.fin : Int), .string ⟨t.text.toArray⟩]
end Go.Proofs.YtdjleoglphgdgaaGreatDoor
namespace Go.Proofs.YtdjleoglphgdgaaGreatDoor
open Go.RowKit Go.Shelf
set_option linter.unusedVariables false
set_option linter.unusedSimpArgs false
attribute [local go_sem] Oper.semAt_some

/-- tokens in a row -/
def TRow (w : World) (so : Option Addr) (l : List Tok) : Prop := ∀ i, (h : i < l.length) → ∃ g off, so = some ⟨g, off, none⟩ ∧ g < w.heap.size ∧ w.cell? ⟨g, off + i * 4, none⟩ = some (.int .i64 (l[i].kind : Int)) ∧ w.cell? ⟨g, off + i * 4 + 1, none⟩ = some (.int .i64 (l[i].at_ : Int)) ∧ w.cell? ⟨g, off + i * 4 + 2, none⟩ = some (.int .i64 (l[i].fin : Int)) ∧ w.cell? ⟨g, off + i * 4 + 3, none⟩ = some (.string ⟨l[i].text.toArray⟩)
theorem TRow.keep {w w' : World} {so : Option Addr} {l : List Tok} (h : TRow w so l) (hb : Below w.heap.size w w') : TRow w' so l := fun i hi => by
  obtain ⟨g, off, e, hg, a0, a1, a2, a3⟩ := h i hi
  exact ⟨g, off, e, Nat.lt_of_lt_of_le hg hb.size, (hb.cell (p := ⟨_, _, _⟩) hg).trans a0, (hb.cell (p := ⟨_, _, _⟩) hg).trans a1, (hb.cell (p := ⟨_, _, _⟩) hg).trans a2, (hb.cell (p := ⟨_, _, _⟩) hg).trans a3⟩
end Go.Proofs.YtdjleoglphgdgaaGreatDoor
namespace Go.Proofs.YtdjleoglphgdgaaGreatDoor
open Go.RowKit Go.Shelf
set_option linter.unusedVariables false
set_option linter.unusedSimpArgs false
attribute [local go_sem] Oper.semAt_some

theorem below_row {wr w1 : World} {base : Nat} {e : TypeId} {size : Nat} {v : Value} {n : Nat} {xs : List Value} (hb : Below wr.heap.size wr w1) (h : wr.ownsRow base e size v n xs) : w1.ownsRow base e size v n xs := by
  refine ⟨h.1, h.2.imp id ?_⟩
  rintro ⟨g, cap, cur, rfl, e2, e3, rest⟩
  exact ⟨g, cap, cur, rfl, e2, heap_lowT hb (Array.getElem?_eq_some_iff.1 e3).1 e3, rest⟩
end Go.Proofs.YtdjleoglphgdgaaGreatDoor
namespace Go.Proofs.YtdjleoglphgdgaaGreatDoor
open Go.RowKit
set_option linter.unusedVariables false
set_option linter.unusedSimpArgs false

def opV (op : List Nat) : List Value := op.map fun (n : Nat) => .int .i64 (n : Int)
/-- the cutter as it stands: its text, and what is open -/
structure CtW (B C : Nat) (s : ByteArray) (v : Value) (op : List Nat) (w : World) : Prop where
  box : CtB w C s v
  row : w.ownsRow B 3 1 v op.length (opV op)
/-- what a step of the cutter keeps -/
structure CtL (C : Nat) (row : Option Nat) (w w' : World) : Prop where
  size : w.heap.size ≤ w'.heap.size
  block : ∀ b, b < w.heap.size → b ≠ C → row ≠ some b → w'.heap[b]? = w.heap[b]?
theorem CtL.refl (C : Nat) (row : Option Nat) (w : World) : CtL C row w w := ⟨Nat.le_refl _, fun _ _ _ _ => rfl⟩
theorem CtL.of {C : Nat} {row : Option Nat} {w w' : World} (h : Below w.heap.size w w') : CtL C row w w' := ⟨h.size, fun b hb _ _ => h.block b hb⟩
theorem CtL.trans {C : Nat} {row : Option Nat} {a b c : World} (h : CtL C row a b) (k : CtL C row b c) : CtL C row a c :=
  ⟨Nat.le_trans h.size k.size, fun i h1 h2 h3 => (k.block i (Nat.lt_of_lt_of_le h1 h.size) h2 h3).trans (h.block i h1 h2 h3)⟩
theorem CtW.keep {B C : Nat} {s : ByteArray} {v : Value} {op : List Nat} {w w' : World} (h : CtW B C s v op w) (hb : Below w.heap.size w w') : CtW B C s v op w' := ⟨h.box.low hb h.box.lt, below_row hb h.row⟩
theorem own_typeW {w : World} {B : Nat} {e t : TypeId} {size : Nat} {v : Value} {n : Nat} {xs : List Value} {g : Nat} {cs : Array Value} {f : Nat × Nat} (h : w.ownsRow B e size v n xs) (hg : w.heap[g]? = some (.cells cs t f)) (ht : t ≠ e) : v.ownBlock ≠ some g := by
  intro hb
  rcases h.2 with ⟨rfl, _⟩ | ⟨g', cap, cur, rfl, e2, e3, _⟩
  · cases hb
  · simp [Value.ownBlock] at hb
    subst hb
    rw [hg] at e3
    simp at e3
    exact ht e3.2.1
end Go.Proofs.YtdjleoglphgdgaaGreatDoor
namespace Go.Proofs.YtdjleoglphgdgaaGreatDoor
open Go.RowKit
set_option linter.unusedVariables false
set_option linter.unusedSimpArgs false

theorem nameW_pos {l : List UInt8} {p : Nat} (hp : p < l.length) (h : leB (l.getD p 0) = true) : 0 < (nameW l p).length := by
  unfold nameW
  rw [if_pos ⟨hp, h⟩]
  have h1 := bhP_gt (P := inB) hp (by unfold inB; rw [h]; rfl)
  have h2 := bhP_ge inB (l := l) (p := p) (by omega)
  rw [cut_len h2.2]; omega
theorem mkW_len (l : List UInt8) (p : Nat) : (mkW l p).length ≤ l.length - p := by
  unfold mkW
  repeat' split
  all_goals (simp <;> omega)
/-- a token that is read lies in the text -/
theorem tok_up {l : List UInt8} {op : List Nat} {p : Nat} (hp : p < l.length) (h : (tokW l op p).err = 0) : (tokW l op p).at_ = p ∧ p < (tokW l op p).fin ∧ (tokW l op p).fin ≤ l.length := by
  have hn := nameW_len (l := l) (p := p) (by omega)
  have hn1 := nameW_len (l := l) (p := p + 1) (by omega)
  unfold tokW at h ⊢
  split
  · next h1 =>
    have := nameW_pos hp h1
    exact ⟨rfl, by show p < p + _; omega, hn⟩
  · next h1 =>
    rw [if_neg h1] at h
    split
    · next h2 =>
      rw [if_pos h2] at h
      unfold varT at h ⊢
      split
      · exact ⟨rfl, by show p < p + 1 + _; omega, hn1⟩
      · next h3 => rw [if_neg h3] at h; cases h
    · next h2 =>
      rw [if_neg h2] at h
      split
      · exact ⟨rfl, by show p < p + 1 + _; omega, hn1⟩
      · next h3 =>
        rw [if_neg h3] at h
        split
        · next h4 =>
          rw [if_pos h4] at h
          unfold numT16 at h ⊢
          have h5 := bhP_gt (P := nuB) hp (by unfold nuB inB; rw [h4]; simp)
          have h6 := bhP_ge nuB (l := l) (p := p) (by omega)
          split
          · exact ⟨rfl, h5, h6.2⟩
          · next h7 => rw [if_neg h7] at h; cases h
        · next h4 =>
          rw [if_neg h4] at h
          split
          · next h5 =>
            rw [if_pos h5] at h
            have := piece_up hp h
            exact ⟨this.1, by omega, this.2.2⟩
          · next h5 =>
            rw [if_neg h5] at h
            split
            · next h6 =>
              rw [if_pos h6] at h
              have := piece_up hp h
              exact ⟨this.1, by omega, this.2.2⟩
            · next h6 =>
              rw [if_neg h6] at h
              unfold markT at h ⊢
              split
              · next h7 => rw [if_pos h7] at h; cases h
              · next h7 =>
                have h8 := mkW_len l p
                have h9 : 0 < (mkW l p).length := List.length_pos_iff.2 h7
                exact ⟨rfl, by show p < p + _; omega, by show p + _ ≤ _; omega⟩
where
  mkW_head0 {l : List UInt8} {p : Nat} (h : mkW l p = [41]) (hp : p < l.length) : (l.getD p 0).toNat = 41 := by
    have e := drop_getD hp
    unfold mkW at h
    rw [e] at h
    split at h
    · simp at h; exact congrArg UInt8.toNat (show l.getD p 0 = 41 from h.1)
    · split at h
      · simp at h; exact congrArg UInt8.toNat (show l.getD p 0 = 41 from h.1)
      · split at h
        · simp at h; exact congrArg UInt8.toNat (show l.getD p 0 = 41 from h)
        · cases h

theorem scF_up {l : List UInt8} : ∀ (f p : Nat) (op : List Nat), p ≤ l.length → l.length - p < f → scF l (f + 1) p op = scF l f p op := by
  intro f
  induction f with
  | zero => intro p op _ h; omega
  | succ f ih =>
    intro p op hp h
    by_cases h1 : p < l.length
    · by_cases h2 : (tokW l op p).err = 0
      · have hu := tok_up h1 h2
        have hi := idW_ge hu.2.2
        have e : ∀ g, scF l (g + 1) p op = tokW l op p :: scF l g (idW l (tokW l op p).fin) (openW (tokW l op p) op) := fun g => by rw [scF, if_pos h1, if_pos h2]
        rw [e, e, ih _ _ hi.2 (by omega)]
      · have e : ∀ g, scF l (g + 1) p op = [tokW l op p] := fun g => by rw [scF, if_pos h1, if_neg h2]
        rw [e, e]
    · have e : ∀ g, scF l (g + 1) p op = (if op = [] then [] else [⟨0, l.length, 0, [], 21⟩]) := fun g => by rw [scF, if_neg h1]
      rw [e, e]
theorem scF_more {l : List UInt8} {p : Nat} {op : List Nat} (hp : p ≤ l.length) : ∀ (k f : Nat), l.length - p < f → scF l (f + k) p op = scF l f p op := by
  intro k
  induction k with
  | zero => intro f _; rfl
  | succ k ih => intro f h; rw [show f + (k + 1) = (f + k) + 1 by omega, scF_up _ _ _ hp (by omega)]; exact ih f h
theorem scF_any {l : List UInt8} {p f g : Nat} {op : List Nat} (hp : p ≤ l.length) (hf : l.length - p < f) (hg : l.length - p < g) : scF l f p op = scF l g p op := by
  rcases Nat.le_total f g with h | h
  · rw [show g = f + (g - f) by omega, scF_more hp _ _ hf]
  · rw [show f = g + (f - g) by omega, scF_more hp _ _ hg]
theorem sc_step {l : List UInt8} {p : Nat} {op : List Nat} (hp : p < l.length) (h : (tokW l op p).err = 0) : scF l (l.length + 1) p op = tokW l op p :: scF l (l.length + 1) (idW l (tokW l op p).fin) (openW (tokW l op p) op) := by
  have hu := tok_up hp h
  have hi := idW_ge hu.2.2
  rw [scF, if_pos hp, if_pos h]
  rw [scF_any (g := l.length + 1) hi.2 (by omega) (by omega)]
theorem sc_end {l : List UInt8} {f p : Nat} {op : List Nat} (hp : ¬ p < l.length) : scF l (f + 1) p op = if op = [] then [] else [⟨0, l.length, 0, [], 21⟩] := by rw [scF, if_neg hp]
end Go.Proofs.YtdjleoglphgdgaaGreatDoor
