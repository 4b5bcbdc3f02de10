import Derived.Test.YtfjmgccbpiolhaaGreatDoorM25
import Derived.Test.YtfjmgccbpiolhaaGreatDoorM28
namespace Go.Proofs.YtfjmgccbpiolhaaGreatDoor
open Go.RowKit
set_option linter.unusedVariables false
set_option linter.unusedSimpArgs false

theorem sub_has {a b : List UInt8} (h : a.all (b.contains ·) = true) {c : UInt8} (hc : a.contains c = true) : b.contains c = true := by
  have := List.all_eq_true.1 h c (by simpa using hc)
  exact this

theorem nextT_up {l : List UInt8} {p : Nat} (hp : p < l.length) (h : (nextT l p).err = 0) : p < (nextT l p).fin ∧ (nextT l p).fin ≤ l.length := by
  unfold nextT at h ⊢
  split
  · exact ⟨by show p < p + 1; omega, by show p + 1 ≤ _; omega⟩
  · next h1 =>
    rw [if_neg h1] at h
    split
    · next h2 =>
      rw [if_pos h2] at h
      unfold litT at h ⊢
      split
      · next h3 =>
        have := unqL_le l (l.length - (p + 1)) (p + 1) [] (Nat.le_refl _) h3 hp
        exact ⟨by show p < (unqL l (p + 1) []).2.1; omega, this.2⟩
      · next h3 => rw [if_neg h3] at h; exact absurd h h3
    · next h2 =>
      rw [if_neg h2] at h
      split
      · next h3 =>
        rw [if_pos h3] at h
        have hg := behL_gt (cs := cWd) hp (sub_has (by decide +kernel) h3)
        have hl := (behL_ge (l := l) (p := p) cWd (by omega)).2
        unfold wordT at h ⊢
        split
        · exact ⟨hg, hl⟩
        · next a1 =>
          rw [if_neg a1] at h
          split
          · exact ⟨hg, hl⟩
          · next a2 =>
            rw [if_neg a2] at h
            split
            · exact ⟨hg, hl⟩
            · next a3 => rw [if_neg a3] at h; cases h
      · next h3 =>
        rw [if_neg h3] at h
        split
        · next h4 =>
          rw [if_pos h4] at h
          have hg := behL_gt (cs := cNm) hp (sub_has (by decide +kernel) h4)
          have hl := (behL_ge (l := l) (p := p) cNm (by omega)).2
          unfold numeralT at h ⊢
          split
          · exact ⟨hg, hl⟩
          · next a1 => rw [if_neg a1] at h; cases h
        · next h4 => rw [if_neg h4] at h; cases h

def At (l : List UInt8) (pre : List Tok) (p : Nat) : Prop := p ≤ l.length ∧ pre.length ≤ p ∧ ∃ f, l.length - p < f ∧ allY l = pre ++ restY l f p
theorem at_start (l : List UInt8) : At l [] (behL l 0 cBl) := ⟨(behL_ge cBl (Nat.zero_le _)).2, Nat.zero_le _, l.length + 1, by omega, rfl⟩
theorem At.done {l : List UInt8} {pre : List Tok} {p : Nat} (h : At l pre p) (hp : ¬ p < l.length) : allY l = pre := by
  obtain ⟨_, _, f, hf, e⟩ := h
  cases f with
  | zero => omega
  | succ f => rw [e, restY, if_neg hp, List.append_nil]
theorem At.fault {l : List UInt8} {pre : List Tok} {p : Nat} (h : At l pre p) (hp : p < l.length) (he : (nextT l p).err ≠ 0) : allY l = pre ++ [nextT l p] := by
  obtain ⟨_, _, f, hf, e⟩ := h
  cases f with
  | zero => omega
  | succ f => rw [e, restY, if_pos hp, if_neg he]
theorem At.next {l : List UInt8} {pre : List Tok} {p : Nat} (h : At l pre p) (hp : p < l.length) (he : (nextT l p).err = 0) : At l (pre ++ [nextT l p]) (behL l (nextT l p).fin cBl) ∧ p < behL l (nextT l p).fin cBl := by
  obtain ⟨_, hq, f, hf, e⟩ := h
  obtain ⟨u1, u2⟩ := nextT_up hp he
  have hb := behL_ge (l := l) (p := (nextT l p).fin) cBl u2
  cases f with
  | zero => omega
  | succ f =>
    refine ⟨⟨hb.2, by rw [List.length_append]; simp; omega, f, by omega, ?_⟩, by omega⟩
    rw [e, restY, if_pos hp, if_pos he]; simp
theorem At.pre {l : List UInt8} {pre : List Tok} {p : Nat} (h : At l pre p) (hp : p < l.length) : pre ++ [nextT l p] <+: allY l := by
  by_cases he : (nextT l p).err = 0
  · obtain ⟨_, _, f, _, e⟩ := (h.next hp he).1
    exact ⟨_, e.symm⟩
  · rw [h.fault hp he]; exact List.prefix_refl _

structure KpT (E : Nat → Prop) (B : Nat) (W W' : World) : Prop where
  kp : KpB E B W W'
  live : ∀ b', rowAt W' B = some b' → rowAt W B = some b' ∨ b' < W'.heap.size
theorem KpT.trans {E : Nat → Prop} {B : Nat} {X Y Z : World} (h : KpT E B X Y) (k : KpT E B Y Z) : KpT E B X Z := by
  refine ⟨h.kp.trans k.kp, fun b' e => ?_⟩
  rcases k.live b' e with e2 | e2
  · rcases h.live b' e2 with e3 | e3
    · exact .inl e3
    · exact .inr (Nat.lt_of_lt_of_le e3 k.kp.size)
  · exact .inr e2
theorem KpT.put {E : Nat → Prop} {B : Nat} {w : World} (hB : B < w.heap.size) (W : World) (l : Nat) (o o' : Obj) (hl : w.heap.size ≤ l) (h : W.heap[l]? = some o) (hc : o.isCells = false) (hw : o.isWalk = false) : KpT E B W (W.putObj l o') := by
  refine ⟨KpB.put hB W l o o' hl h hc hw, fun b' e => .inl ?_⟩
  unfold rowAt at e ⊢
  rw [World.cell?_of_block (w := W) (w' := W.putObj l o') (a := ⟨B, 0, none⟩) (World.putObj_heap_other (by show B ≠ l; omega))] at e
  exact e

structure CuSt (E : Nat → Prop) (B Bk : Nat) (wr : World) : Prop where
  kn : wr.heap[Bk]? = some (.cells known 231 (0, 0))
  row : rowAt wr B = none ∨ ∃ b', rowAt wr B = some b' ∧ Bk < b' ∧ b' < wr.heap.size
  err : ErrIn wr
  lt : B < Bk ∧ 4 < Bk ∧ ¬ E Bk ∧ ¬ E 4 ∧ ∀ b, E b → b < Bk
theorem CuSt.keep {E : Nat → Prop} {B Bk : Nat} {wr W : World} (h : CuSt E B Bk wr) (hb : Below wr.heap.size wr W) : CuSt E B Bk W := by
  have hl := (Array.getElem?_eq_some_iff.1 h.kn).1
  refine ⟨heap_lowT hb hl h.kn, ?_, h.err.keep hb, h.lt⟩
  rw [rowAt_below hb (by have := h.lt.1; omega)]
  rcases h.row with e | ⟨b', e, h1, h2⟩
  · exact .inl e
  · exact .inr ⟨b', e, h1, Nat.lt_of_lt_of_le h2 hb.size⟩
theorem CuSt.round {E : Nat → Prop} {B Bk : Nat} {wr W : World} (h : CuSt E B Bk wr) (hk : KpT E B wr W) : CuSt E B Bk W := by
  have hl := (Array.getElem?_eq_some_iff.1 h.kn).1
  have hne : ∀ b, b ≤ Bk → rowAt wr B ≠ some b := fun b hb => by
    rcases h.row with e | ⟨b', e, hlt, _⟩
    · rw [e]; simp
    · rw [e]; intro e2; cases e2; omega
  refine ⟨hk.kp.same Bk _ h.lt.2.2.1 (hne _ (Nat.le_refl _)) h.kn rfl, ?_, ?_, h.lt⟩
  · rcases hk.kp.row with e | ⟨b', e, hle⟩
    · rw [e]
      rcases h.row with e | ⟨b', e, h1, h2⟩
      · exact .inl e
      · exact .inr ⟨b', e, h1, Nat.lt_of_lt_of_le h2 hk.kp.size⟩
    · refine .inr ⟨b', e, by omega, ?_⟩
      rcases hk.live b' e with e2 | e2
      · rcases h.row with e3 | ⟨b2, e3, h1, h2⟩
        · rw [e3] at e2; cases e2
        · rw [e3] at e2; cases e2; exact Nat.lt_of_lt_of_le h2 hk.kp.size
      · exact e2
  · obtain ⟨ev, hc, hv⟩ := h.err
    exact ⟨ev, hk.kp.cell hc h.lt.2.2.2.1 (hne _ (Nat.le_of_lt h.lt.2.1)), hv⟩
theorem CuSt.fresh {E : Nat → Prop} {B Bk : Nat} {wr W : World} {o : Obj} {i : Nat} {v : Value} (h : CuSt E B Bk wr) (hk : KpT E B (wr.alloc o) W) (hv : (wr.alloc o).cell? ⟨wr.heap.size, i, none⟩ = some v) : W.cell? ⟨wr.heap.size, i, none⟩ = some v := by
  have hl := (Array.getElem?_eq_some_iff.1 h.kn).1
  refine hk.kp.cell hv (fun he => by have : wr.heap.size < Bk := h.lt.2.2.2.2 _ he; omega) ?_
  rw [rowAt_below (below1 wr o) (by have := h.lt.1; omega)]
  rcases h.row with e | ⟨b', e, _, hlt⟩
  · rw [e]; simp
  · rw [e]; intro e2; cases e2; exact absurd hlt (Nat.lt_irrefl _)
end Go.Proofs.YtfjmgccbpiolhaaGreatDoor
namespace Go.Proofs.YtfjmgccbpiolhaaGreatDoor
open Go.RowKit Go.Shelf
set_option linter.unusedVariables false
set_option linter.unusedSimpArgs false

structure Bks (B : Nat) (r : Loop) (W : World) : Prop where
  book : W.heap[B + 1]? = some (.loop r)
  off : W.heap[B]? = some (.deferred (some []))
theorem Bks.grown {B : Nat} {r : Loop} {W W' : World} {row : Option Nat} (h : Bks B r W) (hg : W.grownBy W' row) (hr : ∀ k, row = some k → ∃ o : Obj, W.heap[k]? = some o ∧ o.isWalk = true) : Bks B r W' :=
  ⟨(grownBy_keeps hg hr h.book rfl).trans h.book, (grownBy_keeps hg hr h.off rfl).trans h.off⟩
theorem Bks.kept {B : Nat} {r : Loop} {W W' : World} (h : Bks B r W) (hk : KeepsFrom B W W') : Bks B r W' :=
  ⟨hk.same _ _ (Nat.le_succ _) h.book rfl, hk.same _ _ (Nat.le_refl _) h.off rfl⟩
theorem Bks.put {B : Nat} {r : Loop} {W : World} (h : Bks B r W) (r' : Loop) : Bks B r' (W.putObj (B + 1) (.loop r')) :=
  ⟨World.putObj_heap_same (Array.getElem?_eq_some_iff.1 h.book).1, (World.putObj_heap_other (by omega)).trans h.off⟩
theorem Bks.own {β : Type} {B : Nat} {r : Loop} {W : World} (h : Bks B r W) {I : β → World → Prop} (hI : OwnFrom B I) {x : β} (hx : I x W) (r' : Loop) : I x (W.putObj (B + 1) (.loop r')) :=
  hI.putObj _ hx (Nat.le_succ _) h.book rfl
theorem rows_own {B : Nat} {W1 A : World} {row : Option Nat} (hB : B ≤ W1.heap.size) (h : ∀ k, row = some k → W1.heap.size ≤ k ∧ ∃ o : Obj, A.heap[k]? = some o ∧ o.isWalk = true) : ∀ k, row = some k → B ≤ k ∧ ∃ o : Obj, A.heap[k]? = some o ∧ o.isCells = false := fun k e => by
  obtain ⟨h1, o, ho, hw⟩ := h k e
  exact ⟨Nat.le_trans hB h1, o, ho, Obj.not_cells_of_walk hw⟩

end Go.Proofs.YtfjmgccbpiolhaaGreatDoor
