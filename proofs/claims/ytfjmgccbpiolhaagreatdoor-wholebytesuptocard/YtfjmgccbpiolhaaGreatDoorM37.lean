import Derived.Test.YtfjmgccbpiolhaaGreatDoorM34
import Derived.Test.YtfjmgccbpiolhaaGreatDoorM35
import Derived.Shelf.Abstract
namespace Go.Proofs.YtfjmgccbpiolhaaGreatDoor
open Go.RowKit Go.Shelf
set_option linter.unusedVariables false
set_option linter.unusedSimpArgs false

theorem wpF_block {f : FuncId} {ro : Option Nat} {P : Program} {id : Nat} {c : Code} {Q : Exit → Act → World → Prop} {a : Act} {w : World} (h : wpF f ro P c (Exit.inBlock id Q) a w) : wpF f ro P (Code.block id c) Q a w := by
  intro b k cs hro hb
  have h0 : (lone (b.atR a (.code (.block id c) :: k)) cs w).fenced P Fence.wide := fenced_wide P _
  obtain ⟨e, a₁, w₁, hq, harr⟩ := h b (.inBlock id :: k) cs hro hb
  cases e with
  | normal => exact ⟨.normal, a₁, w₁, hq, .head h0 stepR_block (StepsIn.trans harr (.one (fenced_wide P _) stepR_inBlock))⟩
  | exit id' =>
    by_cases hid : id' = id
    · simp only [Exit.inBlock, hid, if_true] at hq
      exact ⟨.normal, a₁, w₁, hq, .head h0 stepR_block (harr.1 k (by simp [exitTo, hid]))⟩
    · simp only [Exit.inBlock, hid, if_false] at hq
      have this : (id == id') = false := by simp; exact fun h => hid h.symm
      have hx : exitTo id' (.inBlock id :: k) = exitTo id' k := by simp [exitTo, this]
      exact ⟨.exit id', a₁, w₁, hq, fun k' hk => .head h0 stepR_block (harr.1 k' (by rw [hx]; exact hk)),
        fun hr' hk => let ⟨k₁, h1, h2⟩ := harr.2 hr' (by rw [hx]; exact hk); ⟨k₁, h1, .head h0 stepR_block h2⟩⟩
  | goto l =>
    have hx : gotoIn l (.inBlock id :: k) = gotoIn l k := by simp [gotoIn]
    exact ⟨_, a₁, w₁, hq, fun k' hk => .head h0 stepR_block (harr.1 k' (by rw [hx]; exact hk)),
      fun hr' hk => let ⟨k₁, h1, h2⟩ := harr.2 hr' (by rw [hx]; exact hk); ⟨k₁, h1, .head h0 stepR_block h2⟩⟩
  | ret => exact ⟨_, a₁, w₁, hq, .of_steps (.one h0 stepR_block) harr⟩
  | panic ch => exact ⟨_, a₁, w₁, hq, .of_steps (.one h0 stepR_block) harr⟩
  | outgrown => exact ⟨_, a₁, w₁, hq, .of_steps (.one h0 stepR_block) harr⟩
theorem wpF_cut (M : Act → World → Prop) {f : FuncId} {ro : Option Nat} {P : Program} {x y : Code} {Q : Exit → Act → World → Prop} {a : Act} {w : World} (h : wpF f ro P x (Exit.then M (fun _ _ _ => False)) a w) (h2 : ∀ a' w', M a' w' → wpF f ro P y Q a' w') : wpF f ro P (Code.seq x y) Q a w := by
  refine wpF_seq (wpF_mono h ?_)
  intro e a' w' hq
  cases e with
  | normal => exact h2 _ _ hq
  | exit id => exact hq.elim
  | goto l => exact hq.elim
  | ret => exact hq.elim
  | panic ch => exact hq.elim
  | outgrown => exact hq.elim

structure But (I : Nat) (w w' : World) : Prop where
  os : w'.os = w.os
  tape : w'.tape = w.tape
  output : w'.output = w.output
  size : w.heap.size ≤ w'.heap.size
  block : ∀ k, k < w.heap.size → k ≠ I → w'.heap[k]? = w.heap[k]?
theorem But.of {I : Nat} {w w' : World} (h : Below w.heap.size w w') : But I w w' := ⟨h.os, h.tape, h.output, h.size, fun k hk _ => h.block k hk⟩
theorem But.trans {I : Nat} {a b c : World} (h : But I a b) (k : But I b c) : But I a c :=
  ⟨k.os.trans h.os, k.tape.trans h.tape, k.output.trans h.output, Nat.le_trans h.size k.size, fun i hi hn => (k.block i (Nat.lt_of_lt_of_le hi h.size) hn).trans (h.block i hi hn)⟩
theorem But.below {I n : Nat} {w w' : World} (h : But I w w') (hn : n ≤ w.heap.size) (hI : n ≤ I) : Below n w w' := ⟨h.os, h.tape, h.output, h.size, fun k hk => h.block k (by omega) (by omega)⟩
theorem But.step {I n : Nat} {w a b : World} (h : But I w a) (hn : w.heap.size ≤ n) (k : Below n a b) : But I w b :=
  ⟨k.os.trans h.os, k.tape.trans h.tape, k.output.trans h.output, Nat.le_trans h.size k.size, fun i hi hne => (k.block i (by omega)).trans (h.block i hi hne)⟩
theorem But.set {I : Nat} {w a : World} (h : But I w a) (j : Nat) (v : Value) : But I w (a.setCell ⟨I, j, none⟩ v) :=
  ⟨h.os, h.tape, h.output, by simp [World.setCell]; exact h.size, fun k hk hn => (Below.heap_setCell _ _ _ _ hn).trans (h.block k hk hn)⟩
theorem But.set2 {I : Nat} {w a : World} (h : But I w a) (g j : Nat) (hg : w.heap.size ≤ g) (v : Value) : But I w (a.setCell ⟨g, j, none⟩ v) :=
  ⟨h.os, h.tape, h.output, by simp [World.setCell]; exact h.size, fun k hk hn => (Below.heap_setCell _ _ _ _ (by show k ≠ g; omega)).trans (h.block k hk hn)⟩
theorem But.own {β : Type} {I n : Nat} {w : World} (hn : w.heap.size ≤ n) : OwnFrom n (fun (_ : β) W => But I w W) := by
  intro _ A A' row h hg hr
  refine ⟨hg.os.trans h.os, hg.tape.trans h.tape, hg.output.trans h.output, Nat.le_trans h.size hg.size, fun k hk hne => ?_⟩
  have := h.size
  rw [hg.block k (by omega) (fun e => by have := (hr k e.symm).1; omega)]
  exact h.block k hk hne

end Go.Proofs.YtfjmgccbpiolhaaGreatDoor
namespace Go.Proofs.YtfjmgccbpiolhaaGreatDoor
open Go.RowKit Go.Shelf
set_option linter.unusedVariables false
set_option linter.unusedSimpArgs false

theorem unqL_place (l : List UInt8) : ∀ (n p : Nat) (acc : List Nat), l.length - p ≤ n → p ≤ l.length → (unqL l p acc).2.1 ≤ l.length := by
  intro n
  induction n with
  | zero =>
    intro p acc hn hp
    rw [unqL_end acc (by omega)]
    exact Nat.le_refl _
  | succ n ih =>
    intro p acc hn hp
    by_cases hlt : p < l.length
    · rw [unqL, dif_pos hlt]
      split
      · show p + 1 ≤ _; omega
      · split
        · exact hp
        · split
          · exact hp
          · split
            · split
              · next h5 =>
                obtain ⟨e1, e2, _⟩ := escL_ok h5
                rw [if_pos e1]
                exact ih _ _ (by omega) e2
              · next h5 =>
                rcases escL_code l p with h | ⟨_, _, h⟩ | ⟨_, _, h⟩
                · exact absurd h h5
                · show (escL l p).2.1 ≤ _; omega
                · show (escL l p).2.1 ≤ _; omega
            · have hz := decL_pos (l.drop p)
              have hst := decL_le (l.drop p) (fun e => by have := congrArg List.length e; rw [List.length_drop] at this; simp at this; omega)
              rw [List.length_drop] at hst
              rw [if_pos (by omega)]
              exact ih _ _ (by omega) (by omega)
    · rw [unqL_end acc hlt]; exact Nat.le_refl _
theorem nextT_le {l : List UInt8} {p : Nat} (hp : p < l.length) : (nextT l p).at_ ≤ l.length ∧ (nextT l p).fin ≤ l.length := by
  refine ⟨?_, ?_⟩
  · unfold nextT
    split
    · show p ≤ _; omega
    · split
      · unfold litT
        split
        · show p ≤ _; omega
        · exact unqL_place l _ (p + 1) [] (Nat.le_refl _) hp
      · split
        · unfold wordT
          repeat' split
          all_goals (show p ≤ _; omega)
        · split
          · unfold numeralT
            split
            all_goals (show p ≤ _; omega)
          · show p ≤ _; omega
  · by_cases h : (nextT l p).err = 0
    · exact (nextT_up hp h).2
    · suffices hf : (nextT l p).fin = 0 by omega
      revert h
      unfold nextT
      split
      · intro h; exact absurd rfl h
      · split
        · unfold litT
          split
          · intro h; exact absurd rfl h
          · intro _; rfl
        · split
          · unfold wordT
            repeat' split
            all_goals intro h
            all_goals first | rfl | exact absurd rfl h
          · split
            · unfold numeralT
              split
              all_goals intro h
              all_goals first | rfl | exact absurd rfl h
            · intro _; rfl
theorem first_of (b : List UInt8) (x : Tok) (h : [x] <+: allY b) : behL b 0 cBl < b.length ∧ x = nextT b (behL b 0 cBl) ∧ x.at_ ≤ b.length ∧ x.fin ≤ b.length := by
  have hq := behL_ge (l := b) (p := 0) cBl (Nat.zero_le _)
  unfold allY at h
  rw [restY] at h
  by_cases hlt : behL b 0 cBl < b.length
  · rw [if_pos hlt] at h
    have hx : x = nextT b (behL b 0 cBl) := by
      split at h
      · exact (List.cons_prefix_cons.1 h).1
      · exact (List.cons_prefix_cons.1 h).1
    obtain ⟨h1, h2⟩ := nextT_le hlt
    rw [← hx] at h1 h2
    exact ⟨hlt, hx, h1, h2⟩
  · rw [if_neg hlt] at h
    simp at h
theorem behL_drop (l : List UInt8) (p : Nat) (hp : p ≤ l.length) : behL l p cBl = p + behL (l.drop p) 0 cBl := by
  obtain ⟨x, b, rfl, rfl⟩ : ∃ x b, l = x ++ b ∧ p = x.length := ⟨l.take p, l.drop p, (List.take_append_drop p l).symm, by rw [List.length_take]; omega⟩
  have hb := behL_pre (x := x) (b := b) (p := 0) (cs := cBl) (Nat.zero_le _)
  rw [Nat.add_zero] at hb
  rw [hb]; simp
theorem nextT_drop (l : List UInt8) (p : Nat) (hp : p ≤ l.length) (h : behL (l.drop p) 0 cBl < (l.drop p).length) : nextT l (behL l p cBl) = shiftT p (nextT (l.drop p) (behL (l.drop p) 0 cBl)) := by
  rw [behL_drop l p hp]
  obtain ⟨x, b, rfl, rfl⟩ : ∃ x b, l = x ++ b ∧ p = x.length := ⟨l.take p, l.drop p, (List.take_append_drop p l).symm, by rw [List.length_take]; omega⟩
  have hd : (x ++ b).drop x.length = b := by simp
  rw [hd] at h ⊢
  exact nextT_pre h
theorem allY_none (b : List UInt8) (h : allY b = []) : behL b 0 cBl = b.length := by
  have hq := behL_ge (l := b) (p := 0) cBl (Nat.zero_le _)
  unfold allY at h
  rw [restY] at h
  by_cases hlt : behL b 0 cBl < b.length
  · rw [if_pos hlt] at h
    split at h <;> cases h
  · omega
theorem tail_list (s : ByteArray) (p : Nat) : (s.extract p s.size).data.toList = s.data.toList.drop p := by
  rw [ByteArray.data_extract, Array.toList_extract]
  simp [List.extract]
  rw [List.take_of_length_le]
  simp
end Go.Proofs.YtfjmgccbpiolhaaGreatDoor
namespace Go.Proofs.YtfjmgccbpiolhaaGreatDoor
open Go.RowKit Go.Shelf
set_option linter.unusedVariables false
set_option linter.unusedSimpArgs false
attribute [local go_sem] Oper.semAt_some

def InAt (w : World) (I : Nat) (s : ByteArray) (p : Nat) : Prop := w.heap[I]? = some (.cells #[.string s, .int .i64 (p : Int)] 100 (0, 0))

structure NxM (w : World) (I : Nat) (s : ByteArray) (p : Nat) (W : World) : Prop where
  size : W.heap.size = w.heap.size + 1 + 1 + 1 + 1
  below : Below w.heap.size w W
  b0 : W.heap[w.heap.size]? = some (.cells #[.pointer (some ⟨I, 0, none⟩)] 182 (0, 0))
  b1 : W.heap[w.heap.size + 1]? = some (.cells #[.int .i64 0, .int .i64 0, .int .i64 0, .string ⟨#[]⟩] 126 (0, 0))
  b2 : W.heap[w.heap.size + 1 + 1]? = some (.cells #[.bool false] 4 (0, 0))
  b3 : W.heap[w.heap.size + 1 + 1 + 1]? = some (.cells #[.int .i64 (p : Int)] 3 (0, 0))
theorem NxM.of {w w3 : World} {I p : Nat} {s : ByteArray} (hs3 : w3.heap.size = w.heap.size + 1 + 1 + 1) (hb3 : Below w.heap.size w w3)
    (r0 : w3.heap[w.heap.size]? = some (.cells #[.pointer (some ⟨I, 0, none⟩)] 182 (0, 0)))
    (r1 : w3.heap[w.heap.size + 1]? = some (.cells #[.int .i64 0, .int .i64 0, .int .i64 0, .string ⟨#[]⟩] 126 (0, 0)))
    (r2 : w3.heap[w.heap.size + 1 + 1]? = some (.cells #[.bool false] 4 (0, 0))) : NxM w I s p (w3.alloc (.cells #[.int .i64 (p : Int)] 3)).drew := by
  refine ⟨by show (w3.alloc _).heap.size = _; simp [hs3], (hb3.alloc (by omega) _).drew, ?_, ?_, ?_, ?_⟩
  · exact (Below.heap_alloc _ _ _ (by omega)).trans r0
  · exact (Below.heap_alloc _ _ _ (by omega)).trans r1
  · exact (Below.heap_alloc _ _ _ (by omega)).trans r2
  · have := heap_alloc_new w3 (.cells #[.int .i64 (p : Int)] 3)
    rw [hs3] at this; exact this

def fch (e q : Nat) : List PanicEntry := [{ v := .iface 102 (.agg #[.int .i64 (e : Int), .int .i64 (q : Int)]), recovered := false }]
def tok0 : Value := .agg #[.int .i64 0, .int .i64 0, .int .i64 0, .string ⟨#[]⟩]
def NxR (s : ByteArray) (I p : Nat) (w w' : World) (e : Ending) : Prop := But I w w' ∧
  ((behL s.data.toList p cBl = s.data.toList.length ∧ e = .returned (.tuple #[tok0, .bool false]) ∧ InAt w' I s p) ∨
   (behL s.data.toList p cBl < s.data.toList.length ∧ (nextT s.data.toList (behL s.data.toList p cBl)).err = 0 ∧ e = .returned (.tuple #[tokV (nextT s.data.toList (behL s.data.toList p cBl)), .bool true]) ∧ InAt w' I s (nextT s.data.toList (behL s.data.toList p cBl)).fin) ∨
   (behL s.data.toList p cBl < s.data.toList.length ∧ (nextT s.data.toList (behL s.data.toList p cBl)).err ≠ 0 ∧ e = .panicked (fch (nextT s.data.toList (behL s.data.toList p cBl)).err (nextT s.data.toList (behL s.data.toList p cBl)).at_) ∧ InAt w' I s p))
def RBox (W : World) (Bx : Nat) (t : Tok) : Prop := W.heap[Bx]? = some (.cells #[.int .i64 (t.kind : Int), .int .i64 (t.at_ : Int), .int .i64 (t.fin : Int), .string ⟨t.text.toArray⟩] 126 (0, 0))
theorem rkpT_below {E : Nat → Prop} {B : Nat} {W W' : World} (hB : B < W.heap.size) (h : Below W.heap.size W W') : KpT E B W W' :=
  ⟨⟨h.size, fun b o _ _ ho _ => heap_lowT h (Array.getElem?_eq_some_iff.1 ho).1 ho, .inl (rowAt_below h hB)⟩, fun b' e => .inl (by rw [rowAt_below h hB] at e; exact e)⟩
theorem rcells_own {C : Nat} {A A' : World} {row : Option Nat} (hg : A.grownBy A' row) (hr : ∀ r, row = some r → C ≤ r ∧ ∃ o : Obj, A.heap[r]? = some o ∧ o.isCells = false) {b : Nat} {cs : Array Value} {t : TypeId} {f : Nat × Nat} (hb : A.heap[b]? = some (.cells cs t f)) : A'.heap[b]? = some (.cells cs t f) := by
  rw [hg.block b (Array.getElem?_eq_some_iff.1 hb).1 (fun e => by
    obtain ⟨_, o, ho, hoc⟩ := hr b e.symm
    rw [hb] at ho; cases ho; cases hoc)]
  exact hb
def NxX (w : World) (I : Nat) (s : ByteArray) (p : Nat) (c : Code) (pre : List Tok) (W : World) : Prop :=
  c = .ret ∧ ∃ x : Tok, pre = [x] ∧ x.err = 0 ∧ But I w W ∧ InAt W I s (p + x.fin) ∧
    W.heap[w.heap.size + 1]? = some (.cells #[.int .i64 (x.kind : Int), .int .i64 ((p + x.at_ : Nat) : Int), .int .i64 ((p + x.fin : Nat) : Int), .string ⟨x.text.toArray⟩] 126 (0, 0)) ∧
    W.heap[w.heap.size + 1 + 1]? = some (.cells #[.bool true] 4 (0, 0))
theorem NxX.own {w : World} {I : Nat} {s : ByteArray} {p : Nat} {n : Nat} (hn : w.heap.size ≤ n) (c : Code) : OwnFrom n (NxX w I s p c) := by
  rintro pre A A' row ⟨h1, x, h2, h3, h4, h5, h6, h7⟩ hg hr
  exact ⟨h1, x, h2, h3, But.own (β := Unit) hn () A A' row h4 hg hr, rcells_own hg hr h5, rcells_own hg hr h6, rcells_own hg hr h7⟩
theorem rset {u : World} {B i : Nat} {c : Array Value} {t : TypeId} (v : Value) (h : u.heap[B]? = some (.cells c t (0, 0))) : (u.setCell ⟨B, i, none⟩ v).heap[B]? = some (.cells (c.setIfInBounds i v) t (0, 0)) := by
  show (u.heap.modify B _)[B]? = _
  rw [Array.getElem?_modify, if_pos rfl, h]; rfl
theorem nx_done {w W1 : World} {I Bx : Nat} {s : ByteArray} {p kd pa fi : Nat} {tx : List UInt8} {n : Nat} {va vf : Value} (hva : va = .int .i64 ((p + pa : Nat) : Int)) (hvf : vf = .int .i64 ((p + fi : Nat) : Int)) (hIl : I < w.heap.size) (hBx : w.heap.size + 1 + 1 < Bx) (hb : But I w W1)
    {y0 y1 y2 y3 z0 : Value} (q1 : W1.heap[w.heap.size + 1]? = some (.cells #[y0, y1, y2, y3] 126 (0, 0))) (q2 : W1.heap[w.heap.size + 1 + 1]? = some (.cells #[z0] 4 (0, 0))) (qI : InAt W1 I s p) {wz : World}
    (hz : wz = ((((((((W1.setCell ⟨Bx, 1, none⟩ va).setCell ⟨Bx, 2, none⟩ vf).setCell ⟨I, 1, none⟩ vf).setCell ⟨w.heap.size + 1, 0, none⟩ (.int .i64 (kd : Int))).setCell ⟨w.heap.size + 1, 1, none⟩ va).setCell ⟨w.heap.size + 1, 2, none⟩ vf).setCell ⟨w.heap.size + 1, 3, none⟩ (.string ⟨tx.toArray⟩)).setCell ⟨w.heap.size + 1 + 1, 0, none⟩ (.bool true))) :
    KeepsFrom n W1 wz ∧ NxX w I s p .ret [⟨kd, pa, fi, tx, 0⟩] wz := by
  obtain ⟨W2, h2⟩ : ∃ W2, W2 = (W1.setCell ⟨Bx, 1, none⟩ va).setCell ⟨Bx, 2, none⟩ vf := ⟨_, rfl⟩
  rw [← h2] at hz
  have k2 : ∀ b, b ≠ Bx → W2.heap[b]? = W1.heap[b]? := fun b hb => by rw [h2, Below.heap_setCell _ _ _ _ hb, Below.heap_setCell _ _ _ _ hb]
  have o2 : KeepsOthers W1 W2 := by rw [h2]; exact (KeepsOthers.setCell _ _ _).trans (KeepsOthers.setCell _ _ _)
  have u2 : But I w W2 := by rw [h2]; exact (hb.set2 Bx 1 (by omega) _).set2 Bx 2 (by omega) _
  obtain ⟨W3, h3⟩ : ∃ W3, W3 = W2.setCell ⟨I, 1, none⟩ vf := ⟨_, rfl⟩
  rw [← h3] at hz
  have k3 : ∀ b, b ≠ I → W3.heap[b]? = W2.heap[b]? := fun b hb => by rw [h3, Below.heap_setCell _ _ _ _ hb]
  have o3 : KeepsOthers W2 W3 := by rw [h3]; exact KeepsOthers.setCell _ _ _
  have u3 : But I w W3 := by rw [h3]; exact u2.set 1 _
  have i3 : InAt W3 I s (p + fi) := by
    unfold InAt at qI ⊢
    rw [h3, hvf]
    exact rset _ ((k2 I (by omega)).trans qI)
  obtain ⟨W4, h4⟩ : ∃ W4, W4 = (((W3.setCell ⟨w.heap.size + 1, 0, none⟩ (.int .i64 (kd : Int))).setCell ⟨w.heap.size + 1, 1, none⟩ va).setCell ⟨w.heap.size + 1, 2, none⟩ vf).setCell ⟨w.heap.size + 1, 3, none⟩ (.string ⟨tx.toArray⟩) := ⟨_, rfl⟩
  rw [← h4] at hz
  obtain ⟨e4, k4, _, _⟩ := box_set4 W3 _ _ _ _ _ _ _ _ _ _ (((k3 _ (by omega)).trans (k2 _ (by omega))).trans q1) W4 h4
  have o4 : KeepsOthers W3 W4 := by rw [h4]; exact (((KeepsOthers.setCell _ _ _).trans (KeepsOthers.setCell _ _ _)).trans (KeepsOthers.setCell _ _ _)).trans (KeepsOthers.setCell _ _ _)
  have u4 : But I w W4 := by rw [h4]; exact (((u3.set2 _ 0 (by omega) _).set2 _ 1 (by omega) _).set2 _ 2 (by omega) _).set2 _ 3 (by omega) _
  have e5 : W4.heap[w.heap.size + 1 + 1]? = some (.cells #[z0] 4 (0, 0)) := ((k4 _ (by omega)).trans ((k3 _ (by omega)).trans (k2 _ (by omega)))).trans q2
  refine ⟨(((o2.trans o3).trans o4).trans (by rw [hz]; exact KeepsOthers.setCell _ _ _)).from _, rfl, _, rfl, rfl, ?_, ?_, ?_, ?_⟩
  · rw [hz]; exact u4.set2 _ 0 (by omega) _
  · unfold InAt at i3 ⊢
    rw [hz, Below.heap_setCell _ _ _ _ (by show I ≠ w.heap.size + 1 + 1; omega)]
    exact (k4 I (by omega)).trans i3
  · rw [hz, Below.heap_setCell _ _ _ _ (by show w.heap.size + 1 ≠ w.heap.size + 1 + 1; omega), e4, hva, hvf]
  · rw [hz]; exact rset _ e5
theorem But.put {I : Nat} {w a : World} (h : But I w a) {l : Nat} (hl : w.heap.size ≤ l) (o : Obj) : But I w (a.putObj l o) :=
  ⟨h.os, h.tape, h.output, by simp [World.putObj]; exact h.size, fun k hk hn => (World.putObj_heap_other (by omega)).trans (h.block k hk hn)⟩
theorem shift_ok {p : Nat} {x : Tok} (h : x.err = 0) : tokV (shiftT p x) = .agg #[.int .i64 (x.kind : Int), .int .i64 ((p + x.at_ : Nat) : Int), .int .i64 ((p + x.fin : Nat) : Int), .string ⟨x.text.toArray⟩] ∧ (shiftT p x).fin = p + x.fin ∧ (shiftT p x).err = 0 := by
  unfold shiftT tokV
  rw [if_pos h]
  exact ⟨rfl, rfl, rfl⟩
theorem shift_bad {p : Nat} {x : Tok} (h : x.err ≠ 0) : (shiftT p x).at_ = p + x.at_ ∧ (shiftT p x).err = x.err := by
  unfold shiftT
  rw [if_neg h]
  exact ⟨rfl, rfl⟩
def NxP (w : World) (I : Nat) (s : ByteArray) (p : Nat) (ch : List PanicEntry) (pre : List Tok) (W : World) : Prop :=
  ∃ x : Tok, pre = [x] ∧ x.err ≠ 0 ∧ ch = fch x.err (p + x.at_) ∧ But I w W ∧ InAt W I s p

set_option maxRecDepth 100000 in
set_option maxHeartbeats 3200000 in
theorem w_next (s : ByteArray) (ss : s.size ≤ 1073741824) (I p : Nat) (hp : p ≤ s.size) (w : World) (hI : InAt w I s p) (hE : ErrIn w) :
    Calls Tryz.prog 98 #[.pointer (some ⟨I, 0, none⟩)] w fun e w' => NxR s I p w w' e := by
  have c0 : w.cell? ⟨I, 0, none⟩ = some (.string s) := by unfold InAt at hI; rw [Lib.cell_of_heap hI]; rfl
  have c1 : w.cell? ⟨I, 1, none⟩ = some (.int .i64 (p : Int)) := by unfold InAt at hI; rw [Lib.cell_of_heap hI]; rfl
  have hIl : I < w.heap.size := (Array.getElem?_eq_some_iff.1 hI).1
  have HE := Hid.mk hE
  have HI := Hid.mk hI
  clear hI hE
  refine (callsIn_wide (n := 7)).1 ?_
  refine callsIn_of_wpF Tryz.func98 rfl ?_
  simp only [Tryz.ntmps98, List.size_toArray, List.length_cons, List.length_nil, Nat.reduceAdd, Nat.reduceSub, Array.replicate_succ, Array.replicate_zero, List.push_toArray, List.append_toArray, List.nil_append, List.cons_append]
  refine wpF_seq ?_
  refine wpF_of_wpIn (n := 7) ?_
  gi_wp2_with fail
  obtain ⟨w3, hw3⟩ : ∃ w3, ((w.alloc (.cells #[.pointer (some ⟨I, 0, none⟩)] 182)).alloc (.cells #[.int .i64 0, .int .i64 0, .int .i64 0, .string ⟨#[]⟩] 126)).alloc (.cells #[.bool false] 4) = w3 := ⟨_, rfl⟩
  have hs3 : w3.heap.size = w.heap.size + 1 + 1 + 1 := by rw [← hw3]; simp
  have hb3 : Below w.heap.size w w3 := by rw [← hw3]; exact ((below1 w _).alloc (by simp) _).alloc (by simp; omega) _
  have r0 : w3.heap[w.heap.size]? = some (.cells #[.pointer (some ⟨I, 0, none⟩)] 182 (0, 0)) := by rw [← hw3, Below.heap_alloc _ _ _ (by simp; omega), Below.heap_alloc _ _ _ (by simp), heap_alloc_new]
  have r1 : w3.heap[w.heap.size + 1]? = some (.cells #[.int .i64 0, .int .i64 0, .int .i64 0, .string ⟨#[]⟩] 126 (0, 0)) := by
    rw [← hw3, Below.heap_alloc _ _ _ (by simp), show w.heap.size + 1 = (w.alloc (.cells #[.pointer (some ⟨I, 0, none⟩)] 182)).heap.size by simp, heap_alloc_new]
  have r2 : w3.heap[w.heap.size + 1 + 1]? = some (.cells #[.bool false] 4 (0, 0)) := by
    rw [← hw3, show w.heap.size + 1 + 1 = ((w.alloc (.cells #[.pointer (some ⟨I, 0, none⟩)] 182)).alloc (.cells #[.int .i64 0, .int .i64 0, .int .i64 0, .string ⟨#[]⟩] 126)).heap.size by simp, heap_alloc_new]
  rw [hw3]
  clear hw3
  have hI3 : InAt w3 I s p := (hb3.block I hIl).trans HI.out
  have c0 : w3.cell? ⟨I, 0, none⟩ = some (.string s) := by unfold InAt at hI3; rw [Lib.cell_of_heap hI3]; rfl
  have c1 : w3.cell? ⟨I, 1, none⟩ = some (.int .i64 (p : Int)) := by unfold InAt at hI3; rw [Lib.cell_of_heap hI3]; rfl
  have a0 : w3.cell? ⟨w.heap.size, 0, none⟩ = some (.pointer (some ⟨I, 0, none⟩)) := by rw [Lib.cell_of_heap r0]; rfl
  have HM := Hid.mk (NxM.of (s := s) (p := p) hs3 hb3 r0 r1 r2)
  have HS3 := Hid.mk hs3
  have HB3 := Hid.mk hb3
  have HR := Hid.mk (And.intro r0 (And.intro r1 r2))
  have hmx : Tryz.prog.follows .mixedOrders = true := by kernel_rfl
  have hwl : w.heap.size < w3.heap.size := by omega
  have hIl3 : I < w3.heap.size := by omega
  clear hs3 hb3 r0 r1 r2 hI3
  refine wpF_seq ?_
  refine wpF_of_wpIn (n := 7) ?_
  gi_wp2_with fail
  refine wpF_seq ?_
  obtain ⟨T, hT⟩ : ∃ T, s.extract p s.size = T := ⟨_, rfl⟩
  obtain ⟨Ba, hBa⟩ : ∃ Ba, w3.heap.size = Ba := ⟨_, rfl⟩
  have HBa := Hid.mk hBa
  have HT := Hid.mk hT
  refine wpF_cut (fun a' W => NxM w I s p W ∧ a' = { tmps := #[.pointer (some ⟨I, 0, none⟩), .pointer (some ⟨w.heap.size, 0, none⟩), .pointer (some ⟨w.heap.size + 1, 0, none⟩), .pointer (some ⟨w.heap.size + 1 + 1, 0, none⟩), .pointer (some ⟨Ba, 0, none⟩), undef, undef, .pointer (some ⟨I, 0, none⟩), .pointer (some ⟨I, 0, none⟩), .pointer (some ⟨I, 1, none⟩), .int .i64 (p : Int), .pointer (some ⟨I, 0, none⟩), .pointer (some ⟨I, 0, none⟩), .pointer (some ⟨I, 0, none⟩), .string s, .int .i64 (p : Int), .string T, .func (.func 141) #[.string T] #[], undef, undef, undef, undef, undef, undef, undef, undef, undef, undef, undef, undef, undef, undef, undef, undef, undef, undef, undef, undef, undef, undef, undef, undef, undef, undef], defers := [] }) ?reg ?rest
  case reg =>
    clear hBa hT
    refine wpF_of_wpIn (n := 7) ?_
    gi_region_with_o (refine ⟨trivial, (callsIn_wide.2 (w_Seq _ _)).mono ?_⟩; rintro e w1 ⟨rfl, rfl⟩)
    all_goals rw [HBa.out, HT.out]
    all_goals exact ⟨HM.out, rfl⟩
  case rest =>
    rintro a' W ⟨hM, rfl⟩
    obtain ⟨mz, mb, m0, m1, m2, m3⟩ := hM
    have hs3 := HS3.out
    have hBe : Ba = w.heap.size + 1 + 1 + 1 := by rw [← hBa]; exact hs3
    rw [← hBe] at m3
    have hIW : InAt W I s p := (mb.block I hIl).trans HI.out
    have hTl : T.data.toList = s.data.toList.drop p := by rw [← hT]; exact tail_list s p
    have hTs : T.size = s.size - p := by
      have := congrArg List.length hTl
      rw [List.length_drop] at this
      exact this
    have hEl : 4 < w.heap.size := by
      obtain ⟨ev, hc, _⟩ := HE.out
      obtain ⟨o, ho, _⟩ := isCells_of_cell hc
      exact (Array.getElem?_eq_some_iff.1 ho).1
    refine wpF_block ?_
    refine wpF_range_any (α := Tok) (n := 7) ⟨_, Tryz.func98⟩ (by omega) (gf := 141) (s := .string T) rfl (enters_of Tryz.func141 (by kernel_rfl) rfl) (encs := encT) (fun _ => rfl) (Kp := KpT (fun _ => False) Ba) (S := fun xs => xs = allY T.data.toList) (Sp := fun pre => pre <+: allY T.data.toList) (N := T.size + 1)
      (fun J Jx Jp W' hW hJ hJx hY h0 => cut_inP (fun _ => False) (7 - 1) (by omega) _ Ba T (by omega) _ (by unfold rowAt; rw [Lib.cell_of_heap m3]; rfl) (by omega) (fun b hb => hb.elim) (HE.out.keep mb) (fun h => h) (by omega) J Jx Jp W' hW hJ hJx hY h0)
      (fun h k => h.trans k) (fun W' r r' hb => KpT.put (w := W) (by omega) W' _ _ _ (by omega) hb.book rfl rfl)
      (fun pre W' => pre = [] ∧ Below W.heap.size W W') (NxX w I s p) (NxP w I s p)
      (OwnFrom.and (fun _ _ _ _ h _ _ => h) (ownFrom_below (Nat.le_refl _) (Nat.le_refl _)))
      (NxX.own (by omega))
      ⟨rfl, Below.refl _ _⟩
      (fun x a' W' => ∃ Bx, W.heap.size ≤ Bx ∧ RBox W' Bx x ∧ a' = { tmps := #[.pointer (some ⟨I, 0, none⟩), .pointer (some ⟨w.heap.size, 0, none⟩), .pointer (some ⟨w.heap.size + 1, 0, none⟩), .pointer (some ⟨w.heap.size + 1 + 1, 0, none⟩), .pointer (some ⟨Ba, 0, none⟩), .pointer (some ⟨Bx, 0, none⟩), .int .i64 (x.err : Int), .pointer (some ⟨I, 0, none⟩), .pointer (some ⟨I, 0, none⟩), .pointer (some ⟨I, 1, none⟩), .int .i64 (p : Int), .pointer (some ⟨I, 0, none⟩), .pointer (some ⟨I, 0, none⟩), .pointer (some ⟨I, 0, none⟩), .string s, .int .i64 (p : Int), .string T, .func (.func 141) #[.string T] #[], tokV x, .int .i64 (x.err : Int), undef, undef, undef, undef, undef, undef, undef, undef, undef, undef, undef, undef, undef, undef, undef, undef, undef, undef, undef, undef, undef, undef, undef, undef], defers := [] })
      (fun x a' _ X Y row hs hg hr => by
        obtain ⟨Bx, h0, h1, h2⟩ := hs
        exact ⟨Bx, h0, rcells_own hg hr h1, h2⟩)
      ?assign ?body ?done ?stop ?pan
    case assign =>
      rintro pre x W1 KK ⟨rfl, hB⟩ hKK
      have hBl : Ba < W1.heap.size := by have := hB.size; omega
      have FIN := hKK _ _ ((KeepsOthers.alloc W1 (.cells #[.int .i64 (x.kind : Int), .int .i64 (x.at_ : Int), .int .i64 (x.fin : Int), .string ⟨x.text.toArray⟩] 126)).from _) (rkpT_below hBl (below1 W1 _)) ⟨rfl, hB.alloc hB.size _⟩ ⟨W1.heap.size, hB.size, heap_alloc_new W1 _, rfl⟩
      obtain ⟨kd, pa, fi, tx, er⟩ := x
      unfold encT tokV
      dsimp only at FIN ⊢
      have HF := Hid.mk FIN
      clear hKK FIN hB m0 m1 m2 m3 mz mb hBe hTs hTl hT hBa hs3 hIW c0 c1 a0
      gi_wp2_with fail
      exact HF.out
    case body =>
      rintro pre x a' W1 ⟨rfl, hB⟩ ⟨Bx, hBx, hX, rfl⟩ hlt hSp
      rw [List.nil_append] at hSp ⊢
      obtain ⟨_, hx, xa, xf⟩ := first_of _ _ hSp
      have hTn : T.data.toList.length = T.size := rfl
      obtain ⟨kd, pa, fi, tx, er⟩ := x
      obtain ⟨x0, x1, x2, x3, g0, g1, g2, g3⟩ := tbox_cells hX
      have q0 := heap_lowT hB (by omega) m0
      have q1 := heap_lowT hB (by omega) m1
      have q2 := heap_lowT hB (by omega) m2
      have q3 := heap_lowT hB (by omega) m3
      have qI : InAt W1 I s p := heap_lowT hB (by omega) hIW
      have k0 : W1.cell? ⟨w.heap.size, 0, none⟩ = some (.pointer (some ⟨I, 0, none⟩)) := by rw [Lib.cell_of_heap q0]; rfl
      have k3 : W1.cell? ⟨Ba, 0, none⟩ = some (.int .i64 (p : Int)) := by rw [Lib.cell_of_heap q3]; rfl
      have k1 : W1.cell? ⟨I, 1, none⟩ = some (.int .i64 (p : Int)) := by unfold InAt at qI; rw [Lib.cell_of_heap qI]; rfl
      have kf : W1.frozen? ⟨I, 1, none⟩ = false := by unfold InAt at qI; exact frozen_rowT qI
      obtain ⟨t0, t1, t2, t3, f0, f1, f2, f3⟩ := tbox_cells q1
      have k2 : W1.cell? ⟨w.heap.size + 1 + 1, 0, none⟩ = some (.bool false) := by rw [Lib.cell_of_heap q2]; rfl
      have kg : W1.frozen? ⟨w.heap.size + 1 + 1, 0, none⟩ = false := frozen_rowT q2
      have l1 : I < Bx := by omega
      have l2 : Ba < Bx := by omega
      have l3 : w.heap.size < Bx := by omega
      have l4 : w.heap.size + 1 < Bx := by omega
      have l5 : w.heap.size + 1 + 1 < Bx := by omega
      have l6 : I < Ba := by omega
      have l7 : w.heap.size < Ba := by omega
      dsimp only at xa xf
      have b1 : pa ≤ 1073741824 := by omega
      have b2 : fi ≤ 1073741824 := by omega
      have b3 : p ≤ 1073741824 := by omega
      have HQ := Hid.mk (And.intro q0 (And.intro q1 (And.intro q2 (And.intro q3 (And.intro qI hX)))))
      have HL := Hid.mk (And.intro hB (And.intro mz (And.intro mb (And.intro hBe hBx))))
      unfold tokV
      dsimp only at *
      clear hx hSp hB mz mb hBe hBx q0 q1 q2 q3 qI hX m0 m1 m2 m3 hTn hTl hTs hT hBa hs3 hIW c0 c1 a0 xa xf hlt
      by_cases he : er = 0
      · subst he
        gi_wp2_with fail
        obtain ⟨q0, q1, q2, q3, qI, hX⟩ := HQ.out
        obtain ⟨hB, mz, mb, hBe, hBx⟩ := HL.out
        exact nx_done (by rw [show ((p + pa : Nat) : Int) = (pa : Int) + (p : Int) by omega]) (by rw [show ((p + fi : Nat) : Int) = (fi : Int) + (p : Int) by omega]) hIl l5 (But.of (mb.trans (hB.mono (by omega)))) q1 q2 qI rfl
      · have heb : (((er : Nat) : Int) == 0) = false := by rw [beq_eq_false_iff_ne]; omega
        gi_wp2_with fail
        obtain ⟨q0, q1, q2, q3, qI, hX⟩ := HQ.out
        obtain ⟨hB, mz, mb, hBe, hBx⟩ := HL.out
        refine ⟨rfl, ⟨_, rfl, he, ?_, ?_, ?_⟩, ?_⟩
        · unfold fch
          rw [show ((p + pa : Nat) : Int) = (pa : Int) + (p : Int) by omega]
        · exact ((But.of (mb.trans (hB.mono (by omega)))).set2 Bx 1 (by omega) _).set2 Bx 2 (by omega) _
        · unfold InAt at qI ⊢
          rw [Below.heap_setCell _ _ _ _ (by show I ≠ Bx; omega), Below.heap_setCell _ _ _ _ (by show I ≠ Bx; omega)]
          exact qI
        · exact ((KeepsOthers.setCell _ _ _).trans (KeepsOthers.setCell _ _ _)).from _
    case done =>
      rintro xs W1 hxs ⟨rfl, hB⟩ hK
      have hend : behL s.data.toList p cBl = s.data.toList.length := by
        have h1 := allY_none _ hxs.symm
        rw [hTl] at h1
        rw [behL_drop _ _ hp, h1, List.length_drop]
        have : s.data.toList.length = s.size := rfl
        omega
      have q1 := heap_lowT hB (by omega) m1
      have q2 := heap_lowT hB (by omega) m2
      have qI : InAt W1 I s p := heap_lowT hB (by omega) hIW
      obtain ⟨t0, t1, t2, t3, f0, f1, f2, f3⟩ := tbox_cells q1
      have k2 : W1.cell? ⟨w.heap.size + 1 + 1, 0, none⟩ = some (.bool false) := by rw [Lib.cell_of_heap q2]; rfl
      have kg : W1.frozen? ⟨w.heap.size + 1 + 1, 0, none⟩ = false := frozen_rowT q2
      have HQ := Hid.mk (And.intro q1 (And.intro q2 qI))
      have HL := Hid.mk (And.intro hB (And.intro mz (And.intro mb hK)))
      have HN := Hid.mk hend
      clear hxs hB mz mb hBe q1 q2 qI m0 m1 m2 m3 hTl hTs hT hBa hs3 hIW c0 c1 a0 hK hend
      refine wpF_of_wpIn (n := 7) ?_
      gi_wp2_with fail
      obtain ⟨q1, q2, qI⟩ := HQ.out
      obtain ⟨hB, mz, mb, hK⟩ := HL.out
      generalize hz4 : (((W1.setCell ⟨w.heap.size + 1, 0, none⟩ (.int .i64 0)).setCell ⟨w.heap.size + 1, 1, none⟩ (.int .i64 0)).setCell ⟨w.heap.size + 1, 2, none⟩ (.int .i64 0)).setCell ⟨w.heap.size + 1, 3, none⟩ (.string ⟨#[]⟩) = W4
      obtain ⟨e4, k4, _, _⟩ := box_set4 W1 _ _ _ _ _ _ _ _ _ _ q1 W4 hz4.symm
      have u4 : But I w W4 := by rw [← hz4]; exact ((((But.of (mb.trans (hB.mono (by omega)))).set2 _ 0 (by omega) _).set2 _ 1 (by omega) _).set2 _ 2 (by omega) _).set2 _ 3 (by omega) _
      have e5 := rset (i := 0) (.bool false) ((k4 (w.heap.size + 1 + 1) (by omega)).trans q2)
      have k5 : ∀ b, b ≠ w.heap.size + 1 + 1 → (W4.setCell ⟨w.heap.size + 1 + 1, 0, none⟩ (.bool false)).heap[b]? = W4.heap[b]? := fun b hb => Below.heap_setCell _ _ _ _ hb
      have u5 := u4.set2 (w.heap.size + 1 + 1) 0 (by omega) (.bool false)
      generalize W4.setCell ⟨w.heap.size + 1 + 1, 0, none⟩ (.bool false) = W5 at *
      have hKz : W5.heap[W.heap.size]? = some (.deferred (some [])) := ((k5 _ (by omega)).trans (k4 _ (by omega))).trans hK
      have y1 := (World.putObj_heap_other (w := W5) (o := .deferred none) (by omega : w.heap.size + 1 ≠ W.heap.size)).trans ((k5 _ (by omega)).trans e4)
      have y2 := (World.putObj_heap_other (w := W5) (o := .deferred none) (by omega : w.heap.size + 1 + 1 ≠ W.heap.size)).trans e5
      have yI : InAt (W5.putObj W.heap.size (.deferred none)) I s p := (World.putObj_heap_other (w := W5) (o := .deferred none) (by omega : I ≠ W.heap.size)).trans ((k5 _ (by omega)).trans ((k4 _ (by omega)).trans qI))
      obtain ⟨d0, d1, d2, d3, _⟩ := tbox_cells y1
      have d4 := cell_of_row _ _ 0 _ _ _ y2
      refine ⟨by simp, .inl ⟨_, _, rfl, run_takeDeferred hKz, ?_⟩⟩
      refine ⟨.tuple #[tok0, .bool false], by simp [tok0, results, Tryz.results98, go_sem, d0, d1, d2, d3, d4], u5.put (by omega) _, .inl ⟨HN.out, rfl, yI⟩⟩
    case stop =>
      rintro c pre W1 hSp ⟨rfl, x, rfl, hx0, hbut, hin, hb1, hb2⟩ hK
      obtain ⟨hlt, hx, xa, xf⟩ := first_of _ _ hSp
      rw [hTl] at hlt hx
      have hnx := nextT_drop _ _ hp hlt
      rw [← hx] at hnx
      have hq : behL s.data.toList p cBl < s.data.toList.length := by
        rw [behL_drop _ _ hp]
        rw [List.length_drop] at hlt
        omega
      have HX := Hid.mk (And.intro hx0 (And.intro hbut (And.intro hin (And.intro hb1 (And.intro hb2 (And.intro hK (And.intro hnx hq)))))))
      have HL := Hid.mk mz
      clear hSp hx0 hbut hin hb1 hb2 hK hlt hx xa xf hnx hq mz mb hBe m0 m1 m2 m3 hTl hTs hT hBa hs3 hIW c0 c1 a0
      refine wpF_of_wpIn (n := 7) ?_
      gi_wp2_with fail
      obtain ⟨hx0, hbut, hin, hb1, hb2, hK, hnx, hq⟩ := HX.out
      have mz := HL.out
      have y1 := (World.putObj_heap_other (w := W1) (o := .deferred none) (by omega : w.heap.size + 1 ≠ W.heap.size)).trans hb1
      have y2 := (World.putObj_heap_other (w := W1) (o := .deferred none) (by omega : w.heap.size + 1 + 1 ≠ W.heap.size)).trans hb2
      have yI : InAt (W1.putObj W.heap.size (.deferred none)) I s (p + x.fin) := (World.putObj_heap_other (w := W1) (o := .deferred none) (by omega : I ≠ W.heap.size)).trans hin
      obtain ⟨d0, d1, d2, d3, _⟩ := tbox_cells y1
      have d4 := cell_of_row _ _ 0 _ _ _ y2
      obtain ⟨g1, g2, g3⟩ := shift_ok (p := p) hx0
      refine ⟨by simp, .inl ⟨_, _, rfl, run_takeDeferred hK, ?_⟩⟩
      refine ⟨.tuple #[tokV (shiftT p x), .bool true], by rw [g1]; simp [results, Tryz.results98, go_sem, d0, d1, d2, d3, d4], hbut.put (by omega) _, .inr (.inl ⟨hq, ?_, ?_, ?_⟩)⟩
      · rw [hnx]; exact g3
      · rw [hnx]
      · rw [hnx, g2]; exact yI
    case pan =>
      rintro ch pre W1 hSp ⟨x, rfl, hx0, rfl, hbut, hin⟩ hK
      obtain ⟨hlt, hx, xa, xf⟩ := first_of _ _ hSp
      rw [hTl] at hlt hx
      have hnx := nextT_drop _ _ hp hlt
      rw [← hx] at hnx
      have hq : behL s.data.toList p cBl < s.data.toList.length := by
        rw [behL_drop _ _ hp]
        rw [List.length_drop] at hlt
        omega
      obtain ⟨g1, g2⟩ := shift_bad (p := p) hx0
      have yI : InAt (W1.putObj W.heap.size (.deferred none)) I s p := (World.putObj_heap_other (w := W1) (o := .deferred none) (by omega : I ≠ W.heap.size)).trans hin
      refine ⟨by simp, .inl ⟨_, _, rfl, run_takeDeferred hK, ?_⟩⟩
      refine ⟨hbut.put (by omega) _, .inr (.inr ⟨hq, ?_, ?_, yI⟩)⟩
      · rw [hnx, g2]; exact hx0
      · rw [hnx, g1, g2]
end Go.Proofs.YtfjmgccbpiolhaaGreatDoor
namespace Go.Proofs.YtfjmgccbpiolhaaGreatDoor
open Go.RowKit Go.Shelf
set_option linter.unusedVariables false
set_option linter.unusedSimpArgs false
attribute [local go_sem] Oper.semAt_some

inductive Rd (α : Type) where
  | ok (a : α) (p : Nat)
  | bad (e q : Nat)
def RdR {α : Type} (I : Nat) (s : ByteArray) (w : World) (E : α → World → Value → Prop) (r : Rd α) (e : Ending) (w' : World) : Prop := But I w w' ∧
  match r with
  | .ok a p => (∃ v, e = .returned v ∧ E a w' v) ∧ InAt w' I s p
  | .bad er q => e = .panicked (fch er q)
def mustL (l : List UInt8) (p : Nat) : Rd Tok :=
  if behL l p cBl < l.length then (if (nextT l (behL l p cBl)).err = 0 then .ok (nextT l (behL l p cBl)) (nextT l (behL l p cBl)).fin else .bad (nextT l (behL l p cBl)).err (nextT l (behL l p cBl)).at_) else .bad 50 l.length

theorem InAt.c0 {w : World} {I p : Nat} {s : ByteArray} (h : InAt w I s p) : w.cell? ⟨I, 0, none⟩ = some (.string s) := by unfold InAt at h; rw [Lib.cell_of_heap h]; rfl
theorem InAt.lt {w : World} {I p : Nat} {s : ByteArray} (h : InAt w I s p) : I < w.heap.size := (Array.getElem?_eq_some_iff.1 h).1
theorem InAt.keep {w w' : World} {I p : Nat} {s : ByteArray} (h : InAt w I s p) (hb : Below w.heap.size w w') : InAt w' I s p := (hb.block I h.lt).trans h
theorem InAt.alloc {w : World} {I p : Nat} {s : ByteArray} (h : InAt w I s p) (o : Obj) : InAt (w.alloc o) I s p := (Below.heap_alloc _ _ _ h.lt).trans h
theorem But.errIn {w w' : World} {I p : Nat} {s : ByteArray} (hb : But I w w') (hI : InAt w I s p) (hE : ErrIn w) (hIn : I ≠ 4) : ErrIn w' := by
  obtain ⟨ev, hc, hv⟩ := hE
  refine ⟨ev, ?_, hv⟩
  obtain ⟨o, ho, _⟩ := isCells_of_cell hc
  have hl := (Array.getElem?_eq_some_iff.1 ho).1
  have := hb.block _ hl (fun e => hIn e.symm)
  unfold World.cell? at hc ⊢
  rw [this]; exact hc

theorem w_mustBe (k : Nat) (t : Tok) (w : World) : Calls Tryz.prog 139 #[.int .i64 (k : Int), tokV t] w fun e w' => Below w.heap.size w w' ∧ ((t.kind = k ∧ e = .returned (.tuple #[])) ∨ (t.kind ≠ k ∧ e = .panicked (fch 51 t.at_))) := by
  obtain ⟨kd, pa, fi, tx, er⟩ := t
  unfold tokV
  dsimp only
  by_cases h : kd = k
  · subst h
    go_enter Tryz.func139, Tryz.ntmps139
    go_wp2_with fail
    refine ⟨rfl, .tuple #[], by simp [results, Tryz.results139, go_sem], below1 w _, .inl ⟨trivial, rfl⟩⟩
  · have hb : ((kd : Int) == (k : Int)) = false := by rw [beq_eq_false_iff_ne]; omega
    go_enter Tryz.func139, Tryz.ntmps139
    go_wp2_with fail
    exact ⟨rfl, below1 w _, .inr ⟨h, rfl⟩⟩

theorem w_mayBe (d : Nat) (hd : d ≤ 1000000) (t : Tok) (w : World) : Calls Tryz.prog 123 #[.int .i64 (d : Int), tokV t] w fun e w' => Below w.heap.size w w' ∧ ((d ≤ 64 ∧ e = .returned (.tuple #[])) ∨ (64 < d ∧ e = .panicked (fch 52 t.at_))) := by
  obtain ⟨kd, pa, fi, tx, er⟩ := t
  unfold tokV
  dsimp only
  by_cases h : d ≤ 64
  · have hb : decide (((d : Nat) : Int) > 64) = false := by rw [decide_eq_false_iff_not]; omega
    go_enter Tryz.func123, Tryz.ntmps123
    go_wp2_with fail
    refine ⟨rfl, .tuple #[], by simp [results, Tryz.results123, go_sem], below1 w _, .inl ⟨h, rfl⟩⟩
  · have hb : ¬ (((d : Nat) : Int) ≤ 64) := by omega
    go_enter Tryz.func123, Tryz.ntmps123
    go_wp2_with fail
    refine ⟨rfl, below1 w _, ?_⟩
    first | exact .inr ⟨by omega, rfl⟩ | exact ⟨by omega, rfl⟩

set_option maxRecDepth 100000 in
set_option maxHeartbeats 1600000 in
theorem w_must (s : ByteArray) (ss : s.size ≤ 1073741824) (I p : Nat) (hp : p ≤ s.size) (w : World) (hI : InAt w I s p) (hE : ErrIn w) :
    Calls Tryz.prog 97 #[.pointer (some ⟨I, 0, none⟩)] w fun e w' => RdR I s w (fun t _ v => v = tokV t) (mustL s.data.toList p) e w' := by
  have HC := Hid.mk (fun u (hu : InAt u I s p) (hEu : ErrIn u) => w_next s ss I p hp u hu hEu)
  have hIl := hI.lt
  have HI := Hid.mk hI
  have HE := Hid.mk hE
  clear hI hE
  go_enter Tryz.func97, Tryz.ntmps97
  go_wp2_with fail
  refine (HC.out _ (HI.out.alloc _) (HE.out.keep (below1 w _))).mono ?_
  rintro e w1 ⟨hbut, hway⟩
  have q1 := (hbut.block w.heap.size (by simp) (by omega)).trans (heap_alloc_new w _)
  obtain ⟨t0, t1, t2, t3, f0, f1, f2, f3⟩ := tbox_cells q1
  have hsz := hbut.size
  rw [World.size_alloc] at hsz
  have hws : w.heap.size < w1.heap.size := by omega
  have hbw : But I w w1 := ⟨hbut.os, hbut.tape, hbut.output, by omega, fun k hk hn => (hbut.block k (by simp; omega) hn).trans (Below.heap_alloc _ _ _ hk)⟩
  have HB := Hid.mk hbw
  have HQ := Hid.mk q1
  clear hbut q1 hsz hbw
  rcases hway with ⟨h1, rfl, hin⟩ | ⟨h1, h2, rfl, hin⟩ | ⟨h1, h2, rfl, hin⟩
  · have c0 := hin.c0
    have hil := hin.lt
    have HN := Hid.mk (And.intro h1 hin)
    clear h1 hin
    unfold tok0
    go_wp2_with fail
    refine ⟨rfl, HB.out.step (Nat.le_refl _) ((below1 w1 _).mono (by omega)), ?_⟩
    unfold mustL
    rw [if_neg (by rw [HN.out.1]; omega)]
    rfl
  · have HN := Hid.mk (And.intro h1 (And.intro h2 hin))
    clear h1 h2 hin
    obtain ⟨t, ht⟩ : ∃ t, nextT s.data.toList (behL s.data.toList p cBl) = t := ⟨_, rfl⟩
    rw [ht] at HN ⊢
    have HT := Hid.mk ht
    clear ht
    obtain ⟨kd, pa, fi, tx, er⟩ := t
    unfold tokV
    dsimp only
    go_wp2_with fail
    generalize hz4 : (((w1.setCell ⟨w.heap.size, 0, none⟩ (.int .i64 (kd : Int))).setCell ⟨w.heap.size, 1, none⟩ (.int .i64 (pa : Int))).setCell ⟨w.heap.size, 2, none⟩ (.int .i64 (fi : Int))).setCell ⟨w.heap.size, 3, none⟩ (.string ⟨tx.toArray⟩) = W4
    obtain ⟨e4, k4, s4, _⟩ := box_set4 w1 _ _ _ _ _ _ _ _ _ _ HQ.out W4 hz4.symm
    have u4 : But I w W4 := by rw [← hz4]; exact (((HB.out.set2 _ 0 (by omega) _).set2 _ 1 (by omega) _).set2 _ 2 (by omega) _).set2 _ 3 (by omega) _
    generalize hz5 : W4.alloc _ = W5
    have e5 : W5.heap[w.heap.size]? = some (.cells #[.int .i64 (kd : Int), .int .i64 (pa : Int), .int .i64 (fi : Int), .string ⟨tx.toArray⟩] 126 (0, 0)) := by rw [← hz5]; exact (Below.heap_alloc _ _ _ (by omega)).trans e4
    have u5 : But I w W5 := by rw [← hz5]; exact u4.step (by omega) (below1 W4 _)
    have i5 : InAt W5 I s fi := by rw [← hz5]; exact InAt.alloc ((k4 _ (by omega)).trans HN.out.2.2) _
    obtain ⟨d0, d1, d2, d3, _⟩ := tbox_cells e5
    obtain ⟨h1, h2, _⟩ := HN.out
    subst h2
    refine ⟨rfl, tokV ⟨kd, pa, fi, tx, 0⟩, by simp [tokV, results, Tryz.results97, go_sem, d0, d1, d2, d3], u5, ?_⟩
    unfold mustL
    rw [if_pos h1, HT.out, if_pos rfl]
    exact ⟨⟨_, rfl, rfl⟩, i5⟩
  · exact ⟨rfl, HB.out, by unfold mustL; rw [if_pos h1, if_neg h2]⟩
end Go.Proofs.YtfjmgccbpiolhaaGreatDoor
namespace Go.Proofs.YtfjmgccbpiolhaaGreatDoor
open Go.RowKit Go.Shelf
set_option linter.unusedVariables false
set_option linter.unusedSimpArgs false
attribute [local go_sem] Oper.semAt_some

def loopL {σ : Type} (l : List UInt8) (cl : Nat) (pt : σ → Tok → Nat → Rd σ) : Nat → σ → Nat → Rd σ
  | 0, _, _ => .bad 0 0
  | f + 1, x, p => match mustL l p with
    | .bad e q => .bad e q
    | .ok t p1 => if t.kind = cl then .ok x p1 else if t.kind = 6 then
        (match mustL l p1 with
        | .bad e q => .bad e q
        | .ok t2 p2 => match pt x t2 p2 with
          | .bad e q => .bad e q
          | .ok y p3 => loopL l cl pt f y p3) else .bad 51 t.at_
def rowL {σ : Type} (l : List UInt8) (cl : Nat) (pt : σ → Tok → Nat → Rd σ) (x : σ) (p : Nat) : Rd σ := match mustL l p with
  | .bad e q => .bad e q
  | .ok t p1 => if t.kind = cl then .ok x p1 else
    (match pt x t p1 with
    | .bad e q => .bad e q
    | .ok y p2 => loopL l cl pt (l.length + 1) y p2)
theorem mustL_up {l : List UInt8} {p p1 : Nat} {t : Tok} (hp : p ≤ l.length) (h : mustL l p = .ok t p1) : p < p1 ∧ p1 ≤ l.length := by
  unfold mustL at h
  split at h
  · next h1 =>
    split at h
    · next h2 =>
      injection h with e1 e2
      have h3 := nextT_up h1 h2
      have h4 := behL_ge cBl hp
      rw [e2] at h3
      omega
    · cases h
  · cases h

structure Bel (I B : Nat) (w w' : World) : Prop where
  os : w'.os = w.os
  tape : w'.tape = w.tape
  output : w'.output = w.output
  size : w.heap.size ≤ w'.heap.size
  block : ∀ k, k < B → k ≠ I → w'.heap[k]? = w.heap[k]?
theorem Bel.of {I B : Nat} {w w' : World} (h : But I w w') (hB : B ≤ w.heap.size) : Bel I B w w' := ⟨h.os, h.tape, h.output, h.size, fun k hk hn => h.block k (by omega) hn⟩
theorem Bel.trans {I B : Nat} {a b c : World} (h : Bel I B a b) (k : Bel I B b c) : Bel I B a c :=
  ⟨k.os.trans h.os, k.tape.trans h.tape, k.output.trans h.output, Nat.le_trans h.size k.size, fun i hi hn => (k.block i hi hn).trans (h.block i hi hn)⟩
theorem Bel.refl (I B : Nat) (w : World) : Bel I B w w := ⟨rfl, rfl, rfl, Nat.le_refl _, fun _ _ _ => rfl⟩
theorem Bel.errIn {I B : Nat} {w w' : World} (hb : Bel I B w w') (hE : ErrIn w) (gB : 4 < B) (gI : I ≠ 4) : ErrIn w' := by
  obtain ⟨ev, hc, hv⟩ := hE
  refine ⟨ev, ?_, hv⟩
  have := hb.block _ gB (fun e => gI e.symm)
  unfold World.cell? at hc ⊢
  rw [this]; exact hc

structure PartOk {σ : Type} (I B fk : Nat) (caps : Array Value) (s : ByteArray) (pt : σ → Tok → Nat → Rd σ) (Fit : σ → Nat → Prop) (St : σ → World → Prop) : Prop where
  up : ∀ (x : σ) (p q : Nat), Fit x p → p ≤ q → Fit x q
  ent : ∀ args w, (callFunc fk args).run Tryz.prog w = .ok (.enter fk args) w
  call : ∀ (x : σ) (t : Tok) (p : Nat) (w : World), St x w → (∃ p0, p0 < p ∧ Fit x p0) → t.text.length ≤ 140737488355328 → InAt w I s p → ErrIn w → p ≤ s.size → B ≤ w.heap.size → Calls Tryz.prog fk (#[tokV t] ++ caps) w fun e w' => Bel I B w w' ∧
    match pt x t p with
    | .ok y q => e = .returned (.tuple #[]) ∧ InAt w' I s q ∧ St y w' ∧ p ≤ q ∧ q ≤ s.size ∧ Fit y q
    | .bad er q => e = .panicked (fch er q)
  keep : ∀ (x : σ) (w w' : World), St x w → But I w w' → St x w'
def RowR {σ : Type} (I B : Nat) (s : ByteArray) (Fit : σ → Nat → Prop) (St : σ → World → Prop) (w : World) (r : Rd σ) (e : Ending) (w' : World) : Prop := Bel I B w w' ∧
  match r with
  | .ok x p => e = .returned (.tuple #[]) ∧ InAt w' I s p ∧ St x w' ∧ Fit x p ∧ p ≤ s.size
  | .bad er q => e = .panicked (fch er q)
structure RSt {σ : Type} (I B : Nat) (s : ByteArray) (Fit : σ → Nat → Prop) (St : σ → World → Prop) (w wr : World) (x : σ) (p : Nat) : Prop where
  st : St x wr
  inp : InAt wr I s p
  err : ErrIn wr
  bel : Bel I B w wr
  ple : p ≤ s.size
  sB : B ≤ wr.heap.size
  fit : Fit x p
theorem RSt.but {σ : Type} {I B : Nat} {s : ByteArray} {Fit : σ → Nat → Prop} {St : σ → World → Prop} {w u u' : World} {x : σ} {p q : Nat} (h : RSt I B s Fit St w u x p) (hu : ∀ (x : σ) (p q : Nat), Fit x p → p ≤ q → Fit x q) (hk : ∀ (x : σ) (w w' : World), St x w → But I w w' → St x w') (gB : 4 < B) (gI : I ≠ 4) (hb : But I u u') (hi : InAt u' I s q) (hq : q ≤ s.size) (hpq : p ≤ q) : RSt I B s Fit St w u' x q :=
  ⟨hk _ _ _ h.st hb, hi, (Bel.of hb h.sB).errIn h.err gB gI, h.bel.trans (Bel.of hb h.sB), hq, Nat.le_trans h.sB hb.size, hu _ _ _ h.fit hpq⟩
theorem RSt.low {σ : Type} {I B : Nat} {s : ByteArray} {Fit : σ → Nat → Prop} {St : σ → World → Prop} {w u u' : World} {x : σ} {p : Nat} (h : RSt I B s Fit St w u x p) (hu : ∀ (x : σ) (p q : Nat), Fit x p → p ≤ q → Fit x q) (hk : ∀ (x : σ) (w w' : World), St x w → But I w w' → St x w') (gB : 4 < B) (gI : I ≠ 4) (hb : Below u.heap.size u u') : RSt I B s Fit St w u' x p := h.but hu hk gB gI (But.of hb) (h.inp.keep hb) h.ple (Nat.le_refl _)
def posOf (I : Nat) (w : World) : Nat := (intOf ((w.cell? ⟨I, 1, none⟩).getD undef)).toNat
theorem InAt.pos {w : World} {I p : Nat} {s : ByteArray} (h : InAt w I s p) : posOf I w = p := by
  unfold posOf
  unfold InAt at h
  rw [Lib.cell_of_heap h]; rfl

set_option maxRecDepth 100000 in
set_option maxHeartbeats 3200000 in
theorem w_rRow {σ : Type} (s : ByteArray) (ss : s.size ≤ 1073741824) (I B fk : Nat) (caps : Array Value) (cl : Nat) (pt : σ → Tok → Nat → Rd σ) (Fit : σ → Nat → Prop) (St : σ → World → Prop) (P : PartOk I B fk caps s pt Fit St) (x : σ) (p : Nat) (w : World)
    (hS : St x w) (hFt : Fit x p) (hI : InAt w I s p) (hE : ErrIn w) (hp : p ≤ s.size) (hB : B ≤ w.heap.size) (gB : 4 < B) (gI : I ≠ 4) (hTx : ∀ p t p1, mustL s.data.toList p = .ok t p1 → t.text.length ≤ 140737488355328) :
    Calls Tryz.prog 136 #[.pointer (some ⟨I, 0, none⟩), .int .i64 (cl : Int), .func (.func fk) #[] caps] w fun e w' => RowR I B s Fit St w (rowL s.data.toList cl pt x p) e w' := by
  have hent := P.ent
  obtain ⟨R, hR⟩ : ∃ R, rowL s.data.toList cl pt x p = R := ⟨_, rfl⟩
  rw [hR]
  have HRR := Hid.mk hR
  clear hR
  have HR : Hid (RSt I B s Fit St w w x p) := ⟨hS, hI, hE, Bel.refl _ _ _, hp, hB, hFt⟩
  have HP := Hid.mk P
  have HMust := Hid.mk (fun u p (hp : p ≤ s.size) (hu : InAt u I s p) (hEu : ErrIn u) => w_must s ss I p hp u hu hEu)
  have HBe := Hid.mk (fun t u => w_mustBe 6 t u)
  have HG := Hid.mk (And.intro gB gI)
  have HTx := Hid.mk hTx
  clear hS hI hE P gB gI hFt hTx
  go_enter Tryz.func136, Tryz.ntmps136
  go_wp2_with fail
  refine (HMust.out _ p hp HR.out.inp HR.out.err).mono ?_
  rintro e w1 ⟨hbut, hm⟩
  have hR := HRR.out
  cases hml : mustL s.data.toList p with
  | bad er q =>
    rw [hml] at hm
    have hm' : e = .panicked (fch er q) := hm
    subst hm'
    refine ⟨rfl, Bel.of hbut hB, ?_⟩
    rw [← hR]; unfold rowL; rw [hml]
  | ok t p1 =>
    rw [hml] at hm
    obtain ⟨⟨v, rfl, rfl⟩, hin⟩ := hm
    obtain ⟨u1, u2⟩ := mustL_up hp hml
    have HR1 := Hid.mk (HR.out.but HP.out.up HP.out.keep HG.out.1 HG.out.2 hbut hin u2 (by omega))
    have HML := Hid.mk hml
    clear hbut hin hml hR
    obtain ⟨kd, pa, fi, tx, er⟩ := t
    unfold tokV
    dsimp only
    by_cases hk : kd = cl
    · subst hk
      go_wp2_with fail
      have h2 := HR1.out.low HP.out.up HP.out.keep HG.out.1 HG.out.2 (below1 w1 (.cells #[.int .i64 (kd : Int), .int .i64 (pa : Int), .int .i64 (fi : Int), .string ⟨tx.toArray⟩] 126))
      refine bodyPost_ret (v := .tuple #[]) (by simp [results, Tryz.results136, go_sem]) rfl ⟨h2.bel, ?_⟩
      rw [← HRR.out]; unfold rowL; rw [HML.out]; dsimp only; rw [if_pos rfl]
      exact ⟨rfl, h2.inp, h2.st, h2.fit, h2.ple⟩
    · have hkb : ((kd : Int) == (cl : Int)) = false := by rw [beq_eq_false_iff_ne]; omega
      have HR2 := Hid.mk (HR1.out.low HP.out.up HP.out.keep HG.out.1 HG.out.2 (below1 w1 (.cells #[.int .i64 (kd : Int), .int .i64 (pa : Int), .int .i64 (fi : Int), .string ⟨tx.toArray⟩] 126)))
      go_wp2_with fail
      refine (HP.out.call x ⟨kd, pa, fi, tx, er⟩ p1 _ HR2.out.st ⟨p, u1, HR.out.fit⟩ (HTx.out _ _ _ HML.out) HR2.out.inp HR2.out.err HR2.out.ple HR2.out.sB).mono ?_
      rintro e w2 ⟨hbel, hm⟩
      have hRR := HRR.out
      unfold rowL at hRR
      rw [HML.out] at hRR
      dsimp only at hRR
      rw [if_neg hk] at hRR
      cases hpl : pt x ⟨kd, pa, fi, tx, er⟩ p1 with
      | bad er' q =>
        rw [hpl] at hm hRR
        have hm' : e = .panicked (fch er' q) := hm
        subst hm'
        refine ⟨rfl, HR2.out.bel.trans hbel, ?_⟩
        rw [← hRR]
      | ok y p2 =>
        rw [hpl] at hm hRR
        obtain ⟨rfl, hi2, hs2, hle, hle2, hft2⟩ := hm
        have HR3 : Hid (RSt I B s Fit St w w2 y p2) := ⟨hs2, hi2, hbel.errIn HR2.out.err HG.out.1 HG.out.2, HR2.out.bel.trans hbel, hle2, Nat.le_trans HR2.out.sB hbel.size, hft2⟩
        have HL : Hid (loopL s.data.toList cl pt (s.data.toList.length + 1) y p2 = R) := hRR
        clear hpl hRR hi2 hs2 hle hle2 hbel hft2
        go_wp2_with fail
        go_loopw [7] (fun bx wr => ∃ (f : Nat) (y : σ) (p : Nat), Hid (s.size < p + f) ∧ Hid (RSt I B s Fit St w wr y p) ∧ Hid (loopL s.data.toList cl pt f y p = R)) (fun _ wr => s.size + 1 - posOf I wr)
        case atStart => exact ⟨_, y, p2, (by show s.size < p2 + (s.size + 1); omega), HR3, HL⟩
        case round =>
          obtain ⟨f, y, q, HF, HS, HL⟩ := hrel
          obtain ⟨f, rfl⟩ : ∃ f', f = f' + 1 := ⟨f - 1, by have := HF.out; have := HS.out.ple; omega⟩
          have hLL := HL.out
          unfold loopL at hLL
          have HLL := Hid.mk hLL
          clear hLL
          have hpos := HS.out.inp.pos
          have HPos := Hid.mk hpos
          clear hpos
          go_wp2_with fail
          refine (HMust.out _ q HS.out.ple HS.out.inp HS.out.err).mono ?_
          rintro e w3 ⟨hbut, hm⟩
          cases hml : mustL s.data.toList q with
          | bad er' q' =>
            rw [hml] at hm
            have hm' : e = .panicked (fch er' q') := hm
            subst hm'
            refine ⟨rfl, HS.out.bel.trans (Bel.of hbut HS.out.sB), ?_⟩
            have hLL := HLL.out
            rw [hml] at hLL
            rw [← hLL]
          | ok t q1 =>
            rw [hml] at hm
            obtain ⟨⟨v, rfl, rfl⟩, hin⟩ := hm
            obtain ⟨v1, v2⟩ := mustL_up HS.out.ple hml
            have HS1 := Hid.mk (HS.out.but HP.out.up HP.out.keep HG.out.1 HG.out.2 hbut hin v2 (by omega))
            have hLL := HLL.out
            rw [hml] at hLL
            have HLL1 := Hid.mk hLL
            clear hLL
            clear hbut hin hml
            obtain ⟨kd3, pa3, fi3, tx3, er3⟩ := t
            have HT3 : Hid (∀ u, Calls Tryz.prog 139 #[.int .i64 6, .agg #[.int .i64 (kd3 : Int), .int .i64 (pa3 : Int), .int .i64 (fi3 : Int), .string ⟨tx3.toArray⟩]] u fun e w' => Below u.heap.size u w' ∧ ((kd3 = 6 ∧ e = .returned (.tuple #[])) ∨ (kd3 ≠ 6 ∧ e = .panicked (fch 51 pa3)))) := fun u => HBe.out ⟨kd3, pa3, fi3, tx3, er3⟩ u
            have HS2 := Hid.mk (HS1.out.low HP.out.up HP.out.keep HG.out.1 HG.out.2 (below1 w3 (.cells #[.int .i64 (kd3 : Int), .int .i64 (pa3 : Int), .int .i64 (fi3 : Int), .string ⟨tx3.toArray⟩] 126)))
            unfold tokV
            dsimp only at HLL1 ⊢
            by_cases hk3 : kd3 = cl
            · subst hk3
              go_wp2_with fail
              refine bodyPost_ret (v := .tuple #[]) (by simp [results, Tryz.results136, go_sem]) rfl ⟨HS2.out.bel, ?_⟩
              have hLL := HLL1.out
              rw [if_pos (by trivial)] at hLL
              rw [← hLL]
              exact ⟨rfl, HS2.out.inp, HS2.out.st, HS2.out.fit, HS2.out.ple⟩
            · have hkb3 : ((kd3 : Int) == (cl : Int)) = false := by rw [beq_eq_false_iff_ne]; omega
              go_wp2_with fail
              refine (HT3.out _).mono ?_
              rintro e w4 ⟨hb4, ⟨hk6, rfl⟩ | ⟨hk6, rfl⟩⟩
              · have HS3 := Hid.mk (HS2.out.low HP.out.up HP.out.keep HG.out.1 HG.out.2 hb4)
                clear hb4
                go_wp2_with fail
                refine (HMust.out _ q1 HS3.out.ple HS3.out.inp HS3.out.err).mono ?_
                rintro e w5 ⟨hbut, hm⟩
                have hLL := HLL1.out
                rw [if_neg hk3, if_pos hk6] at hLL
                cases hml : mustL s.data.toList q1 with
                | bad er' q' =>
                  rw [hml] at hm hLL
                  have hm' : e = .panicked (fch er' q') := hm
                  subst hm'
                  refine ⟨rfl, HS3.out.bel.trans (Bel.of hbut HS3.out.sB), ?_⟩
                  rw [← hLL]
                | ok t5 q2 =>
                  rw [hml] at hm hLL
                  dsimp only at hLL
                  obtain ⟨⟨v, rfl, rfl⟩, hin⟩ := hm
                  obtain ⟨v3, v4⟩ := mustL_up HS3.out.ple hml
                  have HS4 := Hid.mk (HS3.out.but HP.out.up HP.out.keep HG.out.1 HG.out.2 hbut hin v4 (by omega))
                  have HLL2 := Hid.mk hLL
                  have HTl := Hid.mk (HTx.out _ _ _ hml)
                  clear hbut hin hml hLL
                  go_wp2_with fail
                  refine (HP.out.call y t5 q2 _ HS4.out.st ⟨q1, v3, HS3.out.fit⟩ HTl.out HS4.out.inp HS4.out.err HS4.out.ple HS4.out.sB).mono ?_
                  rintro e w6 ⟨hbel, hm⟩
                  have hLL := HLL2.out
                  cases hpl : pt y t5 q2 with
                  | bad er' q' =>
                    rw [hpl] at hm hLL
                    have hm' : e = .panicked (fch er' q') := hm
                    subst hm'
                    refine ⟨rfl, HS4.out.bel.trans hbel, ?_⟩
                    rw [← hLL]
                  | ok z q3 =>
                    rw [hpl] at hm hLL
                    obtain ⟨rfl, hi2, hs2, hle, hle2, hft2⟩ := hm
                    have HS5 : Hid (RSt I B s Fit St w w6 z q3) := ⟨hs2, hi2, hbel.errIn HS4.out.err HG.out.1 HG.out.2, HS4.out.bel.trans hbel, hle2, Nat.le_trans HS4.out.sB hbel.size, hft2⟩
                    have HL5 : Hid (loopL s.data.toList cl pt f z q3 = R) := hLL
                    have HLe := Hid.mk (And.intro v1 (And.intro v3 hle))
                    have hpos6 := hi2.pos
                    have HPos6 := Hid.mk hpos6
                    clear hpl hLL hi2 hs2 hle hle2 hbel hft2 hpos6 v1 v2 v3 v4
                    go_wp2_with fail
                    go_roundw
                    case rel => exact ⟨f, z, q3, (by show s.size < q3 + f; have := HF.out; have := HLe.out; omega), HS5, HL5⟩
                    case measure =>
                      have := HPos.out
                      have := HPos6.out
                      have := HLe.out
                      have := HS5.out.ple
                      omega
              · refine ⟨rfl, (HS2.out.low HP.out.up HP.out.keep HG.out.1 HG.out.2 hb4).bel, ?_⟩
                have hLL := HLL1.out
                rw [if_neg hk3, if_neg hk6] at hLL
                rw [← hLL]
end Go.Proofs.YtfjmgccbpiolhaaGreatDoor
namespace Go.Proofs.YtfjmgccbpiolhaaGreatDoor
open Go.RowKit Go.Shelf
set_option linter.unusedVariables false
set_option linter.unusedSimpArgs false

theorem enc_le4 (n : Nat) : (enc n).length ≤ 4 := by
  unfold enc
  repeat' split
  all_goals simp
theorem txt_le (zs : List Nat) : (txt zs).length ≤ 4 * zs.length := by
  induction zs with
  | nil => exact Nat.le_refl _
  | cons z zs ih =>
    have := enc_le4 z
    unfold txt at ih ⊢
    rw [List.flatMap_cons, List.length_append, List.length_cons]
    omega
theorem unqL_len (l : List UInt8) : ∀ (n p : Nat) (acc : List Nat), l.length - p ≤ n → p ≤ l.length → (unqL l p acc).1.length ≤ acc.length + (l.length - p) := by
  intro n
  induction n with
  | zero =>
    intro p acc hn hp
    rw [unqL_end acc (by omega)]
    exact Nat.zero_le _
  | succ n ih =>
    intro p acc hn hp
    by_cases hlt : p < l.length
    · rw [unqL, dif_pos hlt]
      split
      · show acc.length ≤ _; omega
      · split
        · exact Nat.zero_le _
        · split
          · exact Nat.zero_le _
          · split
            · split
              · next h5 =>
                obtain ⟨e1, e2, _⟩ := escL_ok h5
                rw [if_pos e1]
                have := ih (escL l p).2.1 (acc ++ [(escL l p).1]) (by omega) e2
                rw [List.length_append, List.length_singleton] at this
                omega
              · exact Nat.zero_le _
            · have hz := decL_pos (l.drop p)
              have hst := decL_le (l.drop p) (fun e => by have := congrArg List.length e; rw [List.length_drop] at this; simp at this; omega)
              rw [List.length_drop] at hst
              rw [if_pos (by omega)]
              have := ih (p + (decL (l.drop p)).2) (acc ++ [(decL (l.drop p)).1]) (by omega) (by omega)
              rw [List.length_append, List.length_singleton] at this
              omega
    · rw [unqL_end acc hlt]; exact Nat.zero_le _
theorem cut_len (l : List UInt8) (a b : Nat) : (cut l a b).length ≤ l.length := by
  unfold cut
  rw [List.length_take, List.length_drop]
  omega
theorem nextT_text {l : List UInt8} {p : Nat} (hp : p < l.length) : (nextT l p).text.length ≤ 4 * l.length := by
  unfold nextT
  split
  · exact Nat.zero_le _
  · split
    · unfold litT
      split
      · have h1 := txt_le (unqL l (p + 1) []).1
        have h2 := unqL_len l _ (p + 1) [] (Nat.le_refl _) hp
        rw [List.length_nil] at h2
        show (txt _).length ≤ _
        omega
      · exact Nat.zero_le _
    · split
      · unfold wordT
        repeat' split
        all_goals exact Nat.zero_le _
      · split
        · unfold numeralT
          split
          · show (numT _).length ≤ _
            have := cut_len l p (behL l p cNm)
            unfold numT
            split
            · show 1 ≤ _; omega
            · omega
          · exact Nat.zero_le _
        · exact Nat.zero_le _
theorem mustL_text {l : List UInt8} {p q : Nat} {t : Tok} (h : mustL l p = .ok t q) : t.text.length ≤ 4 * l.length := by
  unfold mustL at h
  split at h
  · next h1 =>
    split at h
    · injection h with e1 e2
      rw [← e1]; exact nextT_text h1
    · cases h
  · cases h
end Go.Proofs.YtfjmgccbpiolhaaGreatDoor
