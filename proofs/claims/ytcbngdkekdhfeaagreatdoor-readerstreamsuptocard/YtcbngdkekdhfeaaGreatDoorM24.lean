import Derived.Test.YtcbngdkekdhfeaaGreatDoorM22
import Derived.WalkMore
import Derived.Deep.LoopGhost
import Derived.Test.YtcbngdkekdhfeaaGreatDoorM21
namespace Go.Proofs.YtcbngdkekdhfeaaGreatDoor
open Go.RowKit Go.Shelf
set_option linter.unusedVariables false
set_option linter.unusedSimpArgs false
attribute [local go_sem] Oper.semAt_some

def clsB (k : Nat) : List UInt8 := if k = 0 then cMk else if k = 1 then [34] else if k = 2 then cLe else cDm
def encT (t : Tok) : Array Value := #[tokV t, .int .i64 (t.err : Int)]
def Missed (c : UInt8) (k : Nat) : Prop := ∀ j, j < k → (clsB j).contains c = false
theorem next_0 {l : List UInt8} {p : Nat} (h : (clsB 0).contains (l.getD p 0) = true) : nextT l p = ⟨(1 + Lib.indexByte cMk (l.getD p 0)).toNat, p, p + 1, [], 0⟩ := by
  unfold nextT; rw [if_pos (show cMk.contains _ = true from h)]
theorem next_1 {l : List UInt8} {p : Nat} (hm : Missed (l.getD p 0) 1) (h : (clsB 1).contains (l.getD p 0) = true) : nextT l p = litT l p ∧ l.getD p 0 = 34 := by
  have h0 : cMk.contains (l.getD p 0) = false := hm 0 (by decide)
  have e : l.getD p 0 = 34 := by
    have : [34].contains (l.getD p 0) = true := h
    simpa using this
  unfold nextT; rw [if_neg (by rw [h0]; decide), if_pos e]; exact ⟨rfl, e⟩
theorem not34 {l : List UInt8} {p : Nat} (h : (clsB 1).contains (l.getD p 0) = false) : ¬ l.getD p 0 = 34 := fun e => by
  have h2 : [34].contains (l.getD p 0) = false := h
  rw [e] at h2; exact absurd h2 (by decide)
theorem next_2 {l : List UInt8} {p : Nat} (hm : Missed (l.getD p 0) 2) (h : (clsB 2).contains (l.getD p 0) = true) : nextT l p = wordT l p := by
  have h0 : cMk.contains (l.getD p 0) = false := hm 0 (by decide)
  have h2 : cLe.contains (l.getD p 0) = true := h
  unfold nextT; rw [if_neg (by rw [h0]; decide), if_neg (not34 (hm 1 (by decide))), if_pos h2]
theorem next_3 {l : List UInt8} {p : Nat} (hm : Missed (l.getD p 0) 3) (h : (clsB 3).contains (l.getD p 0) = true) : nextT l p = numeralT l p := by
  have h0 : cMk.contains (l.getD p 0) = false := hm 0 (by decide)
  have h2 : cLe.contains (l.getD p 0) = false := hm 2 (by decide)
  have h3 : cDm.contains (l.getD p 0) = true := h
  unfold nextT; rw [if_neg (by rw [h0]; decide), if_neg (not34 (hm 1 (by decide))), if_neg (by rw [h2]; decide), if_pos h3]
theorem next_4 {l : List UInt8} {p : Nat} (hm : Missed (l.getD p 0) 4) : nextT l p = ⟨0, p, 0, [], 40⟩ := by
  have h0 : cMk.contains (l.getD p 0) = false := hm 0 (by decide)
  have h2 : cLe.contains (l.getD p 0) = false := hm 2 (by decide)
  have h3 : cDm.contains (l.getD p 0) = false := hm 3 (by decide)
  unfold nextT; rw [if_neg (by rw [h0]; decide), if_neg (not34 (hm 1 (by decide))), if_neg (by rw [h2]; decide), if_neg (by rw [h3]; decide)]
theorem Missed.up {c : UInt8} {k : Nat} (h : Missed c k) (hk : (clsB k).contains c = false) : Missed c (k + 1) := fun j hj => by
  rcases Nat.lt_or_ge j k with h1 | h1
  · exact h j h1
  · obtain rfl : j = k := by omega
    exact hk
theorem ix_no {k : List UInt8} {c : UInt8} (h : k.contains c = false) : Lib.indexByte k c < 0 := by
  have := indexB_has k c
  rw [h] at this
  have h2 : ¬ 0 ≤ Lib.indexByte k c := fun hx => by have := this.2 hx; cases this
  omega
theorem tok_at {l : List UInt8} {pre : List Tok} {p : Nat} (h : At l pre p) (hp : p < l.length) : (pre ++ [nextT l p] <+: allY l) ∧ ((nextT l p).err ≠ 0 → allY l = pre ++ [nextT l p]) ∧ ((nextT l p).err = 0 → (nextT l p).fin ≤ l.length ∧ At l (pre ++ [nextT l p]) (behL l (nextT l p).fin cBl) ∧ p < behL l (nextT l p).fin cBl) :=
  ⟨h.pre hp, h.fault hp, fun he => ⟨(nextT_up hp he).2, h.next hp he⟩⟩
theorem ixk_0 (u : World) : (Instr.index 127 (.agg #[.string ⟨#[123, 125, 91, 93, 58, 44]⟩, .func (.func 83) #[] #[], .string ⟨#[34]⟩, .func (.func 84) #[] #[], .string ⟨#[97, 98, 99, 100, 101, 102, 103, 104, 105, 106, 107, 108, 109, 110, 111, 112, 113, 114, 115, 116, 117, 118, 119, 120, 121, 122, 65, 66, 67, 68, 69, 70, 71, 72, 73, 74, 75, 76, 77, 78, 79, 80, 81, 82, 83, 84, 85, 86, 87, 88, 89, 90, 95]⟩, .func (.func 85) #[] #[], .string ⟨#[48, 49, 50, 51, 52, 53, 54, 55, 56, 57, 45]⟩, .func (.func 86) #[] #[]]) (.int .i64 0)).run Tryz.prog u = .ok (.agg #[.string ⟨#[123, 125, 91, 93, 58, 44]⟩, .func (.func 83) #[] #[]]) u := by kernel_rfl
theorem ixk_1 (u : World) : (Instr.index 127 (.agg #[.string ⟨#[123, 125, 91, 93, 58, 44]⟩, .func (.func 83) #[] #[], .string ⟨#[34]⟩, .func (.func 84) #[] #[], .string ⟨#[97, 98, 99, 100, 101, 102, 103, 104, 105, 106, 107, 108, 109, 110, 111, 112, 113, 114, 115, 116, 117, 118, 119, 120, 121, 122, 65, 66, 67, 68, 69, 70, 71, 72, 73, 74, 75, 76, 77, 78, 79, 80, 81, 82, 83, 84, 85, 86, 87, 88, 89, 90, 95]⟩, .func (.func 85) #[] #[], .string ⟨#[48, 49, 50, 51, 52, 53, 54, 55, 56, 57, 45]⟩, .func (.func 86) #[] #[]]) (.int .i64 1)).run Tryz.prog u = .ok (.agg #[.string ⟨#[34]⟩, .func (.func 84) #[] #[]]) u := by kernel_rfl
theorem ixk_2 (u : World) : (Instr.index 127 (.agg #[.string ⟨#[123, 125, 91, 93, 58, 44]⟩, .func (.func 83) #[] #[], .string ⟨#[34]⟩, .func (.func 84) #[] #[], .string ⟨#[97, 98, 99, 100, 101, 102, 103, 104, 105, 106, 107, 108, 109, 110, 111, 112, 113, 114, 115, 116, 117, 118, 119, 120, 121, 122, 65, 66, 67, 68, 69, 70, 71, 72, 73, 74, 75, 76, 77, 78, 79, 80, 81, 82, 83, 84, 85, 86, 87, 88, 89, 90, 95]⟩, .func (.func 85) #[] #[], .string ⟨#[48, 49, 50, 51, 52, 53, 54, 55, 56, 57, 45]⟩, .func (.func 86) #[] #[]]) (.int .i64 2)).run Tryz.prog u = .ok (.agg #[.string ⟨#[97, 98, 99, 100, 101, 102, 103, 104, 105, 106, 107, 108, 109, 110, 111, 112, 113, 114, 115, 116, 117, 118, 119, 120, 121, 122, 65, 66, 67, 68, 69, 70, 71, 72, 73, 74, 75, 76, 77, 78, 79, 80, 81, 82, 83, 84, 85, 86, 87, 88, 89, 90, 95]⟩, .func (.func 85) #[] #[]]) u := by kernel_rfl
theorem ixk_3 (u : World) : (Instr.index 127 (.agg #[.string ⟨#[123, 125, 91, 93, 58, 44]⟩, .func (.func 83) #[] #[], .string ⟨#[34]⟩, .func (.func 84) #[] #[], .string ⟨#[97, 98, 99, 100, 101, 102, 103, 104, 105, 106, 107, 108, 109, 110, 111, 112, 113, 114, 115, 116, 117, 118, 119, 120, 121, 122, 65, 66, 67, 68, 69, 70, 71, 72, 73, 74, 75, 76, 77, 78, 79, 80, 81, 82, 83, 84, 85, 86, 87, 88, 89, 90, 95]⟩, .func (.func 85) #[] #[], .string ⟨#[48, 49, 50, 51, 52, 53, 54, 55, 56, 57, 45]⟩, .func (.func 86) #[] #[]]) (.int .i64 3)).run Tryz.prog u = .ok (.agg #[.string ⟨#[48, 49, 50, 51, 52, 53, 54, 55, 56, 57, 45]⟩, .func (.func 86) #[] #[]]) u := by kernel_rfl
end Go.Proofs.YtcbngdkekdhfeaaGreatDoor
namespace Go.Proofs.YtcbngdkekdhfeaaGreatDoor
open Go.RowKit Go.Shelf
set_option linter.unusedVariables false
set_option linter.unusedSimpArgs false
attribute [local go_sem] Oper.semAt_some

set_option maxRecDepth 100000 in
set_option maxHeartbeats 800000 in
theorem w_Seq (s : ByteArray) (w : World) : Calls Tryz.prog 59 #[.string s] w fun e w' => e = .returned (.func (.func 70) #[.string s] #[]) ∧ w' = w := by
  go_enter Tryz.func59, Tryz.ntmps59
  go_wp2_with fail
  go_ret
  exact ⟨rfl, rfl⟩

end Go.Proofs.YtcbngdkekdhfeaaGreatDoor
namespace Go.Proofs.YtcbngdkekdhfeaaGreatDoor
open Go.RowKit Go.Shelf
set_option linter.unusedVariables false
set_option linter.unusedSimpArgs false
attribute [local go_sem] Oper.semAt_some

def TRow (w : World) (so : Option Addr) (l : List Tok) : Prop := ∀ i, (h : i < l.length) → ∃ g off, so = some ⟨g, off, none⟩ ∧ g < w.heap.size ∧ w.cell? ⟨g, off + i * 4, none⟩ = some (.int .i64 (l[i].kind : Int)) ∧ w.cell? ⟨g, off + i * 4 + 1, none⟩ = some (.int .i64 (l[i].at_ : Int)) ∧ w.cell? ⟨g, off + i * 4 + 2, none⟩ = some (.int .i64 (l[i].fin : Int)) ∧ w.cell? ⟨g, off + i * 4 + 3, none⟩ = some (.string ⟨l[i].text.toArray⟩)
theorem TRow.keep {w w' : World} {so : Option Addr} {l : List Tok} (h : TRow w so l) (hb : Below w.heap.size w w') : TRow w' so l := fun i hi => by
  obtain ⟨g, off, e, hg, a0, a1, a2, a3⟩ := h i hi
  exact ⟨g, off, e, Nat.lt_of_lt_of_le hg hb.size, (hb.cell (p := ⟨_, _, _⟩) hg).trans a0, (hb.cell (p := ⟨_, _, _⟩) hg).trans a1, (hb.cell (p := ⟨_, _, _⟩) hg).trans a2, (hb.cell (p := ⟨_, _, _⟩) hg).trans a3⟩
end Go.Proofs.YtcbngdkekdhfeaaGreatDoor
namespace Go.Proofs.YtcbngdkekdhfeaaGreatDoor
open Go.RowKit Go.Shelf
set_option linter.unusedVariables false
set_option linter.unusedSimpArgs false

theorem nextT_at {l : List UInt8} {p : Nat} (h : (nextT l p).err = 0) : (nextT l p).at_ = p := by
  unfold nextT at h ⊢
  split
  · rfl
  · next h1 =>
    rw [if_neg h1] at h
    split
    · next h2 =>
      rw [if_pos h2] at h
      unfold litT at h ⊢
      split
      · rfl
      · next h3 => rw [if_neg h3] at h; exact absurd h h3
    · next h2 =>
      rw [if_neg h2] at h
      split
      · unfold wordT
        split
        · rfl
        · split
          · rfl
          · split <;> rfl
      · split
        · unfold numeralT
          split <;> rfl
        · rfl

def Good (l : List UInt8) : Nat → List Tok → Prop
  | a, [] => behL l a cBl = l.length
  | a, t :: r => t.at_ = behL l a cBl ∧ t.at_ < t.fin ∧ t.fin ≤ l.length ∧ Good l t.fin r
end Go.Proofs.YtcbngdkekdhfeaaGreatDoor
namespace Go.Proofs.YtcbngdkekdhfeaaGreatDoor
open Go.RowKit
set_option linter.unusedVariables false
set_option linter.unusedSimpArgs false

theorem dropWhile_app (p : UInt8 → Bool) (c : UInt8) (y : List UInt8) (hc : p c = false) : ∀ x : List UInt8, ((x ++ c :: y).dropWhile p).length = (x.dropWhile p).length + (c :: y).length := by
  intro x
  induction x with
  | nil => rw [List.nil_append, List.dropWhile_cons, if_neg (by rw [hc]; decide)]; simp
  | cons a x ih =>
    rw [List.cons_append, List.dropWhile_cons, List.dropWhile_cons]
    split
    · exact ih
    · simp; omega
theorem behL_app {a b : List UInt8} {c : UInt8} {p : Nat} {cs : List UInt8} (hp : p ≤ a.length) (hc : cs.contains c = false) : behL (a ++ c :: b) p cs = behL a p cs := by
  unfold behL
  rw [List.drop_append_of_le_length hp, dropWhile_app (cs.contains ·) c b hc]
  have := dropWhile_le (cs.contains ·) (a.drop p)
  rw [List.length_drop] at this
  simp
  omega
theorem cut_app {a b : List UInt8} {p q : Nat} (hq : q ≤ a.length) : cut (a ++ b) p q = cut a p q := by
  unfold cut
  by_cases h : p ≤ a.length
  · rw [List.drop_append_of_le_length h, List.take_append_of_le_length (by rw [List.length_drop]; omega)]
  · rw [show q - p = 0 by omega]; simp
theorem getD_app {a b : List UInt8} {p : Nat} (hp : p < a.length) : (a ++ b).getD p 0 = a.getD p 0 := by
  rw [List.getD, List.getD, List.getElem?_append_left hp]
theorem wordT_app {a b : List UInt8} {p : Nat} (hp : p < a.length) : wordT (a ++ 10 :: b) p = wordT a p := by
  have hb := behL_app (a := a) (b := b) (c := 10) (p := p) (cs := cWd) (by omega) (by decide +kernel)
  have hl := (behL_ge (l := a) (p := p) cWd (by omega)).2
  unfold wordT
  rw [hb, cut_app hl]
theorem drop_pre {x b : List UInt8} {p : Nat} : (x ++ b).drop (x.length + p) = b.drop p := by
  rw [← List.drop_drop]; simp
theorem behL_pre {x b : List UInt8} {p : Nat} {cs : List UInt8} (hp : p ≤ b.length) : behL (x ++ b) (x.length + p) cs = x.length + behL b p cs := by
  unfold behL
  rw [drop_pre, List.length_append]
  have := dropWhile_le (cs.contains ·) (b.drop p)
  rw [List.length_drop] at this
  omega
theorem cut_pre {x b : List UInt8} {p q : Nat} : cut (x ++ b) (x.length + p) (x.length + q) = cut b p q := by
  unfold cut
  rw [drop_pre, show x.length + q - (x.length + p) = q - p by omega]
theorem getD_pre {x b : List UInt8} {p : Nat} : (x ++ b).getD (x.length + p) 0 = b.getD p 0 := by
  rw [List.getD, List.getD, List.getElem?_append_right (by omega), show x.length + p - x.length = p by omega]
def shiftT (m : Nat) (t : Tok) : Tok := if t.err = 0 then ⟨t.kind, m + t.at_, m + t.fin, t.text, 0⟩ else ⟨t.kind, m + t.at_, t.fin, t.text, t.err⟩
theorem wordT_pre {x b : List UInt8} {p : Nat} (hp : p < b.length) : wordT (x ++ b) (x.length + p) = shiftT x.length (wordT b p) := by
  unfold wordT
  rw [behL_pre (by omega), cut_pre]
  split
  · rfl
  · split
    · rfl
    · split <;> rfl
theorem numeralT_pre {x b : List UInt8} {p : Nat} (hp : p < b.length) : numeralT (x ++ b) (x.length + p) = shiftT x.length (numeralT b p) := by
  unfold numeralT
  rw [behL_pre (by omega), cut_pre]
  split <;> rfl
end Go.Proofs.YtcbngdkekdhfeaaGreatDoor
namespace Go.Proofs.YtcbngdkekdhfeaaGreatDoor
open Go.RowKit
set_option linter.unusedVariables false
set_option linter.unusedSimpArgs false

theorem escL_pre (x b : List UInt8) (k : Nat) : escL (x ++ b) (x.length + k) = ((escL b k).1, x.length + (escL b k).2.1, (escL b k).2.2) := by
  unfold escL
  rw [drop_pre, show x.length + k + 6 = x.length + (k + 6) by omega, drop_pre]
  split
  · simp [Nat.add_assoc]
  · split
    · rfl
    · split
      · simp [Nat.add_assoc]
      · split
        · rfl
        · split
          · simp [Nat.add_assoc]
          · rfl
theorem unqL_step {l : List UInt8} {p : Nat} (acc : List Nat) (h : p < l.length) : unqL l p acc =
    (if (decL (l.drop p)).1 = 34 then (acc, p + 1, 0)
    else if (decL (l.drop p)).1 < 32 then ([], p, 22)
    else if strayL (l.drop p) = true then ([], p, 20)
    else if (decL (l.drop p)).1 = 92 then
      (if (escL l p).2.2 = 0 then (if p < (escL l p).2.1 then unqL l (escL l p).2.1 (acc ++ [(escL l p).1]) else ([], 0, 0)) else ([], (escL l p).2.1, (escL l p).2.2))
    else (if 0 < (decL (l.drop p)).2 then unqL l (p + (decL (l.drop p)).2) (acc ++ [(decL (l.drop p)).1]) else ([], 0, 0))) := by
  rw [unqL, dif_pos h]
theorem unqL_pre (x b : List UInt8) : ∀ (n p : Nat) (acc : List Nat), b.length - p ≤ n → p ≤ b.length → unqL (x ++ b) (x.length + p) acc = ((unqL b p acc).1, x.length + (unqL b p acc).2.1, (unqL b p acc).2.2) := by
  intro n
  induction n with
  | zero =>
    intro p acc hn hp
    rw [unqL_end acc (by simp; omega), unqL_end acc (by omega)]
    simp
  | succ n ih =>
    intro p acc hn hp
    by_cases hlt : p < b.length
    · have e1 := unqL_step (l := x ++ b) (p := x.length + p) acc (by simp; omega)
      rw [drop_pre, escL_pre] at e1
      have e2 := unqL_step (l := b) acc hlt
      rw [e1, e2]
      by_cases h1 : (decL (b.drop p)).1 = 34
      · rw [if_pos h1, if_pos h1]; rfl
      · rw [if_neg h1, if_neg h1]
        by_cases h2 : (decL (b.drop p)).1 < 32
        · rw [if_pos h2, if_pos h2]
        · rw [if_neg h2, if_neg h2]
          by_cases h3 : strayL (b.drop p) = true
          · rw [if_pos h3, if_pos h3]
          · rw [if_neg h3, if_neg h3]
            by_cases h4 : (decL (b.drop p)).1 = 92
            · rw [if_pos h4, if_pos h4]
              dsimp only
              by_cases h5 : (escL b p).2.2 = 0
              · obtain ⟨g1, g2, _⟩ := escL_ok h5
                rw [if_pos h5, if_pos h5, if_pos g1, if_pos (by omega), ih _ _ (by omega) g2]
              · rw [if_neg h5, if_neg h5]
            · rw [if_neg h4, if_neg h4]
              have hz := decL_pos (b.drop p)
              have hst := decL_le (b.drop p) (fun e => by have := congrArg List.length e; rw [List.length_drop] at this; simp at this; omega)
              rw [List.length_drop] at hst
              rw [if_pos (by omega), if_pos (by omega), show x.length + p + (decL (b.drop p)).2 = x.length + (p + (decL (b.drop p)).2) by omega, ih _ _ (by omega) (by omega)]
    · rw [unqL_end acc (by simp; omega), unqL_end acc (by omega)]
      simp
theorem shiftT_err (m : Nat) (t : Tok) : (shiftT m t).err = t.err := by
  unfold shiftT
  split
  · next h => exact h.symm
  · rfl
theorem litT_pre {x b : List UInt8} {p : Nat} (hp : p < b.length) : litT (x ++ b) (x.length + p) = shiftT x.length (litT b p) := by
  unfold litT
  rw [show x.length + p + 1 = x.length + (p + 1) by omega, unqL_pre x b (b.length - (p + 1)) (p + 1) [] (Nat.le_refl _) (by omega)]
  dsimp only
  by_cases h : (unqL b (p + 1) []).2.2 = 0
  · rw [if_pos h, if_pos h]; rfl
  · rw [if_neg h, if_neg h]
    unfold shiftT
    rw [if_neg h]
theorem nextT_pre {x b : List UInt8} {p : Nat} (hp : p < b.length) : nextT (x ++ b) (x.length + p) = shiftT x.length (nextT b p) := by
  unfold nextT
  rw [getD_pre, litT_pre hp, wordT_pre hp, numeralT_pre hp]
  split
  · rfl
  · split
    · rfl
    · split
      · rfl
      · split <;> rfl
end Go.Proofs.YtcbngdkekdhfeaaGreatDoor
namespace Go.Proofs.YtcbngdkekdhfeaaGreatDoor
open Go.RowKit
set_option linter.unusedVariables false
set_option linter.unusedSimpArgs false

theorem dec_app {x : List UInt8} (y : List UInt8) (hx : x ≠ []) (hs : strayL x = false) : decL (x ++ y) = decL x ∧ strayL (x ++ y) = false := by
  rcases stray_or x hx with ⟨n, post, hn, rfl, _⟩ | ⟨_, h⟩
  · rw [List.append_assoc, dec_enc n hn, dec_enc n hn]
    exact ⟨rfl, stray_enc n hn _⟩
  · rw [h] at hs; cases hs
theorem shortL_app {x : List UInt8} (y : List UInt8) (h : 2 ≤ x.length) : shortL (x ++ y) = shortL x := by
  unfold shortL
  rw [getD_app (by omega), getD_app (by omega)]
  have : 2 ≤ (x ++ y).length := by simp; omega
  simp only [this, h, and_true]
theorem numL_app {x : List UInt8} (y : List UInt8) (h : 6 ≤ x.length) : numL (x ++ y) = numL x := by
  unfold numL
  rw [getD_app (by omega), getD_app (by omega), List.drop_append_of_le_length (by omega), List.take_append_of_le_length (by rw [List.length_drop]; omega)]
  have : 6 ≤ (x ++ y).length := by simp; omega
  simp only [this, h, true_and]
theorem shortL_len {x : List UInt8} {r : Nat} (h : shortL x = some r) : 2 ≤ x.length := by
  unfold shortL at h
  split at h
  · next h1 => exact h1.2
  · cases h
theorem numL_len {x : List UInt8} {r : Nat} (h : numL x = some r) : 6 ≤ x.length := by
  unfold numL at h
  split at h
  · next h1 => exact h1.1
  · cases h
theorem escL_app {a : List UInt8} (y : List UInt8) {k : Nat} (hk : k ≤ a.length) (h : (escL a k).2.2 = 0) : escL (a ++ y) k = escL a k := by
  unfold escL at h ⊢
  rw [List.drop_append_of_le_length hk]
  cases hs : shortL (a.drop k) with
  | some r => rw [shortL_app y (shortL_len hs), hs]
  | none =>
    rw [hs] at h
    dsimp only at h
    cases hn : numL (a.drop k) with
    | none => rw [hn] at h; cases h
    | some n =>
      have h6 := numL_len hn
      rw [hn] at h
      dsimp only at h
      rw [shortL_app y (by omega), hs, numL_app y h6, hn]
      dsimp only
      rw [List.length_drop] at h6
      split
      · rfl
      · next hc =>
        rw [if_neg hc] at h
        cases hm : numL (a.drop (k + 6)) with
        | none => rw [hm] at h; cases h
        | some m => rw [List.drop_append_of_le_length (by omega), numL_app y (numL_len hm), hm]
theorem unqL_app {a : List UInt8} (y : List UInt8) : ∀ (n p : Nat) (acc : List Nat), a.length - p ≤ n → (unqL a p acc).2.2 = 0 → unqL (a ++ y) p acc = unqL a p acc := by
  intro n
  induction n with
  | zero => intro p acc hn h0; rw [unqL_end acc (by omega)] at h0; cases h0
  | succ n ih =>
    intro p acc hn h0
    by_cases hlt : p < a.length
    · have hne : a.drop p ≠ [] := fun e => by have := congrArg List.length e; rw [List.length_drop] at this; simp at this; omega
      have e2 := unqL_step (l := a) acc hlt
      have hs : strayL (a.drop p) = false := by
        cases hst : strayL (a.drop p) with
        | false => rfl
        | true =>
          exfalso
          rcases stray_or (a.drop p) hne with ⟨_, _, _, _, h⟩ | ⟨hd, _⟩
          · rw [h] at hst; cases hst
          · rw [e2, if_neg (by rw [hd]; decide), if_neg (by rw [hd]; decide), if_pos hst] at h0
            cases h0
      obtain ⟨d1, d2⟩ := dec_app y hne hs
      have e1 := unqL_step (l := a ++ y) (p := p) acc (by simp; omega)
      rw [List.drop_append_of_le_length (Nat.le_of_lt hlt), d1] at e1
      rw [e2] at h0
      rw [e1, e2]
      by_cases h1 : (decL (a.drop p)).1 = 34
      · rw [if_pos h1, if_pos h1]
      · rw [if_neg h1] at h0
        rw [if_neg h1, if_neg h1]
        by_cases h2 : (decL (a.drop p)).1 < 32
        · rw [if_pos h2] at h0; cases h0
        · rw [if_neg h2] at h0
          rw [if_neg h2, if_neg h2]
          rw [if_neg (show ¬ strayL (a.drop p) = true by rw [hs]; decide)] at h0
          rw [if_neg (show ¬ strayL (a.drop p ++ y) = true by rw [d2]; decide), if_neg (show ¬ strayL (a.drop p) = true by rw [hs]; decide)]
          by_cases h4 : (decL (a.drop p)).1 = 92
          · rw [if_pos h4] at h0
            rw [if_pos h4, if_pos h4]
            by_cases h5 : (escL a p).2.2 = 0
            · obtain ⟨g1, g2, _⟩ := escL_ok h5
              rw [if_pos h5, if_pos g1] at h0
              rw [escL_app y (Nat.le_of_lt hlt) h5, if_pos h5, if_pos h5, if_pos g1, if_pos g1, ih _ _ (by omega) h0]
            · rw [if_neg h5] at h0; exact absurd h0 h5
          · rw [if_neg h4] at h0
            rw [if_neg h4, if_neg h4]
            have hz := decL_pos (a.drop p)
            rw [if_pos (by omega)] at h0
            rw [if_pos (by omega), if_pos (by omega), ih _ _ (by omega) h0]
    · rw [unqL_end acc hlt] at h0; cases h0
theorem litT_app {a : List UInt8} (y : List UInt8) {p : Nat} (h : (litT a p).err = 0) : litT (a ++ y) p = litT a p := by
  have hu : (unqL a (p + 1) []).2.2 = 0 := by
    unfold litT at h
    split at h
    · assumption
    · exact h
  unfold litT
  rw [unqL_app y (a.length - (p + 1)) (p + 1) [] (Nat.le_refl _) hu]
end Go.Proofs.YtcbngdkekdhfeaaGreatDoor
namespace Go.Proofs.YtcbngdkekdhfeaaGreatDoor
open Go.RowKit
set_option linter.unusedVariables false
set_option linter.unusedSimpArgs false

theorem beh_step {l : List UInt8} {p : Nat} {cs : List UInt8} (hp : p < l.length) (hc : cs.contains (l.getD p 0) = true) : behL l p cs = behL l (p + 1) cs := by
  have e : l.drop p = l.getD p 0 :: l.drop (p + 1) := by
    rw [List.drop_eq_getElem_cons hp]; simp [List.getD, hp]
  unfold behL
  rw [e, List.dropWhile_cons, if_pos hc]
theorem beh_stop {l : List UInt8} {p : Nat} {cs : List UInt8} (hp : p < l.length) (hc : cs.contains (l.getD p 0) = false) : behL l p cs = p := by
  have e : l.drop p = l.getD p 0 :: l.drop (p + 1) := by
    rw [List.drop_eq_getElem_cons hp]; simp [List.getD, hp]
  unfold behL
  rw [e, List.dropWhile_cons, if_neg (by rw [hc]; decide), List.length_cons, List.length_drop]
  omega
theorem beh_end {l : List UInt8} {p : Nat} {cs : List UInt8} (hp : l.length ≤ p) : behL l p cs = l.length := by
  unfold behL
  rw [List.drop_eq_nil_of_le hp]
  rfl
def AhS (l : List UInt8) (p : Nat) (pre : List Tok) : Prop := p ≤ l.length ∧ (∀ t ∈ pre, t.err = 0) ∧ ∃ f, l.length - behL l p cBl < f ∧ allY l = pre ++ restY l f (behL l p cBl)
theorem AhS.start (l : List UInt8) : AhS l 0 [] := ⟨Nat.zero_le _, (fun t h => absurd h (List.not_mem_nil)), l.length + 1, by omega, rfl⟩
theorem AhS.done {l : List UInt8} {p : Nat} {pre : List Tok} (h : AhS l p pre) (hp : ¬ p < l.length) : allY l = pre := by
  obtain ⟨_, h1, f, h2, h3⟩ := h
  rw [beh_end (by omega)] at h2 h3
  cases f with
  | zero => omega
  | succ f => rw [restY, if_neg (by omega), List.append_nil] at h3; exact h3
theorem AhS.bad {l : List UInt8} {p : Nat} {pre : List Tok} (h : AhS l p pre) (hp : p < l.length) (hc : cBl.contains (l.getD p 0) = false) (he : (nextT l p).err ≠ 0) : allY l = pre ++ [nextT l p] := by
  obtain ⟨_, h1, f, h2, h3⟩ := h
  rw [beh_stop hp hc] at h2 h3
  cases f with
  | zero => omega
  | succ f =>
    rw [restY, if_pos hp, if_neg he] at h3
    exact h3
end Go.Proofs.YtcbngdkekdhfeaaGreatDoor
