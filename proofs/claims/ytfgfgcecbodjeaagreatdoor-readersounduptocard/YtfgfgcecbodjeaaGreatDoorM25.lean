import Derived.Test.YtfgfgcecbodjeaaGreatDoorM23
import Derived.WalkMore
import Derived.Deep.LoopGhost
import Derived.Test.YtfgfgcecbodjeaaGreatDoorM22
namespace Go.Proofs.YtfgfgcecbodjeaaGreatDoor
open Go.RowKit Go.Shelf
set_option linter.unusedVariables false
set_option linter.unusedSimpArgs false
attribute [local go_sem] Oper.semAt_some

def clsB (k : Nat) : List UInt8 := if k = 0 then cMk else if k = 1 then [34] else if k = 2 then cLe else cDm
def encT (t : Tok) : Array Value := #[tokV t, .int .i64 (t.err : Int)]
/-- where the byte belongs to none of the first classes -/
def Missed (c : UInt8) (k : Nat) : Prop := ∀ j, j < k → (clsB j).contains c = false
theorem next_0 {l : List UInt8} {p : Nat} (h : (clsB 0).contains (l.getD p 0) = true) : nextT l p = ⟨(1 + Lib.indexByte cMk (l.getD p 0)).toNat, p, p + 1, [], 0⟩ := by
  unfold nextT; rw [if_pos (show cMk.contains _ = true from h)]
theorem next_1 {l : List UInt8} {p : Nat} (hm : Missed (l.getD p 0) 1) (h : (clsB 1).contains (l.getD p 0) = true) : nextT l p = litT l p ∧ l.getD p 0 = 34 := by
  have h0 : cMk.contains (l.getD p 0) = false := hm 0 (by decide)
  have e : l.getD p 0 = 34 := by
    have : [34].contains (l.getD p 0) = true := h
    simpa using this
  unfold nextT; rw [if_neg (by rw [h0]; decide), if_pos e]; exact ⟨rfl, e⟩
theorem not34 {l : List UInt8} {p : Nat} (h : (clsB 1).contains (l.getD p 0) = false) : ¬ l.getD p 0 = 34 := fun e => by
  have h2 : [34].contains (l.getD p 0) = false := h
  rw [e] at h2; exact absurd h2 (by decide)
theorem next_2 {l : List UInt8} {p : Nat} (hm : Missed (l.getD p 0) 2) (h : (clsB 2).contains (l.getD p 0) = true) : nextT l p = wordT l p := by
  have h0 : cMk.contains (l.getD p 0) = false := hm 0 (by decide)
  have h2 : cLe.contains (l.getD p 0) = true := h
  unfold nextT; rw [if_neg (by rw [h0]; decide), if_neg (not34 (hm 1 (by decide))), if_pos h2]
theorem next_3 {l : List UInt8} {p : Nat} (hm : Missed (l.getD p 0) 3) (h : (clsB 3).contains (l.getD p 0) = true) : nextT l p = numeralT l p := by
  have h0 : cMk.contains (l.getD p 0) = false := hm 0 (by decide)
  have h2 : cLe.contains (l.getD p 0) = false := hm 2 (by decide)
  have h3 : cDm.contains (l.getD p 0) = true := h
  unfold nextT; rw [if_neg (by rw [h0]; decide), if_neg (not34 (hm 1 (by decide))), if_neg (by rw [h2]; decide), if_pos h3]
theorem next_4 {l : List UInt8} {p : Nat} (hm : Missed (l.getD p 0) 4) : nextT l p = ⟨0, p, 0, [], 40⟩ := by
  have h0 : cMk.contains (l.getD p 0) = false := hm 0 (by decide)
  have h2 : cLe.contains (l.getD p 0) = false := hm 2 (by decide)
  have h3 : cDm.contains (l.getD p 0) = false := hm 3 (by decide)
  unfold nextT; rw [if_neg (by rw [h0]; decide), if_neg (not34 (hm 1 (by decide))), if_neg (by rw [h2]; decide), if_neg (by rw [h3]; decide)]
theorem Missed.up {c : UInt8} {k : Nat} (h : Missed c k) (hk : (clsB k).contains c = false) : Missed c (k + 1) := fun j hj => by
  rcases Nat.lt_or_ge j k with h1 | h1
  · exact h j h1
  · obtain rfl : j = k := by omega
    exact hk
theorem ix_no {k : List UInt8} {c : UInt8} (h : k.contains c = false) : Lib.indexByte k c < 0 := by
  have := indexB_has k c
  rw [h] at this
  have h2 : ¬ 0 ≤ Lib.indexByte k c := fun hx => by have := this.2 hx; cases this
  omega
theorem tok_at {l : List UInt8} {pre : List Tok} {p : Nat} (h : At l pre p) (hp : p < l.length) : (pre ++ [nextT l p] <+: allY l) ∧ ((nextT l p).err ≠ 0 → allY l = pre ++ [nextT l p]) ∧ ((nextT l p).err = 0 → (nextT l p).fin ≤ l.length ∧ At l (pre ++ [nextT l p]) (behL l (nextT l p).fin cBl) ∧ p < behL l (nextT l p).fin cBl) :=
  ⟨h.pre hp, h.fault hp, fun he => ⟨(nextT_up hp he).2, h.next hp he⟩⟩
theorem ixk_0 (u : World) : (Instr.index 115 (.agg #[.string ⟨#[123, 125, 91, 93, 58, 44]⟩, .func (.func 77) #[] #[], .string ⟨#[34]⟩, .func (.func 78) #[] #[], .string ⟨#[97, 98, 99, 100, 101, 102, 103, 104, 105, 106, 107, 108, 109, 110, 111, 112, 113, 114, 115, 116, 117, 118, 119, 120, 121, 122, 65, 66, 67, 68, 69, 70, 71, 72, 73, 74, 75, 76, 77, 78, 79, 80, 81, 82, 83, 84, 85, 86, 87, 88, 89, 90, 95]⟩, .func (.func 79) #[] #[], .string ⟨#[48, 49, 50, 51, 52, 53, 54, 55, 56, 57, 45]⟩, .func (.func 80) #[] #[]]) (.int .i64 0)).run Tryz.prog u = .ok (.agg #[.string ⟨#[123, 125, 91, 93, 58, 44]⟩, .func (.func 77) #[] #[]]) u := by kernel_rfl
theorem ixk_1 (u : World) : (Instr.index 115 (.agg #[.string ⟨#[123, 125, 91, 93, 58, 44]⟩, .func (.func 77) #[] #[], .string ⟨#[34]⟩, .func (.func 78) #[] #[], .string ⟨#[97, 98, 99, 100, 101, 102, 103, 104, 105, 106, 107, 108, 109, 110, 111, 112, 113, 114, 115, 116, 117, 118, 119, 120, 121, 122, 65, 66, 67, 68, 69, 70, 71, 72, 73, 74, 75, 76, 77, 78, 79, 80, 81, 82, 83, 84, 85, 86, 87, 88, 89, 90, 95]⟩, .func (.func 79) #[] #[], .string ⟨#[48, 49, 50, 51, 52, 53, 54, 55, 56, 57, 45]⟩, .func (.func 80) #[] #[]]) (.int .i64 1)).run Tryz.prog u = .ok (.agg #[.string ⟨#[34]⟩, .func (.func 78) #[] #[]]) u := by kernel_rfl
theorem ixk_2 (u : World) : (Instr.index 115 (.agg #[.string ⟨#[123, 125, 91, 93, 58, 44]⟩, .func (.func 77) #[] #[], .string ⟨#[34]⟩, .func (.func 78) #[] #[], .string ⟨#[97, 98, 99, 100, 101, 102, 103, 104, 105, 106, 107, 108, 109, 110, 111, 112, 113, 114, 115, 116, 117, 118, 119, 120, 121, 122, 65, 66, 67, 68, 69, 70, 71, 72, 73, 74, 75, 76, 77, 78, 79, 80, 81, 82, 83, 84, 85, 86, 87, 88, 89, 90, 95]⟩, .func (.func 79) #[] #[], .string ⟨#[48, 49, 50, 51, 52, 53, 54, 55, 56, 57, 45]⟩, .func (.func 80) #[] #[]]) (.int .i64 2)).run Tryz.prog u = .ok (.agg #[.string ⟨#[97, 98, 99, 100, 101, 102, 103, 104, 105, 106, 107, 108, 109, 110, 111, 112, 113, 114, 115, 116, 117, 118, 119, 120, 121, 122, 65, 66, 67, 68, 69, 70, 71, 72, 73, 74, 75, 76, 77, 78, 79, 80, 81, 82, 83, 84, 85, 86, 87, 88, 89, 90, 95]⟩, .func (.func 79) #[] #[]]) u := by kernel_rfl
theorem ixk_3 (u : World) : (Instr.index 115 (.agg #[.string ⟨#[123, 125, 91, 93, 58, 44]⟩, .func (.func 77) #[] #[], .string ⟨#[34]⟩, .func (.func 78) #[] #[], .string ⟨#[97, 98, 99, 100, 101, 102, 103, 104, 105, 106, 107, 108, 109, 110, 111, 112, 113, 114, 115, 116, 117, 118, 119, 120, 121, 122, 65, 66, 67, 68, 69, 70, 71, 72, 73, 74, 75, 76, 77, 78, 79, 80, 81, 82, 83, 84, 85, 86, 87, 88, 89, 90, 95]⟩, .func (.func 79) #[] #[], .string ⟨#[48, 49, 50, 51, 52, 53, 54, 55, 56, 57, 45]⟩, .func (.func 80) #[] #[]]) (.int .i64 3)).run Tryz.prog u = .ok (.agg #[.string ⟨#[48, 49, 50, 51, 52, 53, 54, 55, 56, 57, 45]⟩, .func (.func 80) #[] #[]]) u := by kernel_rfl
end Go.Proofs.YtfgfgcecbodjeaaGreatDoor
namespace Go.Proofs.YtfgfgcecbodjeaaGreatDoor
open Go.RowKit Go.Shelf
set_option linter.unusedVariables false
set_option linter.unusedSimpArgs false
attribute [local go_sem] Oper.semAt_some

set_option maxRecDepth 100000 in
set_option maxHeartbeats 800000 in
theorem w_Seq (s : ByteArray) (w : World) : Calls Tryz.prog 52 #[.string s] w fun e w' => e = .returned (.func (.func 63) #[.string s] #[]) ∧ w' = w := by
  go_enter Tryz.func52, Tryz.ntmps52
  go_wp2_with fail
  go_ret
  exact ⟨rfl, rfl⟩

end Go.Proofs.YtfgfgcecbodjeaaGreatDoor
namespace Go.Proofs.YtfgfgcecbodjeaaGreatDoor
open Go.RowKit Go.Shelf
set_option linter.unusedVariables false
set_option linter.unusedSimpArgs false
attribute [local go_sem] Oper.semAt_some

/-- tokens in a row -/
def TRow (w : World) (so : Option Addr) (l : List Tok) : Prop := ∀ i, (h : i < l.length) → ∃ g off, so = some ⟨g, off, none⟩ ∧ g < w.heap.size ∧ w.cell? ⟨g, off + i * 4, none⟩ = some (.int .i64 (l[i].kind : Int)) ∧ w.cell? ⟨g, off + i * 4 + 1, none⟩ = some (.int .i64 (l[i].at_ : Int)) ∧ w.cell? ⟨g, off + i * 4 + 2, none⟩ = some (.int .i64 (l[i].fin : Int)) ∧ w.cell? ⟨g, off + i * 4 + 3, none⟩ = some (.string ⟨l[i].text.toArray⟩)
theorem TRow.keep {w w' : World} {so : Option Addr} {l : List Tok} (h : TRow w so l) (hb : Below w.heap.size w w') : TRow w' so l := fun i hi => by
  obtain ⟨g, off, e, hg, a0, a1, a2, a3⟩ := h i hi
  exact ⟨g, off, e, Nat.lt_of_lt_of_le hg hb.size, (hb.cell (p := ⟨_, _, _⟩) hg).trans a0, (hb.cell (p := ⟨_, _, _⟩) hg).trans a1, (hb.cell (p := ⟨_, _, _⟩) hg).trans a2, (hb.cell (p := ⟨_, _, _⟩) hg).trans a3⟩
end Go.Proofs.YtfgfgcecbodjeaaGreatDoor
namespace Go.Proofs.YtfgfgcecbodjeaaGreatDoor
open Go.RowKit Go.Shelf
set_option linter.unusedVariables false
set_option linter.unusedSimpArgs false

theorem nextT_at {l : List UInt8} {p : Nat} (h : (nextT l p).err = 0) : (nextT l p).at_ = p := by
  unfold nextT at h ⊢
  split
  · rfl
  · next h1 =>
    rw [if_neg h1] at h
    split
    · next h2 =>
      rw [if_pos h2] at h
      unfold litT at h ⊢
      split
      · rfl
      · next h3 => rw [if_neg h3] at h; exact absurd h h3
    · next h2 =>
      rw [if_neg h2] at h
      split
      · unfold wordT
        split
        · rfl
        · split
          · rfl
          · split <;> rfl
      · split
        · unfold numeralT
          split <;> rfl
        · rfl

/-- each token's place is behind the blanks that follow the last one -/
def Good (l : List UInt8) : Nat → List Tok → Prop
  | a, [] => behL l a cBl = l.length
  | a, t :: r => t.at_ = behL l a cBl ∧ t.at_ < t.fin ∧ t.fin ≤ l.length ∧ Good l t.fin r
end Go.Proofs.YtfgfgcecbodjeaaGreatDoor
namespace Go.Proofs.YtfgfgcecbodjeaaGreatDoor
open Go.RowKit
set_option linter.unusedVariables false
set_option linter.unusedSimpArgs false

/-- what a run leaves, where more follows that does not belong to it -/
theorem dropWhile_app (p : UInt8 → Bool) (c : UInt8) (y : List UInt8) (hc : p c = false) : ∀ x : List UInt8, ((x ++ c :: y).dropWhile p).length = (x.dropWhile p).length + (c :: y).length := by
  intro x
  induction x with
  | nil => rw [List.nil_append, List.dropWhile_cons, if_neg (by rw [hc]; decide)]; simp
  | cons a x ih =>
    rw [List.cons_append, List.dropWhile_cons, List.dropWhile_cons]
    split
    · exact ih
    · simp; omega
theorem behL_app {a b : List UInt8} {c : UInt8} {p : Nat} {cs : List UInt8} (hp : p ≤ a.length) (hc : cs.contains c = false) : behL (a ++ c :: b) p cs = behL a p cs := by
  unfold behL
  rw [List.drop_append_of_le_length hp, dropWhile_app (cs.contains ·) c b hc]
  have := dropWhile_le (cs.contains ·) (a.drop p)
  rw [List.length_drop] at this
  simp
  omega
theorem cut_app {a b : List UInt8} {p q : Nat} (hq : q ≤ a.length) : cut (a ++ b) p q = cut a p q := by
  unfold cut
  by_cases h : p ≤ a.length
  · rw [List.drop_append_of_le_length h, List.take_append_of_le_length (by rw [List.length_drop]; omega)]
  · rw [show q - p = 0 by omega]; simp
theorem getD_app {a b : List UInt8} {p : Nat} (hp : p < a.length) : (a ++ b).getD p 0 = a.getD p 0 := by
  rw [List.getD, List.getD, List.getElem?_append_left hp]
theorem wordT_app {a b : List UInt8} {p : Nat} (hp : p < a.length) : wordT (a ++ 10 :: b) p = wordT a p := by
  have hb := behL_app (a := a) (b := b) (c := 10) (p := p) (cs := cWd) (by omega) (by decide +kernel)
  have hl := (behL_ge (l := a) (p := p) cWd (by omega)).2
  unfold wordT
  rw [hb, cut_app hl]
/-- the same, further on -/
theorem drop_pre {x b : List UInt8} {p : Nat} : (x ++ b).drop (x.length + p) = b.drop p := by
  rw [← List.drop_drop]; simp
theorem behL_pre {x b : List UInt8} {p : Nat} {cs : List UInt8} (hp : p ≤ b.length) : behL (x ++ b) (x.length + p) cs = x.length + behL b p cs := by
  unfold behL
  rw [drop_pre, List.length_append]
  have := dropWhile_le (cs.contains ·) (b.drop p)
  rw [List.length_drop] at this
  omega
theorem cut_pre {x b : List UInt8} {p q : Nat} : cut (x ++ b) (x.length + p) (x.length + q) = cut b p q := by
  unfold cut
  rw [drop_pre, show x.length + q - (x.length + p) = q - p by omega]
theorem getD_pre {x b : List UInt8} {p : Nat} : (x ++ b).getD (x.length + p) 0 = b.getD p 0 := by
  rw [List.getD, List.getD, List.getElem?_append_right (by omega), show x.length + p - x.length = p by omega]
/-- a token further on; a fault's place alone -/
def shiftT (m : Nat) (t : Tok) : Tok := if t.err = 0 then ⟨t.kind, m + t.at_, m + t.fin, t.text, 0⟩ else ⟨t.kind, m + t.at_, t.fin, t.text, t.err⟩
theorem wordT_pre {x b : List UInt8} {p : Nat} (hp : p < b.length) : wordT (x ++ b) (x.length + p) = shiftT x.length (wordT b p) := by
  unfold wordT
  rw [behL_pre (by omega), cut_pre]
  split
  · rfl
  · split
    · rfl
    · split <;> rfl
theorem numeralT_pre {x b : List UInt8} {p : Nat} (hp : p < b.length) : numeralT (x ++ b) (x.length + p) = shiftT x.length (numeralT b p) := by
  unfold numeralT
  rw [behL_pre (by omega), cut_pre]
  split <;> rfl
end Go.Proofs.YtfgfgcecbodjeaaGreatDoor
