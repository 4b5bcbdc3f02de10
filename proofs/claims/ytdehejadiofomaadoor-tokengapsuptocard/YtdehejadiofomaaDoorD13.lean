import Derived.Test.YtdehejadiofomaaDoorD11
namespace Go.Proofs.YtdehejadiofomaaDoor
open Go.RowKit
set_option linter.unusedVariables false
set_option linter.unusedSimpArgs false

/-- what a run leaves, where more follows that does not belong to it -/
theorem dropWhile_app (p : UInt8 → Bool) (c : UInt8) (y : List UInt8) (hc : p c = false) : ∀ x : List UInt8, ((x ++ c :: y).dropWhile p).length = (x.dropWhile p).length + (c :: y).length := by
  intro x
  induction x with
  | nil => rw [List.nil_append, List.dropWhile_cons, if_neg (by rw [hc]; decide)]; simp
  | cons a x ih =>
    rw [List.cons_append, List.dropWhile_cons, List.dropWhile_cons]
    split
    · exact ih
    · simp; omega
theorem behL_app {a b : List UInt8} {c : UInt8} {p : Nat} {cs : List UInt8} (hp : p ≤ a.length) (hc : cs.contains c = false) : behL (a ++ c :: b) p cs = behL a p cs := by
  unfold behL
  rw [List.drop_append_of_le_length hp, dropWhile_app (cs.contains ·) c b hc]
  have := dropWhile_le (cs.contains ·) (a.drop p)
  rw [List.length_drop] at this
  simp
  omega
theorem cut_app {a b : List UInt8} {p q : Nat} (hq : q ≤ a.length) : cut (a ++ b) p q = cut a p q := by
  unfold cut
  by_cases h : p ≤ a.length
  · rw [List.drop_append_of_le_length h, List.take_append_of_le_length (by rw [List.length_drop]; omega)]
  · rw [show q - p = 0 by omega]; simp
theorem getD_app {a b : List UInt8} {p : Nat} (hp : p < a.length) : (a ++ b).getD p 0 = a.getD p 0 := by
  rw [List.getD, List.getD, List.getElem?_append_left hp]
theorem wordT_app {a b : List UInt8} {p : Nat} (hp : p < a.length) : wordT (a ++ 10 :: b) p = wordT a p := by
  have hb := behL_app (a := a) (b := b) (c := 10) (p := p) (cs := cWd) (by omega) (by decide +kernel)
  have hl := (behL_ge (l := a) (p := p) cWd (by omega)).2
  unfold wordT
  rw [hb, cut_app hl]
theorem numeralT_app {a b : List UInt8} {p : Nat} (hp : p < a.length) : numeralT (a ++ 10 :: b) p = numeralT a p := by
  have hb := behL_app (a := a) (b := b) (c := 10) (p := p) (cs := cNm) (by omega) (by decide +kernel)
  have hl := (behL_ge (l := a) (p := p) cNm (by omega)).2
  unfold numeralT
  rw [hb, cut_app hl]

/-- the same, further on -/
theorem drop_pre {x b : List UInt8} {p : Nat} : (x ++ b).drop (x.length + p) = b.drop p := by
  rw [← List.drop_drop]; simp
theorem behL_pre {x b : List UInt8} {p : Nat} {cs : List UInt8} (hp : p ≤ b.length) : behL (x ++ b) (x.length + p) cs = x.length + behL b p cs := by
  unfold behL
  rw [drop_pre, List.length_append]
  have := dropWhile_le (cs.contains ·) (b.drop p)
  rw [List.length_drop] at this
  omega
theorem cut_pre {x b : List UInt8} {p q : Nat} : cut (x ++ b) (x.length + p) (x.length + q) = cut b p q := by
  unfold cut
  rw [drop_pre, show x.length + q - (x.length + p) = q - p by omega]
theorem getD_pre {x b : List UInt8} {p : Nat} : (x ++ b).getD (x.length + p) 0 = b.getD p 0 := by
  rw [List.getD, List.getD, List.getElem?_append_right (by omega), show x.length + p - x.length = p by omega]
/-- a token further on; a fault's place alone -/
def shiftT (m : Nat) (t : Tok) : Tok := if t.err = 0 then ⟨t.kind, m + t.at_, m + t.fin, t.text, 0⟩ else ⟨t.kind, m + t.at_, t.fin, t.text, t.err⟩
theorem wordT_pre {x b : List UInt8} {p : Nat} (hp : p < b.length) : wordT (x ++ b) (x.length + p) = shiftT x.length (wordT b p) := by
  unfold wordT
  rw [behL_pre (by omega), cut_pre]
  split
  · rfl
  · split
    · rfl
    · split <;> rfl
theorem numeralT_pre {x b : List UInt8} {p : Nat} (hp : p < b.length) : numeralT (x ++ b) (x.length + p) = shiftT x.length (numeralT b p) := by
  unfold numeralT
  rw [behL_pre (by omega), cut_pre]
  split <;> rfl
end Go.Proofs.YtdehejadiofomaaDoor
