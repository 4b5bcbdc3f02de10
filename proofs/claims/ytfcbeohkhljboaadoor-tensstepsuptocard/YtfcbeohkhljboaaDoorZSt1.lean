import Derived.RangeFuncNested
import Derived.RangeFuncBound
import Derived.RangeFuncCalls
import Derived.RangeFuncLeaves
import Derived.Shelf.Abstract
import Derived.Shelf.RegionOpen
import Derived.WalkKit
import Derived.OwnWalkIn
import Derived.TacticsInMore
import Derived.LoopNIn
import Derived.LoopIn
import Derived.Test.YtfcbeohkhljboaaDoorM38
import Derived.Test.YtfcbeohkhljboaaDoorZWalk4
namespace Go.Proofs.YtfcbeohkhljboaaDoor
open Go.RowKit Go.Shelf
set_option linter.unusedVariables false
set_option linter.unusedSimpArgs false

/-! The steps: whether one more is made, and how many are left. -/
def StOn (t b x : Int) : Prop := (0 < b ∧ x < t) ∨ (b < 0 ∧ t < x)

theorem StOn.cmp {t b x : Int} (hb : b ≠ 0) : Pl.cmpI x t = -Pl.cmpI b 0 ↔ StOn t b x := by
  unfold Pl.cmpI StOn
  split <;> split <;> (try split) <;> (try split) <;> constructor <;> intro k <;> omega

theorem st_mul_le {b : Int} {j k : Nat} (hb : 0 ≤ b) (h : j ≤ k) : (j : Int) * b ≤ (k : Int) * b := Int.mul_le_mul_of_nonneg_right (by omega) hb
theorem st_mul_ge {b : Int} {j k : Nat} (hb : b ≤ 0) (h : j ≤ k) : (k : Int) * b ≤ (j : Int) * b := Int.mul_le_mul_of_nonpos_right (by omega) hb

theorem StOn.mono {f t b : Int} {j k : Nat} (h : StOn t b (f + (k : Int) * b)) (hj : j ≤ k) : StOn t b (f + (j : Int) * b) := by
  rcases h with ⟨h1, h2⟩ | ⟨h1, h2⟩
  · have := st_mul_le (b := b) (by omega) hj
    exact .inl ⟨h1, by omega⟩
  · have := st_mul_ge (b := b) (by omega) hj
    exact .inr ⟨h1, by omega⟩

def stLeft (t b x : Int) : Nat := if 0 < b then (t - x).toNat else (x - t).toNat

theorem StOn.left {t b x : Int} (h : StOn t b x) : stLeft t b (x + b) < stLeft t b x := by
  unfold stLeft
  rcases h with ⟨h1, h2⟩ | ⟨h1, h2⟩
  · rw [if_pos h1, if_pos h1]; omega
  · rw [if_neg (by omega), if_neg (by omega)]; omega

theorem StOn.bound {f t b x : Int} {k : Nat} (hx : x = f + (k : Int) * b) (h : StOn t b x) : (x + b).natAbs ≤ f.natAbs + t.natAbs + b.natAbs := by
  rcases h with ⟨h1, h2⟩ | ⟨h1, h2⟩
  · have := st_mul_le (b := b) (j := 0) (k := k) (by omega) (by omega)
    simp at this
    omega
  · have := st_mul_ge (b := b) (j := 0) (k := k) (by omega) (by omega)
    simp at this
    omega

/-- what has come is what is asked for -/
def StGood (f b : Int) (pre : List ByteArray) : Prop := ∀ (i : Nat) (s : ByteArray), pre[i]? = some s → Pl.formed s.data.toList = true ∧ Pl.ival s.data.toList = f + (i : Int) * b

theorem StGood.nil {f b : Int} : StGood f b [] := fun i s h => by simp at h
theorem StGood.snoc {f b : Int} {pre : List ByteArray} {x : ByteArray} (h : StGood f b pre) (hf : Pl.formed x.data.toList = true) (hv : Pl.ival x.data.toList = f + (pre.length : Int) * b) : StGood f b (pre ++ [x]) := by
  intro i s hs
  rcases Nat.lt_or_ge i pre.length with hi | hi
  · rw [List.getElem?_append_left hi] at hs; exact h i s hs
  · rw [List.getElem?_append_right hi] at hs
    rcases Nat.eq_or_lt_of_le hi with e | e
    · subst e; simp at hs; subst hs; exact ⟨hf, hv⟩
    · rw [List.getElem?_eq_none (by simp; omega)] at hs; cases hs
theorem StGood.last {f b : Int} {pre : List ByteArray} {x : ByteArray} (h : StGood f b (pre ++ [x])) : Pl.formed x.data.toList = true ∧ Pl.ival x.data.toList = f + (pre.length : Int) * b := h pre.length x (by simp)
theorem StGood.front {f b : Int} {pre : List ByteArray} {x : ByteArray} (h : StGood f b (pre ++ [x])) : StGood f b pre := fun i s hs => by
  have hi : i < pre.length := by
    rcases Nat.lt_or_ge i pre.length with g | g
    · exact g
    · rw [List.getElem?_eq_none g] at hs; cases hs
  exact h i s (by rw [List.getElem?_append_left hi]; exact hs)

theorem st_CmpF (a b : ByteArray) (w : World) (ha : a.size ≤ 4294967296) (hb : b.size ≤ 4294967296) (fa : Pl.formed a.data.toList = true) (fb : Pl.formed b.data.toList = true) :
    Calls Tryd.prog 66 #[.string a, .string b] w fun e w' => e = .returned (.tuple #[.int .i64 (Pl.cmpI (Pl.ival a.data.toList) (Pl.ival b.data.toList)), .int .i64 0]) ∧ Below w.heap.size w w' := by
  refine (w_Cmp a b w (by unfold maxLen; omega) (by unfold maxLen; omega)).mono ?_
  rintro e w' ⟨rfl, h⟩
  refine ⟨?_, h⟩
  rw [Pl.cmpN_val fa fb]
  unfold Pl.errN
  rw [fa, fb]; rfl

theorem st_formed_size {s : ByteArray} (h : Pl.formed s.data.toList = true) : 0 < s.size := by
  have h2 : s.data.toList.length = s.size := Array.length_toList
  rcases Nat.eq_zero_or_pos s.size with h0 | h0
  · have : s.data.toList = [] := List.eq_nil_of_length_eq_zero (by omega)
    rw [this] at h; simp [Pl.formed, Pl.body, Pl.neg, Pl.plainB] at h
  · exact h0

theorem st_ival_lt {s : ByteArray} (h : Pl.formed s.data.toList = true) : (Pl.ival s.data.toList).natAbs < 10 ^ s.size := by
  rw [natAbs_ival]
  exact Nat.lt_of_lt_of_le (Pl.dvl_lt _ (formed_digs h)) (Nat.pow_le_pow_right (by decide) (body_size s))

/-- a text between them is hardly longer than they -/
theorem st_size {f t b x : ByteArray} {L : Nat} (sf : f.size ≤ L) (st : t.size ≤ L) (sb : b.size ≤ L) (ff : Pl.formed f.data.toList = true) (ft : Pl.formed t.data.toList = true) (fb : Pl.formed b.data.toList = true) (fx : Pl.formed x.data.toList = true)
    (h : (Pl.ival x.data.toList).natAbs ≤ (Pl.ival f.data.toList).natAbs + (Pl.ival t.data.toList).natAbs + (Pl.ival b.data.toList).natAbs) : x.size ≤ L + 2 := by
  have h1 := Nat.lt_of_lt_of_le (st_ival_lt ff) (Nat.pow_le_pow_right (by decide : 0 < 10) sf)
  have h2 := Nat.lt_of_lt_of_le (st_ival_lt ft) (Nat.pow_le_pow_right (by decide : 0 < 10) st)
  have h3 := Nat.lt_of_lt_of_le (st_ival_lt fb) (Nat.pow_le_pow_right (by decide : 0 < 10) sb)
  refine text_size (K := L + 1) fx ?_ (by omega)
  rw [Nat.pow_succ]; omega

theorem st_text {p q : ByteArray} (hp : Pl.formed p.data.toList = true) (hq : Pl.formed q.data.toList = true) (h : Pl.ival p.data.toList = Pl.ival q.data.toList) : p = q := by
  have := ival_inj hp hq h
  cases p; cases q; congr 1; exact Array.toList_inj.1 this

/-- Below from here is a step of one's own -/
theorem grown_of_below {w w' : World} (h : Below w.heap.size w w') : w.grownBy w' none := ⟨h.os, h.tape, h.output, h.size, fun k hk _ => h.block k hk⟩
theorem abides_below {β : Type} {B : Nat} {J : β → World → Prop} (hJ : AbidesFrom B J) {s : β} {w w' : World} (h : J s w) (hb : Below w.heap.size w w') : J s w' := hJ s w w' none h (grown_of_below hb) (fun r e => by cases e)
end Go.Proofs.YtfcbeohkhljboaaDoor
