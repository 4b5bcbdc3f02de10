import Derived.Test.YtfcbeohkhljboaaDoorM3
import Derived.WalkSmall
import Derived.Test.YtfcbeohkhljboaaDoorM10
namespace Go.Proofs.YtfcbeohkhljboaaDoor
open Go.RowKit
set_option linter.unusedVariables false
set_option linter.unusedSimpArgs false

/-- block g is a row that opens with the numbers xs (what stands behind them is spare) -/
def Row (w : World) (g : Nat) (xs : List Nat) : Prop := ∃ tail : List Value, w.heap[g]? = some (.cells (vals .u64 xs ++ tail).toArray 76 (0, 0))

theorem Row.lt {w : World} {g : Nat} {xs : List Nat} (h : Row w g xs) : g < w.heap.size := by
  obtain ⟨tail, h⟩ := h
  exact (Array.getElem?_eq_some_iff.1 h).1

theorem Row.cell {w : World} {g : Nat} {xs : List Nat} (h : Row w g xs) (i : Nat) (hi : i < xs.length) : w.cell? ⟨g, i, none⟩ = some (.int .u64 ((xs.getD i 0 : Nat) : Int)) := by
  obtain ⟨tail, h⟩ := h
  rw [cell_of_row w g i _ _ _ h]
  have := vals_get .u64 xs i hi
  rw [List.getElem?_toArray, List.getElem?_append_left (by rw [vals_len]; exact hi)]
  exact this

theorem Row.free {w : World} {g : Nat} {xs : List Nat} (h : Row w g xs) (i : Nat) : w.frozen? ⟨g, i, none⟩ = false := by
  obtain ⟨tail, h⟩ := h
  exact frozen_of_row w g i _ _ h

theorem Row.set {w : World} {g : Nat} {xs : List Nat} (h : Row w g xs) (i x : Nat) (hi : i < xs.length) : Row (w.setCell ⟨g, i, none⟩ (.int .u64 (x : Int))) g (xs.set i x) := by
  obtain ⟨tail, h⟩ := h
  refine ⟨tail, ?_⟩
  rw [heap_setCell_same w g i _ _ _ h]
  have e : (vals .u64 xs ++ tail).toArray.setIfInBounds i (.int .u64 (x : Int)) = (vals .u64 (xs.set i x) ++ tail).toArray := by
    rw [List.setIfInBounds_toArray, List.set_append_left _ _ (by rw [vals_len]; exact hi)]
    simp [vals, List.map_set]
  rw [e]

theorem Row.keep {w w' : World} {g : Nat} {xs : List Nat} (h : Row w g xs) (hb : Below w.heap.size w w') : Row w' g xs := by
  have hl := h.lt
  obtain ⟨tail, h⟩ := h
  exact ⟨tail, by rw [hb.block g hl]; exact h⟩

theorem Row.drew {w : World} {g : Nat} {xs : List Nat} (h : Row w g xs) : Row w.drew g xs := h

/-- a piece of a row reads as its numbers -/
theorem Row.nums {w : World} {g : Nat} {xs pre ys post : List Nat} (h : Row w g xs) (hx : xs = pre ++ ys ++ post) {o n cap : Nat} (ho : pre.length = o) (hn : ys.length = n) (hc : n ≤ cap) : Nums .u64 w (.slice (some ⟨g, o, none⟩) n cap) ys := by
  refine Nums.mk hn hc h.lt (fun i hi => ?_)
  rw [h.cell (o + i) (by rw [hx]; simp; omega)]
  subst hx ho
  rw [List.append_assoc, List.getD_eq_getElem?_getD, List.getElem?_append_right (by omega), Nat.add_sub_cancel_left, List.getElem?_append_left (by omega), List.getD_eq_getElem?_getD]

/-- of another block than g nothing has turned -/
theorem Nums.off {k : IntKind} {w w' : World} {v : Value} {xs : List Nat} {g : Nat} (h : Nums k w v xs) (hv : v.ownBlock ≠ some g) (hg : w.grownBy w' (some g)) : Nums k w' v xs := by
  obtain ⟨ao, cap, rfl, hc, hk, hr⟩ := h
  refine ⟨ao, cap, rfl, hc, fun a e => Nat.lt_of_lt_of_le (hk a e) hg.size, fun hn => ?_⟩
  obtain ⟨b, off, rfl, hlt, hcell⟩ := hr hn
  refine ⟨b, off, rfl, Nat.lt_of_lt_of_le hlt hg.size, fun i hi => ?_⟩
  rw [hg.cell_far ⟨b, off + i, none⟩ hlt (by simpa [Value.ownBlock] using hv)]
  exact hcell i hi

theorem grown_refl (w : World) (r : Option Nat) : w.grownBy w r := ⟨rfl, rfl, rfl, Nat.le_refl _, fun _ _ _ => rfl⟩
theorem grown_trans {a b c : World} {r : Option Nat} (h : a.grownBy b r) (k : b.grownBy c r) : a.grownBy c r :=
  ⟨k.os.trans h.os, k.tape.trans h.tape, k.output.trans h.output, Nat.le_trans h.size k.size, fun i hi hr => (k.block i (Nat.lt_of_lt_of_le hi h.size) hr).trans (h.block i hi hr)⟩
theorem grown_set (w : World) (g i : Nat) (v : Value) : w.grownBy (w.setCell ⟨g, i, none⟩ v) (some g) :=
  ⟨rfl, rfl, rfl, by simp, fun k _ hk => heap_setCell_other w ⟨g, i, none⟩ k v (fun e => hk (by rw [e]))⟩
theorem grown_drew (w : World) (r : Option Nat) : w.grownBy w.drew r := ⟨rfl, rfl, rfl, Nat.le_refl _, fun _ _ _ => rfl⟩
theorem grown_drewN (w : World) (n : Nat) (r : Option Nat) : w.grownBy (w.drewN n) r := ⟨rfl, rfl, rfl, Nat.le_refl _, fun _ _ _ => rfl⟩
theorem grown_below {w w' : World} {r : Option Nat} (h : Below w.heap.size w w') : w.grownBy w' r := ⟨h.os, h.tape, h.output, h.size, fun k hk _ => h.block k hk⟩
theorem below_grown {B : Nat} {w w' : World} {g : Nat} (h : w.grownBy w' (some g)) (hB : B ≤ g) (hw : B ≤ w.heap.size) : Below B w w' := ⟨h.os, h.tape, h.output, h.size, fun k hk => h.block k (by omega) (by simp; omega)⟩
theorem Row.off {w w' : World} {g g' : Nat} {xs : List Nat} (h : Row w g' xs) (hg : w.grownBy w' (some g)) (hne : g' ≠ g) : Row w' g' xs := by
  have hl := h.lt
  obtain ⟨tail, h⟩ := h
  exact ⟨tail, by rw [hg.block g' hl (by simpa using hne)]; exact h⟩

end Go.Proofs.YtfcbeohkhljboaaDoor
