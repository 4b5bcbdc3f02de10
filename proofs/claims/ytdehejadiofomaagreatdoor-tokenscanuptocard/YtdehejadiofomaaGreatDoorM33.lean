import Derived.Test.YtdehejadiofomaaGreatDoorM31
namespace Go.Proofs.YtdehejadiofomaaGreatDoor
open Go.RowKit
set_option linter.unusedVariables false
set_option linter.unusedSimpArgs false

theorem Tryz.infoP : (Tryz.prog.info? 171).map (fun i => (i.zero, i.size, i.bytes)) = some (some (.agg #[.int .i64 0, .int .i64 0, .int .i64 0, .bool false]), 4, 32) := by kernel_rfl

theorem sizeL (s : ByteArray) : s.data.toList.length = s.size := by rw [Array.length_toList]; rfl
/-- the cells of the reference's piece -/
def pcC (s : ByteArray) (f : Nat) : List Value := [.int .i64 (f : Int), .int .i64 ((f + (decL (s.data.toList.drop f)).2 : Nat) : Int), .int .i64 ((decL (s.data.toList.drop f)).1 : Int), .bool (strayL (s.data.toList.drop f))]
def prow (s : ByteArray) (n : Nat) : List Value := (List.range n).flatMap fun k => pcC s (off s.data.toList k)
theorem prow_up (s : ByteArray) (n : Nat) : prow s (n + 1) = prow s n ++ pcC s (off s.data.toList n) := by unfold prow; rw [List.range_succ, List.flatMap_append]; simp

theorem new4q (w1 : World) (o : Obj) (a b c d : Value) : ∀ (j : Nat) (u : Value), ([a, b, c, d] : List Value)[j]? = some u → ((w1.alloc o).alloc (.cells #[a, b, c, d] 171)).cell? ((⟨w1.heap.size + 1, 0, none⟩ : Addr).add j) = some u := by
  intro j u hj
  have h := heap_alloc_new (w1.alloc o) (.cells #[a, b, c, d] 171)
  rw [World.size_alloc] at h
  have e : (⟨w1.heap.size + 1, 0, none⟩ : Addr).add j = ⟨w1.heap.size + 1, j, none⟩ := by
    unfold Addr.add; by_cases h0 : j = 0 <;> simp [h0]
  rw [e, cell_of_row _ _ _ _ _ _ h]
  match j, hj with
  | 0, hj => exact hj
  | 1, hj => exact hj
  | 2, hj => exact hj
  | 3, hj => exact hj
  | j + 4, hj => simp at hj
theorem kept4 {w1 w4 : World} {B n : Nat} {e ty : TypeId} {size : Nat} {v : Value} {xs : List Value} {a b c d : Value} {o : Obj} (hown : w1.ownsRow B e size v n xs) (hg : ((w1.alloc (.cells #[a, b, c, d] ty)).alloc o).grownBy w4 v.ownBlock) : w4.cell? ⟨w1.heap.size, 1, none⟩ = some b := by
  have hne : some w1.heap.size ≠ v.ownBlock := by
    rcases hown.2 with ⟨rfl, _⟩ | ⟨g, cap, cur, rfl, _, hb, _⟩
    · simp [Value.ownBlock]
    · have := (Array.getElem?_eq_some_iff.1 hb).1
      simp [Value.ownBlock]; omega
  have h := hg.block w1.heap.size (by simp; omega) hne
  rw [Below.heap_alloc _ _ _ (by simp), heap_alloc_new] at h
  rw [cell_of_row _ _ _ _ _ _ h]; rfl

structure PcSt (s : ByteArray) (w wr : World) (v : Value) (j pos : Nat) : Prop where
  own : wr.ownsRow w.heap.size 171 4 v j (prow s j)
  at_ : pos = off s.data.toList j
  few : j ≤ (runes s.data.toList).length
  below : Below w.heap.size w wr
end Go.Proofs.YtdehejadiofomaaGreatDoor
