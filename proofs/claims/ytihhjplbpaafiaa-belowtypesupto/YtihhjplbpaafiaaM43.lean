import Derived.Test.YtihhjplbpaafiaaM34
import Derived.Test.YtihhjplbpaafiaaM40
import Derived.Test.YtihhjplbpaafiaaM41
import Derived.Test.YtihhjplbpaafiaaM42
import Derived.Laws.EntriesVeiled
import Derived.Test.YtihhjplbpaafiaaM36
namespace Go.Proofs.Ytihhjplbpaafiaa
open Go.RowKit Go.Shelf Go.Sort
set_option linter.unusedVariables false
set_option linter.unusedSimpArgs false
attribute [local go_sem] Oper.semAt_some

theorem bnd_bd (s : ByteArray) : bndB s = bdB s := by
  unfold bndB bdB
  congr 1
  rw [Lib.toList_data, Bool.eq_iff_iff, List.isEmpty_iff, beq_iff_eq]
  constructor
  · intro h; exact List.eq_nil_of_length_eq_zero (by rw [Array.length_toList]; exact h)
  · intro h
    have := congrArg List.length h
    rw [Array.length_toList] at this
    exact this
theorem sp_one {l : List (ByteArray × ByteArray)} (h : spB l = true) : l = [] ∨ ∃ p, l = [p] ∧ bdB p.1 = true ∧ bdB p.2 = true := by
  match l, h with
  | [], _ => exact .inl rfl
  | [p], h =>
    have h' : spOk p = true := h
    unfold spOk at h'
    rw [Bool.and_eq_true, Bool.and_eq_true] at h'
    exact .inr ⟨p, rfl, by rw [← bnd_bd]; exact h'.1, by rw [← bnd_bd]; exact h'.2.1⟩
theorem ar_one {f : TT → Bool} {l : List AR} (h : arB f l = true) : l = [] ∨ ∃ a, l = [a] ∧ f a.item = true := by
  match l, h with
  | [], _ => exact .inl rfl
  | [a], h =>
    have h' : arOk f a = true := h
    unfold arOk at h'
    rw [Bool.and_eq_true, Bool.and_eq_true] at h'
    exact .inr ⟨a, rfl, h'.2.1⟩
section
variable (h : Nat) (A B : TT) (ba oa bb ob : Nat) (no : Option Addr) (nc : Nat) (xo : Option Addr) (xc : Nat) (ao : Option Addr) (ac : Nat) (oo : Option Addr) (oc : Nat) (no2 : Option Addr) (nc2 : Nat) (xo2 : Option Addr) (xc2 : Nat) (ao2 : Option Addr) (ac2 : Nat) (oo2 : Option Addr) (oc2 : Nat) (w : World)
    (hA : OpT w h A ba oa no nc xo xc ao ac oo oc) (hB : OpT w h B bb ob no2 nc2 xo2 xc2 ao2 ac2 oo2 oc2)
include hA hB
theorem w_flagsLie : Calls Try.prog 55 #[.agg #[.pointer (some ⟨ba, oa, none⟩), .pointer (some ⟨bb, ob, none⟩)]] w fun e w' => e = .returned (.bool (flL A B)) ∧ Below w.heap.size w w' :=
  flags_lie ba oa bb ob w hA.lt hB.lt _ _ _ _ _ _ hA.d1 hA.d2 hA.d3 hB.d1 hB.d2 hB.d3
theorem w_numsLie (fa : spB A.nums = true) (fb : spB B.nums = true) : Calls Try.prog 56 #[.agg #[.pointer (some ⟨ba, oa, none⟩), .pointer (some ⟨bb, ob, none⟩)]] w fun e w' => e = .returned (.bool (spL A.nums B.nums)) ∧ Below w.heap.size w w' := by
  have x4 := hA.d4
  have y4 := hB.d4
  have za := hA.zn
  have zb := hB.zn
  rcases sp_one fa with ea | ⟨p, ea, a1, a2⟩
  · rw [ea] at x4 ⊢
    exact nums_lie_none ba oa bb ob w hA.lt _ _ x4
  · rcases sp_one fb with eb | ⟨q, eb, b1, b2⟩
    · rw [ea] at x4 ⊢
      rw [eb] at y4 ⊢
      exact nums_lie_out ba oa bb ob w hA.lt hB.lt _ _ _ _ _ (by simp) x4 y4
    · obtain ⟨sb, so, es, ls, hs⟩ := hA.sp.row (by rw [ea]; simp)
      obtain ⟨qb, qo, eq, lq, hq⟩ := hB.sp.row (by rw [eb]; simp)
      have k1 := hs 0 (by rw [ea]; simp)
      have k2 := hq 0 (by rw [eb]; simp)
      simp only [ea, List.getElem_cons_zero, Nat.zero_mul, Nat.add_zero] at k1
      simp only [eb, List.getElem_cons_zero, Nat.zero_mul, Nat.add_zero] at k2
      rw [ea, es] at x4
      rw [eb, eq] at y4
      have z1 := za p (by rw [ea]; exact List.mem_singleton.2 rfl)
      have z2 := zb q (by rw [eb]; exact List.mem_singleton.2 rfl)
      rw [ea, eb]
      show Calls _ _ _ _ fun e w' => e = .returned (.bool (inS p.1 p.2 q.1 q.2)) ∧ _
      rw [← inS_prog a1 a2 b1 b2]
      exact nums_lie_both ba oa bb ob w hA.lt hB.lt sb so qb qo _ _ _ _ (by simp) (by simp) ls lq _ _ _ _ _ x4 y4 k1.1 k1.2 k2.1 k2.2 (Hid.mk fun u => w_bSpan _ _ _ _ u z1.1 z1.2 z2.1 z2.2)
theorem w_textsLie (fb : rK B.texts B.texts.length = true) : Calls Try.prog 57 #[.agg #[.pointer (some ⟨ba, oa, none⟩), .pointer (some ⟨bb, ob, none⟩)]] w fun e w' => e = .returned (.bool (txL A B)) ∧ Below w.heap.size w w' :=
  texts_lie ba oa bb ob w hA.lt hB.lt A.any B.any xo _ xc xo2 _ xc2 A.texts B.texts hA.d5 hA.d6 hB.d5 hB.d6 hA.tx hB.tx rfl rfl hA.caps.2.1 hB.caps.2.1 hA.lens.2.1 hB.lens.2.1 fb
theorem w_arraysLie (ih : 0 < B.arrs.length → LsOk h) (fa : arB (fmN h) A.arrs = true) (fb : arB (fmN h) B.arrs = true) : Calls Try.prog 58 #[.agg #[.pointer (some ⟨ba, oa, none⟩), .pointer (some ⟨bb, ob, none⟩)]] w fun e w' => e = .returned (.bool (arL (bwN h) A.arrs B.arrs)) ∧ Below w.heap.size w w' := by
  have x7 := hA.d7
  have y7 := hB.d7
  rcases ar_one fa with ea | ⟨x, ea, a1⟩
  · rw [ea] at x7 ⊢
    exact arrs_lie_none ba oa bb ob w hA.lt _ _ x7
  · rcases ar_one fb with eb | ⟨y, eb, b1⟩
    · rw [ea] at x7 ⊢
      rw [eb] at y7 ⊢
      exact arrs_lie_out ba oa bb ob w hA.lt hB.lt _ _ _ _ _ (by simp) x7 y7
    · obtain ⟨sb, so, es, hs⟩ := hA.ar (by rw [ea]; simp)
      obtain ⟨qb, qo, eq, hq⟩ := hB.ar (by rw [eb]; simp)
      have k1 := hs 0 (by rw [ea]; simp)
      have k2 := hq 0 (by rw [eb]; simp)
      simp only [ea, List.getElem_cons_zero, Nat.zero_mul, Nat.add_zero] at k1
      simp only [eb, List.getElem_cons_zero, Nat.zero_mul, Nat.add_zero] at k2
      rw [ea, es] at x7
      rw [eb, eq] at y7
      rw [ea, eb]
      exact arrs_lie_both ba oa bb ob w hA.lt hB.lt sb so qb qo _ _ _ _ (by simp) (by simp) k1.1.lt k2.1.lt x.min x.max y.min y.max _ x7 y7 k1.2.1 k1.2.2 k2.2.1 k2.2.2 (Hid.mk fun u hu => ih (by rw [eb]; simp) _ _ _ _ _ _ u (k1.1.keep hu) (k2.1.keep hu) a1 b1)
end

set_option maxHeartbeats 1600000 in
theorem lie1_0 (B ba oa bb ob : Nat) (r : Bool) (w : World) (p0 : w.cell? ⟨B, 0, none⟩ = some (.pointer (some ⟨ba, oa, none⟩))) (p1 : w.cell? ⟨B, 1, none⟩ = some (.pointer (some ⟨bb, ob, none⟩)))
    (HC : Hid (Calls Try.prog 55 #[.agg #[.pointer (some ⟨ba, oa, none⟩), .pointer (some ⟨bb, ob, none⟩)]] w fun e w' => e = .returned (.bool r) ∧ Below w.heap.size w w')) : Calls Try.prog 41 #[.func (.func 55) #[] #[], .pointer (some ⟨B, 0, none⟩)] w fun e w' => e = .returned (.bool (!r)) ∧ Below w.heap.size w w' := by
  go_enter Try.func41, Try.ntmps41
  go_wp2_with fail
  refine HC.out.mono ?_
  rintro e w2 ⟨rfl, hq⟩
  go_wp2_with fail
  go_ret
  exact ⟨rfl, hq⟩
set_option maxHeartbeats 1600000 in
theorem lie1_1 (B ba oa bb ob : Nat) (r : Bool) (w : World) (p0 : w.cell? ⟨B, 0, none⟩ = some (.pointer (some ⟨ba, oa, none⟩))) (p1 : w.cell? ⟨B, 1, none⟩ = some (.pointer (some ⟨bb, ob, none⟩)))
    (HC : Hid (Calls Try.prog 56 #[.agg #[.pointer (some ⟨ba, oa, none⟩), .pointer (some ⟨bb, ob, none⟩)]] w fun e w' => e = .returned (.bool r) ∧ Below w.heap.size w w')) : Calls Try.prog 41 #[.func (.func 56) #[] #[], .pointer (some ⟨B, 0, none⟩)] w fun e w' => e = .returned (.bool (!r)) ∧ Below w.heap.size w w' := by
  go_enter Try.func41, Try.ntmps41
  go_wp2_with fail
  refine HC.out.mono ?_
  rintro e w2 ⟨rfl, hq⟩
  go_wp2_with fail
  go_ret
  exact ⟨rfl, hq⟩
set_option maxHeartbeats 1600000 in
theorem lie1_2 (B ba oa bb ob : Nat) (r : Bool) (w : World) (p0 : w.cell? ⟨B, 0, none⟩ = some (.pointer (some ⟨ba, oa, none⟩))) (p1 : w.cell? ⟨B, 1, none⟩ = some (.pointer (some ⟨bb, ob, none⟩)))
    (HC : Hid (Calls Try.prog 57 #[.agg #[.pointer (some ⟨ba, oa, none⟩), .pointer (some ⟨bb, ob, none⟩)]] w fun e w' => e = .returned (.bool r) ∧ Below w.heap.size w w')) : Calls Try.prog 41 #[.func (.func 57) #[] #[], .pointer (some ⟨B, 0, none⟩)] w fun e w' => e = .returned (.bool (!r)) ∧ Below w.heap.size w w' := by
  go_enter Try.func41, Try.ntmps41
  go_wp2_with fail
  refine HC.out.mono ?_
  rintro e w2 ⟨rfl, hq⟩
  go_wp2_with fail
  go_ret
  exact ⟨rfl, hq⟩
set_option maxHeartbeats 1600000 in
theorem lie1_3 (B ba oa bb ob : Nat) (r : Bool) (w : World) (p0 : w.cell? ⟨B, 0, none⟩ = some (.pointer (some ⟨ba, oa, none⟩))) (p1 : w.cell? ⟨B, 1, none⟩ = some (.pointer (some ⟨bb, ob, none⟩)))
    (HC : Hid (Calls Try.prog 58 #[.agg #[.pointer (some ⟨ba, oa, none⟩), .pointer (some ⟨bb, ob, none⟩)]] w fun e w' => e = .returned (.bool r) ∧ Below w.heap.size w w')) : Calls Try.prog 41 #[.func (.func 58) #[] #[], .pointer (some ⟨B, 0, none⟩)] w fun e w' => e = .returned (.bool (!r)) ∧ Below w.heap.size w w' := by
  go_enter Try.func41, Try.ntmps41
  go_wp2_with fail
  refine HC.out.mono ?_
  rintro e w2 ⟨rfl, hq⟩
  go_wp2_with fail
  go_ret
  exact ⟨rfl, hq⟩
set_option maxHeartbeats 1600000 in
theorem lie1_4 (B ba oa bb ob : Nat) (r : Bool) (w : World) (p0 : w.cell? ⟨B, 0, none⟩ = some (.pointer (some ⟨ba, oa, none⟩))) (p1 : w.cell? ⟨B, 1, none⟩ = some (.pointer (some ⟨bb, ob, none⟩)))
    (HC : Hid (Calls Try.prog 59 #[.agg #[.pointer (some ⟨ba, oa, none⟩), .pointer (some ⟨bb, ob, none⟩)]] w fun e w' => e = .returned (.bool r) ∧ Below w.heap.size w w')) : Calls Try.prog 41 #[.func (.func 59) #[] #[], .pointer (some ⟨B, 0, none⟩)] w fun e w' => e = .returned (.bool (!r)) ∧ Below w.heap.size w w' := by
  go_enter Try.func41, Try.ntmps41
  go_wp2_with fail
  refine HC.out.mono ?_
  rintro e w2 ⟨rfl, hq⟩
  go_wp2_with fail
  go_ret
  exact ⟨rfl, hq⟩

theorem w_lying (w : World) : Calls Try.prog 40 #[] w fun e w' => e = .returned (.slice (some ⟨w.heap.size, 0, none⟩) 5 5) ∧ w' = w.alloc (.cells #[.func (.func 55) #[] #[], .func (.func 56) #[] #[], .func (.func 57) #[] #[], .func (.func 58) #[] #[], .func (.func 59) #[] #[]] 66) := by
  go_enter Try.func40, Try.ntmps40
  go_wp2_with fail
  go_ret
  exact ⟨rfl, rfl⟩

theorem w_evB (w : World) : Calls Try.prog 53 #[] w fun e w' => e = .returned (.agg #[.bool true, .bool false, .bool false, .bool false, .slice none 0 0, .bool false, .slice none 0 0, .slice none 0 0, .slice none 0 0]) ∧ Below w.heap.size w w' := by
  have HB := Hid.mk (fun o => below1 w o)
  go_enter Try.func53, Try.ntmps53
  go_wp2_with fail
  (try simp only [Exit.inBlock, Exit.then])
  refine bodyPost_ret (v := .agg #[.bool true, .bool false, .bool false, .bool false, .slice none 0 0, .bool false, .slice none 0 0, .slice none 0 0, .slice none 0 0]) (by simp [results, Try.results53, go_sem]) rfl ?_
  exact ⟨rfl, by first | exact HB.out _ | exact Below.refl _ _⟩
/-- every laid out stands in five new blocks -/
theorem laid_in (w1 : World) (m : Nat) : PtT (((((w1.alloc (.cells #[.bool true, .bool false, .bool false, .bool false, .slice none 0 0, .bool false, .slice none 0 0, .slice none 0 0, .slice none 0 0] 27)).alloc (.cells #[.string ⟨#[]⟩, .string ⟨#[]⟩] 44)).alloc (.cells #[.bool true, .bool false, .bool false, .bool false, .slice none 0 0, .bool false, .slice none 0 0, .slice none 0 0, .slice none 0 0, .int .i64 0, .int .i64 (-1)] 51)).alloc (.cells #[.slice none 0 0, .slice none 0 0, .slice none 0 0, .bool true, .bool false, .bool false, .bool false, .slice none 0 0, .bool false, .slice none 0 0, .slice none 0 0, .slice none 0 0] 56)).alloc (.cells #[.bool false, .bool true, .bool true, .bool true, .slice (some ⟨w1.heap.size + 1, 0, none⟩) 1 1, .bool true, .slice none 0 0, .slice (some ⟨w1.heap.size + 1 + 1, 0, none⟩) 1 1, .slice (some ⟨w1.heap.size + 1 + 1 + 1, 0, none⟩) 1 1] 27)) (m + 2) laidT (w1.heap.size + 1 + 1 + 1 + 1) 0 := by
  generalize hW : ((((w1.alloc (.cells #[.bool true, .bool false, .bool false, .bool false, .slice none 0 0, .bool false, .slice none 0 0, .slice none 0 0, .slice none 0 0] 27)).alloc (.cells #[.string ⟨#[]⟩, .string ⟨#[]⟩] 44)).alloc (.cells #[.bool true, .bool false, .bool false, .bool false, .slice none 0 0, .bool false, .slice none 0 0, .slice none 0 0, .slice none 0 0, .int .i64 0, .int .i64 (-1)] 51)).alloc (.cells #[.slice none 0 0, .slice none 0 0, .slice none 0 0, .bool true, .bool false, .bool false, .bool false, .slice none 0 0, .bool false, .slice none 0 0, .slice none 0 0, .slice none 0 0] 56)).alloc (.cells #[.bool false, .bool true, .bool true, .bool true, .slice (some ⟨w1.heap.size + 1, 0, none⟩) 1 1, .bool true, .slice none 0 0, .slice (some ⟨w1.heap.size + 1 + 1, 0, none⟩) 1 1, .slice (some ⟨w1.heap.size + 1 + 1 + 1, 0, none⟩) 1 1] 27) = W
  have hs : W.heap.size = w1.heap.size + 1 + 1 + 1 + 1 + 1 := by rw [← hW]; simp
  have r1 : W.heap[w1.heap.size + 1]? = some (.cells #[.string ⟨#[]⟩, .string ⟨#[]⟩] 44 (0, 0)) := by
    rw [← hW, Below.heap_alloc _ _ _ (by simp), Below.heap_alloc _ _ _ (by simp), Below.heap_alloc _ _ _ (by simp)]
    have h := World.alloc_heap_new (w1.alloc (.cells #[.bool true, .bool false, .bool false, .bool false, .slice none 0 0, .bool false, .slice none 0 0, .slice none 0 0, .slice none 0 0] 27)) (.cells #[.string ⟨#[]⟩, .string ⟨#[]⟩] 44)
    rw [World.size_alloc] at h
    exact h
  have r2 : W.heap[w1.heap.size + 1 + 1]? = some (.cells #[.bool true, .bool false, .bool false, .bool false, .slice none 0 0, .bool false, .slice none 0 0, .slice none 0 0, .slice none 0 0, .int .i64 0, .int .i64 (-1)] 51 (0, 0)) := by
    rw [← hW, Below.heap_alloc _ _ _ (by simp), Below.heap_alloc _ _ _ (by simp)]
    have h := World.alloc_heap_new ((w1.alloc (.cells #[.bool true, .bool false, .bool false, .bool false, .slice none 0 0, .bool false, .slice none 0 0, .slice none 0 0, .slice none 0 0] 27)).alloc (.cells #[.string ⟨#[]⟩, .string ⟨#[]⟩] 44)) (.cells #[.bool true, .bool false, .bool false, .bool false, .slice none 0 0, .bool false, .slice none 0 0, .slice none 0 0, .slice none 0 0, .int .i64 0, .int .i64 (-1)] 51)
    rw [World.size_alloc, World.size_alloc] at h
    exact h
  have r3 : W.heap[w1.heap.size + 1 + 1 + 1]? = some (.cells #[.slice none 0 0, .slice none 0 0, .slice none 0 0, .bool true, .bool false, .bool false, .bool false, .slice none 0 0, .bool false, .slice none 0 0, .slice none 0 0, .slice none 0 0] 56 (0, 0)) := by
    rw [← hW, Below.heap_alloc _ _ _ (by simp)]
    have h := World.alloc_heap_new (((w1.alloc (.cells #[.bool true, .bool false, .bool false, .bool false, .slice none 0 0, .bool false, .slice none 0 0, .slice none 0 0, .slice none 0 0] 27)).alloc (.cells #[.string ⟨#[]⟩, .string ⟨#[]⟩] 44)).alloc (.cells #[.bool true, .bool false, .bool false, .bool false, .slice none 0 0, .bool false, .slice none 0 0, .slice none 0 0, .slice none 0 0, .int .i64 0, .int .i64 (-1)] 51)) (.cells #[.slice none 0 0, .slice none 0 0, .slice none 0 0, .bool true, .bool false, .bool false, .bool false, .slice none 0 0, .bool false, .slice none 0 0, .slice none 0 0, .slice none 0 0] 56)
    rw [World.size_alloc, World.size_alloc, World.size_alloc] at h
    exact h
  have r4 : W.heap[w1.heap.size + 1 + 1 + 1 + 1]? = some (.cells #[.bool false, .bool true, .bool true, .bool true, .slice (some ⟨w1.heap.size + 1, 0, none⟩) 1 1, .bool true, .slice none 0 0, .slice (some ⟨w1.heap.size + 1 + 1, 0, none⟩) 1 1, .slice (some ⟨w1.heap.size + 1 + 1 + 1, 0, none⟩) 1 1] 27 (0, 0)) := by
    rw [← hW]
    have h := World.alloc_heap_new ((((w1.alloc (.cells #[.bool true, .bool false, .bool false, .bool false, .slice none 0 0, .bool false, .slice none 0 0, .slice none 0 0, .slice none 0 0] 27)).alloc (.cells #[.string ⟨#[]⟩, .string ⟨#[]⟩] 44)).alloc (.cells #[.bool true, .bool false, .bool false, .bool false, .slice none 0 0, .bool false, .slice none 0 0, .slice none 0 0, .slice none 0 0, .int .i64 0, .int .i64 (-1)] 51)).alloc (.cells #[.slice none 0 0, .slice none 0 0, .slice none 0 0, .bool true, .bool false, .bool false, .bool false, .slice none 0 0, .bool false, .slice none 0 0, .slice none 0 0, .slice none 0 0] 56)) (.cells #[.bool false, .bool true, .bool true, .bool true, .slice (some ⟨w1.heap.size + 1, 0, none⟩) 1 1, .bool true, .slice none 0 0, .slice (some ⟨w1.heap.size + 1 + 1, 0, none⟩) 1 1, .slice (some ⟨w1.heap.size + 1 + 1 + 1, 0, none⟩) 1 1] 27)
    rw [World.size_alloc, World.size_alloc, World.size_alloc, World.size_alloc] at h
    exact h
  clear hW
  refine ⟨by omega, _, _, _, _, _, _, _, _, _, ⟨cell_of_row _ _ 0 _ _ _ r4, cell_of_row _ _ 1 _ _ _ r4, cell_of_row _ _ 2 _ _ _ r4, cell_of_row _ _ 3 _ _ _ r4, cell_of_row _ _ 4 _ _ _ r4, cell_of_row _ _ 5 _ _ _ r4, cell_of_row _ _ 6 _ _ _ r4, cell_of_row _ _ 7 _ _ _ r4, cell_of_row _ _ 8 _ _ _ r4⟩, ?_⟩
  refine ⟨some ⟨w1.heap.size + 1, 0, none⟩, 1, none, 0, some ⟨w1.heap.size + 1 + 1, 0, none⟩, 1, some ⟨w1.heap.size + 1 + 1 + 1, 0, none⟩, 1, rfl, ⟨Nat.le_refl _, Nat.le_refl _, Nat.le_refl _, Nat.le_refl _⟩, ⟨by show 1 ≤ _; decide, Nat.zero_le _, by show 1 ≤ _; decide, by show 1 ≤ _; decide⟩, fun p hp => ?_, fun p hp => absurd hp (List.not_mem_nil), ⟨fun _ => ⟨w1.heap.size + 1, 0, rfl, by omega, fun i hi => ?_⟩⟩, ⟨fun h => absurd h (Nat.lt_irrefl 0)⟩, fun _ => ⟨w1.heap.size + 1 + 1, 0, rfl, by omega, fun i hi => ?_⟩, fun _ => ⟨w1.heap.size + 1 + 1 + 1, 0, rfl, by omega, fun i hi => ?_⟩⟩
  · obtain rfl : p = (.empty, .empty) := List.mem_singleton.1 hp
    exact ⟨by decide, by decide⟩
  · obtain rfl : i = 0 := by have : i < 1 := hi; omega
    exact ⟨cell_of_row _ _ 0 _ _ _ r1, cell_of_row _ _ 1 _ _ _ r1⟩
  · obtain rfl : i = 0 := by have : i < 1 := hi; omega
    exact ⟨_, _, _, _, _, _, _, _, _, ⟨cell_of_row _ _ 0 _ _ _ r2, cell_of_row _ _ 1 _ _ _ r2, cell_of_row _ _ 2 _ _ _ r2, cell_of_row _ _ 3 _ _ _ r2, cell_of_row _ _ 4 _ _ _ r2, cell_of_row _ _ 5 _ _ _ r2, cell_of_row _ _ 6 _ _ _ r2, cell_of_row _ _ 7 _ _ _ r2, cell_of_row _ _ 8 _ _ _ r2⟩, cell_of_row _ _ 9 _ _ _ r2, cell_of_row _ _ 10 _ _ _ r2, inT_evr W m⟩
  · obtain rfl : i = 0 := by have : i < 1 := hi; omega
    exact ⟨none, 0, none, 0, none, 0, _, _, _, _, _, _, _, _, _, ⟨cell_of_row _ _ 0 _ _ _ r3, cell_of_row _ _ 1 _ _ _ r3, cell_of_row _ _ 2 _ _ _ r3⟩, ⟨cell_of_row _ _ 3 _ _ _ r3, cell_of_row _ _ 4 _ _ _ r3, cell_of_row _ _ 5 _ _ _ r3, cell_of_row _ _ 6 _ _ _ r3, cell_of_row _ _ 7 _ _ _ r3, cell_of_row _ _ 8 _ _ _ r3, cell_of_row _ _ 9 _ _ _ r3, cell_of_row _ _ 10 _ _ _ r3, cell_of_row _ _ 11 _ _ _ r3⟩, ⟨Nat.le_refl _, Nat.le_refl _, Nat.le_refl _⟩, ⟨Nat.zero_le _, Nat.zero_le _, Nat.zero_le _, fun k hk => absurd hk (List.not_mem_nil)⟩, ⟨fun h => absurd h (Nat.lt_irrefl 0)⟩, ⟨fun h => absurd h (Nat.lt_irrefl 0)⟩, fun h => absurd h (Nat.lt_irrefl 0), inT_evr W m⟩

set_option maxRecDepth 100000 in
set_option maxHeartbeats 3200000 in
theorem w_laidOut (m : Nat) (w : World) : Calls Try.prog 38 #[] w fun e w' => ∃ b, e = .returned (.pointer (some ⟨b, 0, none⟩)) ∧ PtT w' (m + 2) laidT b 0 ∧ Below w.heap.size w w' := by
  go_enter Try.func38, Try.ntmps38
  go_wp2_with fail
  refine (w_evB _).mono ?_
  rintro e w1 ⟨rfl, hq⟩
  have HB := Hid.mk hq
  clear hq
  go_wp2_with fail
  go_ret
  exact ⟨_, rfl, laid_in w1 m, ((((HB.out.alloc HB.out.size _).alloc (by simp; have := HB.out.size; omega) _).alloc (by simp; have := HB.out.size; omega) _).alloc (by simp; have := HB.out.size; omega) _).alloc (by simp; have := HB.out.size; omega) _⟩

theorem fm_up' : ∀ {h : Nat} {T : TT}, fmN h T = true → fmN (h + 1) T = true
  | 0, _, h => by cases h
  | h + 1, T, hf => by
    rw [fm_split, Bool.and_eq_true, List.all_eq_true] at hf ⊢
    exact ⟨hf.1, fun x hx => fm_up' (hf.2 x hx)⟩
theorem fm_le' {h m : Nat} {T : TT} (hf : fmN h T = true) (hm : h ≤ m) : fmN m T = true := by
  induction hm with
  | refl => exact hf
  | step _ ih => exact fm_up' ih
theorem fm_laid2 : fmN 2 laidT = true := by decide +kernel
theorem fm_laid (m : Nat) : fmN (m + 2) laidT = true := fm_le' fm_laid2 (by omega)
set_option maxHeartbeats 1600000 in
theorem lies_all (A B : TT) (ba oa bb ob : Nat) (w : World) (y0 : w.cell? ⟨bb, ob, none⟩ = some (.bool true)) : Calls Try.prog 18 #[.pointer (some ⟨ba, oa, none⟩), .pointer (some ⟨bb, ob, none⟩)] w fun e w' => e = .returned (.bool true) ∧ Below w.heap.size w w' := by
  go_enter Try.func18, Try.ntmps18
  go_wp2_with fail
  go_ret
  exact ⟨rfl, Below.refl _ _⟩

/-- the row of what must hold, kind by kind -/
def lyF (k : Nat) : Value := match k with | 0 => .func (.func 55) #[] #[] | 1 => .func (.func 56) #[] #[] | 2 => .func (.func 57) #[] #[] | 3 => .func (.func 58) #[] #[] | _ => .func (.func 59) #[] #[]
set_option maxRecDepth 100000 in
set_option maxHeartbeats 3200000 in
theorem lies_plain (ba oa bb ob : Nat) (r : Bool) (w : World) (x0 : w.cell? ⟨ba, oa, none⟩ = some (.bool false)) (y0 : w.cell? ⟨bb, ob, none⟩ = some (.bool false))
    (HC : Hid (∀ P u, Bx2c w u P (.pointer (some ⟨ba, oa, none⟩)) (.pointer (some ⟨bb, ob, none⟩)) → ∀ so, (∀ u2, Below u.heap.size u u2 → ∃ b off, so = some ⟨b, off, none⟩ ∧ ∀ k, k < 5 → u2.cell? ⟨b, off + k, none⟩ = some (lyF k)) → Calls Try.prog 39 #[.slice so 5 5, .func (.func 41) #[] #[.pointer (some ⟨P, 0, none⟩)]] u fun e w' => e = .returned (.bool r) ∧ Below u.heap.size u w')) :
    Calls Try.prog 18 #[.pointer (some ⟨ba, oa, none⟩), .pointer (some ⟨bb, ob, none⟩)] w fun e w' => e = .returned (.bool (!r)) ∧ Below w.heap.size w w' := by
  go_enter Try.func18, Try.ntmps18
  go_upto_region 5 with fail
  obtain ⟨PB, hPB⟩ : ∃ PB, w.heap.size = PB := ⟨_, rfl⟩
  obtain ⟨W2, hW2⟩ : ∃ W2, w.alloc (.cells #[.pointer (some ⟨ba, oa, none⟩), .pointer (some ⟨bb, ob, none⟩)] 63) = W2 := ⟨_, rfl⟩
  have HX : Hid (Bx2c w W2 PB (.pointer (some ⟨ba, oa, none⟩)) (.pointer (some ⟨bb, ob, none⟩))) := by rw [← hW2, ← hPB]; exact bx2c_new w _ _ _
  have HWq := Hid.mk hW2
  have HBq := Hid.mk hPB
  clear hW2 hPB
  go_upto_region 6 with fail
  try rw [HWq.out]
  try rw [HBq.out]
  clear HWq HBq x0 y0
  go_wp2_with fail
  refine (w_lying _).mono ?_
  rintro e w3 ⟨rfl, hw3⟩
  obtain ⟨SB, hSB⟩ : ∃ SB, W2.heap.size = SB := ⟨_, rfl⟩
  have hb3 : Below W2.heap.size W2 w3 := by rw [hw3]; exact below1 W2 _
  have HX3 := Hid.mk (HX.out.keep hb3)
  have HR3 : Hid (w3.heap[SB]? = some (.cells #[.func (.func 55) #[] #[], .func (.func 56) #[] #[], .func (.func 57) #[] #[], .func (.func 58) #[] #[], .func (.func 59) #[] #[]] 66 (0, 0))) := by show _ = _; rw [hw3, ← hSB]; exact World.alloc_heap_new W2 _
  rw [hSB]
  clear hw3 hSB hb3
  have HC3 := Hid.mk (HC.out PB w3 HX3.out (some ⟨SB, 0, none⟩) (fun u hu => ⟨SB, 0, rfl, fun k hk => by
    have hr := (hu.block _ (lt_of_row' HR3.out)).trans HR3.out
    rw [Nat.zero_add]
    rw [cell_of_row _ _ k _ _ _ hr]
    match k, hk with
    | 0, _ => rfl
    | 1, _ => rfl
    | 2, _ => rfl
    | 3, _ => rfl
    | 4, _ => rfl⟩))
  go_wp2_with fail
  refine HC3.out.mono ?_
  rintro e w4 ⟨rfl, hq⟩
  have HX4 := Hid.mk (HX3.out.keep hq)
  clear hq
  go_wp2_with fail
  go_ret
  exact ⟨rfl, HX4.out.below⟩

set_option maxRecDepth 100000 in
set_option maxHeartbeats 3200000 in
theorem lies_every (m : Nat) (ba oa bb ob : Nat) (r : Bool) (w : World) (lb : bb < w.heap.size) (x0 : w.cell? ⟨ba, oa, none⟩ = some (.bool true)) (y0 : w.cell? ⟨bb, ob, none⟩ = some (.bool false))
    (HC0 : Hid (∀ w1 b1, Below w.heap.size w w1 → PtT w1 (m + 2) laidT b1 0 → ∀ P u, Bx2c w1 u P (.pointer (some ⟨b1, 0, none⟩)) (.pointer (some ⟨bb, ob, none⟩)) → ∀ so, (∀ u2, Below u.heap.size u u2 → ∃ b off, so = some ⟨b, off, none⟩ ∧ ∀ k, k < 5 → u2.cell? ⟨b, off + k, none⟩ = some (lyF k)) → Calls Try.prog 39 #[.slice so 5 5, .func (.func 41) #[] #[.pointer (some ⟨P, 0, none⟩)]] u fun e w' => e = .returned (.bool r) ∧ Below u.heap.size u w')) :
    Calls Try.prog 18 #[.pointer (some ⟨ba, oa, none⟩), .pointer (some ⟨bb, ob, none⟩)] w fun e w' => e = .returned (.bool (!r)) ∧ Below w.heap.size w w' := by
  go_enter Try.func18, Try.ntmps18
  go_wp2_with fail
  refine (w_laidOut m w).mono ?_
  rintro e w1 ⟨b1, rfl, hp, hq⟩
  have HB1 := Hid.mk hq
  have HC := Hid.mk (HC0.out w1 b1 hq hp)
  have y0 := (hq.cell (p := ⟨bb, ob, none⟩) lb).trans y0
  have x0 := x0
  clear hq hp
  go_upto_region 5 with fail
  obtain ⟨PB, hPB⟩ : ∃ PB, w1.heap.size = PB := ⟨_, rfl⟩
  obtain ⟨W2, hW2⟩ : ∃ W2, w1.alloc (.cells #[.pointer (some ⟨b1, 0, none⟩), .pointer (some ⟨bb, ob, none⟩)] 63) = W2 := ⟨_, rfl⟩
  have HX : Hid (Bx2c w1 W2 PB (.pointer (some ⟨b1, 0, none⟩)) (.pointer (some ⟨bb, ob, none⟩))) := by rw [← hW2, ← hPB]; exact bx2c_new w1 _ _ _
  have HWq := Hid.mk hW2
  have HBq := Hid.mk hPB
  clear hW2 hPB
  go_upto_region 6 with fail
  try rw [HWq.out]
  try rw [HBq.out]
  clear HWq HBq x0 y0
  go_wp2_with fail
  refine (w_lying _).mono ?_
  rintro e w3 ⟨rfl, hw3⟩
  obtain ⟨SB, hSB⟩ : ∃ SB, W2.heap.size = SB := ⟨_, rfl⟩
  have hb3 : Below W2.heap.size W2 w3 := by rw [hw3]; exact below1 W2 _
  have HX3 := Hid.mk (HX.out.keep hb3)
  have HR3 : Hid (w3.heap[SB]? = some (.cells #[.func (.func 55) #[] #[], .func (.func 56) #[] #[], .func (.func 57) #[] #[], .func (.func 58) #[] #[], .func (.func 59) #[] #[]] 66 (0, 0))) := by show _ = _; rw [hw3, ← hSB]; exact World.alloc_heap_new W2 _
  rw [hSB]
  clear hw3 hSB hb3
  have HC3 := Hid.mk (HC.out PB w3 HX3.out (some ⟨SB, 0, none⟩) (fun u hu => ⟨SB, 0, rfl, fun k hk => by
    have hr := (hu.block _ (lt_of_row' HR3.out)).trans HR3.out
    rw [Nat.zero_add]
    rw [cell_of_row _ _ k _ _ _ hr]
    match k, hk with
    | 0, _ => rfl
    | 1, _ => rfl
    | 2, _ => rfl
    | 3, _ => rfl
    | 4, _ => rfl⟩))
  go_wp2_with fail
  refine HC3.out.mono ?_
  rintro e w4 ⟨rfl, hq⟩
  have HX4 := Hid.mk (HX3.out.keep hq)
  clear hq
  go_wp2_with fail
  go_ret
  exact ⟨rfl, HB1.out.trans (HX4.out.below.mono HB1.out.size)⟩


theorem has_lies (h : Nat) (A B : TT) (ih : 0 < B.arrs.length ∨ 0 < B.objs.length → LsOk h) (ba oa bb ob : Nat) (w : World) (hA : PtT w (h + 1) A ba oa) (hB : PtT w (h + 1) B bb ob) (fa : fmN (h + 1) A = true) (fb : fmN (h + 1) B = true) (P : Nat) (u : World) (hu : Bx2c w u P (.pointer (some ⟨ba, oa, none⟩)) (.pointer (some ⟨bb, ob, none⟩))) (so : Option Addr) (hs : ∀ u2, Below u.heap.size u u2 → ∃ b off, so = some ⟨b, off, none⟩ ∧ ∀ k, k < 5 → u2.cell? ⟨b, off + k, none⟩ = some (lyF k)) :
    Calls Try.prog 39 #[.slice so 5 5, .func (.func 41) #[] #[.pointer (some ⟨P, 0, none⟩)]] u fun e w' => e = .returned (.bool (!bwK (bwN h) A B)) ∧ Below u.heap.size u w' := by
  obtain ⟨a1, a2, a3, a4, _, _⟩ := fm_open fa
  obtain ⟨b1, b2, b3, b4, _, _⟩ := fm_open fb
  have key := has_lie so 5 5 lyF (fun k => match k with | 0 => !flL A B | 1 => !spL A.nums B.nums | 2 => !txL A B | 3 => !arL (bwN h) A.arrs B.arrs | _ => !obL (bwN h) A.objs B.objs) P u (Nat.le_refl _) (by decide) (Hid.mk fun u2 hu2 _ => hs u2 hu2)
    (Hid.mk fun k hk u2 hu2 => by
      have hx := hu.keep hu2
      obtain ⟨no, nc, xo, xc, ao, ac, oo, oc, hA'⟩ := (hA.keep hx.below).open
      obtain ⟨no2, nc2, xo2, xc2, ao2, ac2, oo2, oc2, hB'⟩ := (hB.keep hx.below).open
      match k, hk with
      | 0, _ => exact lie1_0 P ba oa bb ob _ u2 hx.c0 hx.c1 (Hid.mk (w_flagsLie h A B ba oa bb ob _ _ _ _ _ _ _ _ _ _ _ _ _ _ _ _ u2 hA' hB'))
      | 1, _ => exact lie1_1 P ba oa bb ob _ u2 hx.c0 hx.c1 (Hid.mk (w_numsLie h A B ba oa bb ob _ _ _ _ _ _ _ _ _ _ _ _ _ _ _ _ u2 hA' hB' a2 b2))
      | 2, _ => exact lie1_2 P ba oa bb ob _ u2 hx.c0 hx.c1 (Hid.mk (w_textsLie h A B ba oa bb ob _ _ _ _ _ _ _ _ _ _ _ _ _ _ _ _ u2 hA' hB' b1))
      | 3, _ => exact lie1_3 P ba oa bb ob _ u2 hx.c0 hx.c1 (Hid.mk (w_arraysLie h A B ba oa bb ob _ _ _ _ _ _ _ _ _ _ _ _ _ _ _ _ u2 hA' hB' (fun hh => ih (.inl hh)) a3 b3))
      | 4, _ => exact lie1_4 P ba oa bb ob _ u2 hx.c0 hx.c1 (Hid.mk (w_objectsLie h A B (fun hh => ih (.inr hh)) ba oa bb ob _ _ _ _ _ _ _ _ _ _ _ _ _ _ _ _ u2 hA' hB' a4 b4)))
    (Hid.mk fun k hk => by
      match k, hk with
      | 0, _ => exact ⟨_, rfl⟩
      | 1, _ => exact ⟨_, rfl⟩
      | 2, _ => exact ⟨_, rfl⟩
      | 3, _ => exact ⟨_, rfl⟩
      | 4, _ => exact ⟨_, rfl⟩)
  have e : ((List.range 5).any fun k => match k with | 0 => !flL A B | 1 => !spL A.nums B.nums | 2 => !txL A B | 3 => !arL (bwN h) A.arrs B.arrs | _ => !obL (bwN h) A.objs B.objs) = !bwK (bwN h) A B := by
    show (!flL A B || (!spL A.nums B.nums || (!txL A B || (!arL (bwN h) A.arrs B.arrs || (!obL (bwN h) A.objs B.objs || false))))) = _
    unfold bwK
    cases flL A B <;> cases spL A.nums B.nums <;> cases txL A B <;> cases arL (bwN h) A.arrs B.arrs <;> cases obL (bwN h) A.objs B.objs <;> rfl
  rw [e] at key
  exact key
theorem laid_none {T : TT} (h : T.all = false) : laid T = T := by unfold laid; rw [h]; rfl
theorem laid_all {T : TT} (h : T.all = true) : laid T = laidT := by unfold laid; rw [h]; rfl
theorem fm_pos : ∀ {h : Nat} {T : TT}, fmN h T = true → ∃ m, h = m + 1
  | 0, _, h => by cases h
  | m + 1, _, _ => ⟨m, rfl⟩
theorem bwK_none {f : TT → TT → Bool} {B : TT} (h : B.arrs = []) : bwK f laidT B = false := by
  unfold bwK
  rw [h]
  show (_ && (_ && (_ && (false && _)))) = false
  simp
theorem PtT.le {w : World} {h m : Nat} {T : TT} {b off : Nat} (x : PtT w h T b off) (hm : h ≤ m) : PtT w m T b off := by
  obtain ⟨c0, c1, c2, c3, c4, c5, c6, c7, c8, h1, h2⟩ := x.ok
  exact ⟨x.lt, c0, c1, c2, c3, c4, c5, c6, c7, c8, h1, h2.le hm⟩
/-- THE PROGRAM'S lies -/
theorem w_lies : ∀ h, LsOk h
  | 0 => fun A B ba oa bb ob u hA hB fa fb => by cases fa
  | h + 1 => fun A B ba oa bb ob u hA hB fa fb => by
    have ih := w_lies h
    obtain ⟨no, nc, xo, xc, ao, ac, oo, oc, hA'⟩ := hA.open
    obtain ⟨no2, nc2, xo2, xc2, ao2, ac2, oo2, oc2, hB'⟩ := hB.open
    unfold bwN
    cases hb : B.all with
    | true =>
      have y0 := hB'.d0
      rw [hb] at y0
      exact lies_all A B ba oa bb ob u y0
    | false =>
      have y0 := hB'.d0
      rw [hb] at y0
      rw [Bool.false_or]
      cases ha : A.all with
      | false =>
        have x0 := hA'.d0
        rw [ha] at x0
        rw [laid_none ha, ← Bool.not_not (bwK (bwN h) A B)]
        exact lies_plain ba oa bb ob _ u x0 y0 (Hid.mk fun P u2 hu so hs => has_lies h A B (fun _ => ih) ba oa bb ob u hA hB fa fb P u2 hu so hs)
      | true =>
        have x0 := hA'.d0
        rw [ha] at x0
        rw [laid_all ha, ← Bool.not_not (bwK (bwN h) laidT B)]
        cases h with
        | zero =>
          refine lies_every 0 ba oa bb ob _ u hB'.lt x0 y0 (Hid.mk fun w1 b1 hw1 hp P u2 hu so hs => ?_)
          have e1 : B.arrs = [] := by
            cases e : B.arrs with
            | nil => rfl
            | cons y l =>
              obtain ⟨b2, off2, _, hc⟩ := hB'.ar (by rw [e]; simp)
              obtain ⟨_, _, _, _, _, _, _, _, _, _, hf⟩ := (hc 0 (by rw [e]; simp)).1.ok
              exact hf.elim
          have e2 : B.objs = [] := by
            cases e : B.objs with
            | nil => rfl
            | cons y l =>
              obtain ⟨b2, off2, _, hc⟩ := hB'.ob (by rw [e]; simp)
              obtain ⟨_, _, _, _, _, _, hp⟩ := hc 0 (by rw [e]; simp)
              obtain ⟨_, _, _, _, _, _, _, _, _, _, hf⟩ := hp.rest.ok
              exact hf.elim
          have key := has_lies 1 laidT B (fun hh => by rw [e1, e2] at hh; simp at hh) b1 0 bb ob w1 hp ((hB.keep hw1).le (by omega)) (fm_laid 0) (fm_le' fb (by omega)) P u2 hu so hs
          rw [bwK_none e1] at key ⊢
          exact key
        | succ m =>
          exact lies_every m ba oa bb ob _ u hB'.lt x0 y0 (Hid.mk fun w1 b1 hw1 hp P u2 hu so hs => has_lies (m + 1) laidT B (fun _ => ih) b1 0 bb ob w1 hp (hB.keep hw1) (fm_laid m) fb P u2 hu so hs)
end Go.Proofs.Ytihhjplbpaafiaa
namespace Go.Proofs.Ytihhjplbpaafiaa
open Go.RowKit Go.Shelf Go.Sort
set_option linter.unusedVariables false
set_option linter.unusedSimpArgs false
attribute [local go_sem] Oper.semAt_some

section
variable (h : Nat) (A B : TT) (ba oa bb ob : Nat) (no : Option Addr) (nc : Nat) (xo : Option Addr) (xc : Nat) (ao : Option Addr) (ac : Nat) (oo : Option Addr) (oc : Nat) (no2 : Option Addr) (nc2 : Nat) (xo2 : Option Addr) (xc2 : Nat) (ao2 : Option Addr) (ac2 : Nat) (oo2 : Option Addr) (oc2 : Nat) (w : World)
    (hA : OpT w h A ba oa no nc xo xc ao ac oo oc) (hB : OpT w h B bb ob no2 nc2 xo2 xc2 ao2 ac2 oo2 oc2)
include hA hB
theorem w_flagsMeet : Calls Try.prog 65 #[.agg #[.pointer (some ⟨ba, oa, none⟩), .pointer (some ⟨bb, ob, none⟩)]] w fun e w' => e = .returned (.bool (flM A B)) ∧ Below w.heap.size w w' :=
  flags_met ba oa bb ob w hA.lt hB.lt _ _ _ _ _ _ hA.d1 hA.d2 hA.d3 hB.d1 hB.d2 hB.d3
theorem w_numsMeet (fa : spB A.nums = true) (fb : spB B.nums = true) : Calls Try.prog 66 #[.agg #[.pointer (some ⟨ba, oa, none⟩), .pointer (some ⟨bb, ob, none⟩)]] w fun e w' => e = .returned (.bool (spM A.nums B.nums)) ∧ Below w.heap.size w w' := by
  have x4 := hA.d4
  have y4 := hB.d4
  have za := hA.zn
  have zb := hB.zn
  rcases sp_one fa with ea | ⟨p, ea, a1, a2⟩
  · rw [ea] at x4 ⊢
    exact nums_met_none ba oa bb ob w hA.lt _ _ x4
  · rcases sp_one fb with eb | ⟨q, eb, b1, b2⟩
    · rw [ea] at x4 ⊢
      rw [eb] at y4 ⊢
      exact nums_met_out ba oa bb ob w hA.lt hB.lt _ _ _ _ _ (by simp) x4 y4
    · obtain ⟨sb, so, es, ls, hs⟩ := hA.sp.row (by rw [ea]; simp)
      obtain ⟨qb, qo, eq, lq, hq⟩ := hB.sp.row (by rw [eb]; simp)
      have k1 := hs 0 (by rw [ea]; simp)
      have k2 := hq 0 (by rw [eb]; simp)
      simp only [ea, List.getElem_cons_zero, Nat.zero_mul, Nat.add_zero] at k1
      simp only [eb, List.getElem_cons_zero, Nat.zero_mul, Nat.add_zero] at k2
      rw [ea, es] at x4
      rw [eb, eq] at y4
      have z1 := za p (by rw [ea]; exact List.mem_singleton.2 rfl)
      have z2 := zb q (by rw [eb]; exact List.mem_singleton.2 rfl)
      rw [ea, eb]
      exact nums_met_both ba oa bb ob w hA.lt hB.lt sb so qb qo _ _ _ _ (by simp) (by simp) ls lq _ _ _ _ _ _ x4 y4 k1.1 k1.2 k2.1 k2.2 (Hid.mk fun u => w_above _ _ u z1.1 z2.2) (Hid.mk fun u => w_above _ _ u z2.1 z1.2)
theorem w_textsMeet (fb : rK B.texts B.texts.length = true) : Calls Try.prog 67 #[.agg #[.pointer (some ⟨ba, oa, none⟩), .pointer (some ⟨bb, ob, none⟩)]] w fun e w' => e = .returned (.bool (txM A B)) ∧ Below w.heap.size w w' :=
  texts_met ba oa bb ob w hA.lt hB.lt A.any B.any xo _ xc xo2 _ xc2 A.texts B.texts hA.d5 hA.d6 hB.d5 hB.d6 hA.tx hB.tx rfl rfl hA.caps.2.1 hB.caps.2.1 hA.lens.2.1 hB.lens.2.1 fb
theorem w_arraysMeet (ih : 0 < B.arrs.length → MtOk h) (fa : arB (fmN h) A.arrs = true) (fb : arB (fmN h) B.arrs = true) : Calls Try.prog 68 #[.agg #[.pointer (some ⟨ba, oa, none⟩), .pointer (some ⟨bb, ob, none⟩)]] w fun e w' => e = .returned (.bool (arM (mtN h) A.arrs B.arrs)) ∧ Below w.heap.size w w' := by
  have x7 := hA.d7
  have y7 := hB.d7
  rcases ar_one fa with ea | ⟨x, ea, a1⟩
  · rw [ea] at x7 ⊢
    exact arrs_met_none ba oa bb ob w hA.lt _ _ x7
  · rcases ar_one fb with eb | ⟨y, eb, b1⟩
    · rw [ea] at x7 ⊢
      rw [eb] at y7 ⊢
      exact arrs_met_out ba oa bb ob w hA.lt hB.lt _ _ _ _ _ (by simp) x7 y7
    · obtain ⟨sb, so, es, hs⟩ := hA.ar (by rw [ea]; simp)
      obtain ⟨qb, qo, eq, hq⟩ := hB.ar (by rw [eb]; simp)
      have k1 := hs 0 (by rw [ea]; simp)
      have k2 := hq 0 (by rw [eb]; simp)
      simp only [ea, List.getElem_cons_zero, Nat.zero_mul, Nat.add_zero] at k1
      simp only [eb, List.getElem_cons_zero, Nat.zero_mul, Nat.add_zero] at k2
      rw [ea, es] at x7
      rw [eb, eq] at y7
      rw [ea, eb]
      exact arrs_met_both ba oa bb ob w hA.lt hB.lt sb so qb qo _ _ _ _ (by simp) (by simp) k1.1.lt k2.1.lt x.min x.max y.min y.max _ x7 y7 k1.2.1 k1.2.2 k2.2.1 k2.2.2 (Hid.mk fun u hu => ih (by rw [eb]; simp) _ _ _ _ _ _ u (k1.1.keep hu) (k2.1.keep hu) a1 b1)
end

set_option maxHeartbeats 1600000 in
theorem met1_0 (B ba oa bb ob : Nat) (r : Bool) (w : World) (p0 : w.cell? ⟨B, 0, none⟩ = some (.pointer (some ⟨ba, oa, none⟩))) (p1 : w.cell? ⟨B, 1, none⟩ = some (.pointer (some ⟨bb, ob, none⟩)))
    (HC : Hid (Calls Try.prog 65 #[.agg #[.pointer (some ⟨ba, oa, none⟩), .pointer (some ⟨bb, ob, none⟩)]] w fun e w' => e = .returned (.bool r) ∧ Below w.heap.size w w')) : Calls Try.prog 50 #[.func (.func 65) #[] #[], .pointer (some ⟨B, 0, none⟩)] w fun e w' => e = .returned (.bool r) ∧ Below w.heap.size w w' := by
  go_enter Try.func50, Try.ntmps50
  go_wp2_with fail
  refine HC.out.mono ?_
  rintro e w2 ⟨rfl, hq⟩
  go_wp2_with fail
  go_ret
  exact ⟨rfl, hq⟩
set_option maxHeartbeats 1600000 in
theorem met1_1 (B ba oa bb ob : Nat) (r : Bool) (w : World) (p0 : w.cell? ⟨B, 0, none⟩ = some (.pointer (some ⟨ba, oa, none⟩))) (p1 : w.cell? ⟨B, 1, none⟩ = some (.pointer (some ⟨bb, ob, none⟩)))
    (HC : Hid (Calls Try.prog 66 #[.agg #[.pointer (some ⟨ba, oa, none⟩), .pointer (some ⟨bb, ob, none⟩)]] w fun e w' => e = .returned (.bool r) ∧ Below w.heap.size w w')) : Calls Try.prog 50 #[.func (.func 66) #[] #[], .pointer (some ⟨B, 0, none⟩)] w fun e w' => e = .returned (.bool r) ∧ Below w.heap.size w w' := by
  go_enter Try.func50, Try.ntmps50
  go_wp2_with fail
  refine HC.out.mono ?_
  rintro e w2 ⟨rfl, hq⟩
  go_wp2_with fail
  go_ret
  exact ⟨rfl, hq⟩
set_option maxHeartbeats 1600000 in
theorem met1_2 (B ba oa bb ob : Nat) (r : Bool) (w : World) (p0 : w.cell? ⟨B, 0, none⟩ = some (.pointer (some ⟨ba, oa, none⟩))) (p1 : w.cell? ⟨B, 1, none⟩ = some (.pointer (some ⟨bb, ob, none⟩)))
    (HC : Hid (Calls Try.prog 67 #[.agg #[.pointer (some ⟨ba, oa, none⟩), .pointer (some ⟨bb, ob, none⟩)]] w fun e w' => e = .returned (.bool r) ∧ Below w.heap.size w w')) : Calls Try.prog 50 #[.func (.func 67) #[] #[], .pointer (some ⟨B, 0, none⟩)] w fun e w' => e = .returned (.bool r) ∧ Below w.heap.size w w' := by
  go_enter Try.func50, Try.ntmps50
  go_wp2_with fail
  refine HC.out.mono ?_
  rintro e w2 ⟨rfl, hq⟩
  go_wp2_with fail
  go_ret
  exact ⟨rfl, hq⟩
set_option maxHeartbeats 1600000 in
theorem met1_3 (B ba oa bb ob : Nat) (r : Bool) (w : World) (p0 : w.cell? ⟨B, 0, none⟩ = some (.pointer (some ⟨ba, oa, none⟩))) (p1 : w.cell? ⟨B, 1, none⟩ = some (.pointer (some ⟨bb, ob, none⟩)))
    (HC : Hid (Calls Try.prog 68 #[.agg #[.pointer (some ⟨ba, oa, none⟩), .pointer (some ⟨bb, ob, none⟩)]] w fun e w' => e = .returned (.bool r) ∧ Below w.heap.size w w')) : Calls Try.prog 50 #[.func (.func 68) #[] #[], .pointer (some ⟨B, 0, none⟩)] w fun e w' => e = .returned (.bool r) ∧ Below w.heap.size w w' := by
  go_enter Try.func50, Try.ntmps50
  go_wp2_with fail
  refine HC.out.mono ?_
  rintro e w2 ⟨rfl, hq⟩
  go_wp2_with fail
  go_ret
  exact ⟨rfl, hq⟩
set_option maxHeartbeats 1600000 in
theorem met1_4 (B ba oa bb ob : Nat) (r : Bool) (w : World) (p0 : w.cell? ⟨B, 0, none⟩ = some (.pointer (some ⟨ba, oa, none⟩))) (p1 : w.cell? ⟨B, 1, none⟩ = some (.pointer (some ⟨bb, ob, none⟩)))
    (HC : Hid (Calls Try.prog 69 #[.agg #[.pointer (some ⟨ba, oa, none⟩), .pointer (some ⟨bb, ob, none⟩)]] w fun e w' => e = .returned (.bool r) ∧ Below w.heap.size w w')) : Calls Try.prog 50 #[.func (.func 69) #[] #[], .pointer (some ⟨B, 0, none⟩)] w fun e w' => e = .returned (.bool r) ∧ Below w.heap.size w w' := by
  go_enter Try.func50, Try.ntmps50
  go_wp2_with fail
  refine HC.out.mono ?_
  rintro e w2 ⟨rfl, hq⟩
  go_wp2_with fail
  go_ret
  exact ⟨rfl, hq⟩

theorem w_meeting (w : World) : Calls Try.prog 49 #[] w fun e w' => e = .returned (.slice (some ⟨w.heap.size, 0, none⟩) 5 5) ∧ w' = w.alloc (.cells #[.func (.func 65) #[] #[], .func (.func 66) #[] #[], .func (.func 67) #[] #[], .func (.func 68) #[] #[], .func (.func 69) #[] #[]] 66) := by
  go_enter Try.func49, Try.ntmps49
  go_wp2_with fail
  go_ret
  exact ⟨rfl, rfl⟩

/-- the row of what must hold, kind by kind -/
def mtF (k : Nat) : Value := match k with | 0 => .func (.func 65) #[] #[] | 1 => .func (.func 66) #[] #[] | 2 => .func (.func 67) #[] #[] | 3 => .func (.func 68) #[] #[] | _ => .func (.func 69) #[] #[]
set_option maxRecDepth 100000 in
set_option maxHeartbeats 3200000 in
theorem meet_plain (ba oa bb ob : Nat) (r : Bool) (w : World) (x0 : w.cell? ⟨ba, oa, none⟩ = some (.bool false)) (y0 : w.cell? ⟨bb, ob, none⟩ = some (.bool false))
    (HC : Hid (∀ P u, Bx2c w u P (.pointer (some ⟨ba, oa, none⟩)) (.pointer (some ⟨bb, ob, none⟩)) → ∀ so, (∀ u2, Below u.heap.size u u2 → ∃ b off, so = some ⟨b, off, none⟩ ∧ ∀ k, k < 5 → u2.cell? ⟨b, off + k, none⟩ = some (mtF k)) → Calls Try.prog 39 #[.slice so 5 5, .func (.func 50) #[] #[.pointer (some ⟨P, 0, none⟩)]] u fun e w' => e = .returned (.bool r) ∧ Below u.heap.size u w')) :
    Calls Try.prog 32 #[.pointer (some ⟨ba, oa, none⟩), .pointer (some ⟨bb, ob, none⟩)] w fun e w' => e = .returned (.bool r) ∧ Below w.heap.size w w' := by
  go_enter Try.func32, Try.ntmps32
  go_upto_region 5 with fail
  obtain ⟨PB, hPB⟩ : ∃ PB, w.heap.size = PB := ⟨_, rfl⟩
  obtain ⟨W2, hW2⟩ : ∃ W2, w.alloc (.cells #[.pointer (some ⟨ba, oa, none⟩), .pointer (some ⟨bb, ob, none⟩)] 63) = W2 := ⟨_, rfl⟩
  have HX : Hid (Bx2c w W2 PB (.pointer (some ⟨ba, oa, none⟩)) (.pointer (some ⟨bb, ob, none⟩))) := by rw [← hW2, ← hPB]; exact bx2c_new w _ _ _
  have HWq := Hid.mk hW2
  have HBq := Hid.mk hPB
  clear hW2 hPB
  go_upto_region 6 with fail
  try rw [HWq.out]
  try rw [HBq.out]
  clear HWq HBq x0 y0
  go_wp2_with fail
  refine (w_meeting _).mono ?_
  rintro e w3 ⟨rfl, hw3⟩
  obtain ⟨SB, hSB⟩ : ∃ SB, W2.heap.size = SB := ⟨_, rfl⟩
  have hb3 : Below W2.heap.size W2 w3 := by rw [hw3]; exact below1 W2 _
  have HX3 := Hid.mk (HX.out.keep hb3)
  have HR3 : Hid (w3.heap[SB]? = some (.cells #[.func (.func 65) #[] #[], .func (.func 66) #[] #[], .func (.func 67) #[] #[], .func (.func 68) #[] #[], .func (.func 69) #[] #[]] 66 (0, 0))) := by show _ = _; rw [hw3, ← hSB]; exact World.alloc_heap_new W2 _
  rw [hSB]
  clear hw3 hSB hb3
  have HC3 := Hid.mk (HC.out PB w3 HX3.out (some ⟨SB, 0, none⟩) (fun u hu => ⟨SB, 0, rfl, fun k hk => by
    have hr := (hu.block _ (lt_of_row' HR3.out)).trans HR3.out
    rw [Nat.zero_add]
    rw [cell_of_row _ _ k _ _ _ hr]
    match k, hk with
    | 0, _ => rfl
    | 1, _ => rfl
    | 2, _ => rfl
    | 3, _ => rfl
    | 4, _ => rfl⟩))
  go_wp2_with fail
  refine HC3.out.mono ?_
  rintro e w4 ⟨rfl, hq⟩
  have HX4 := Hid.mk (HX3.out.keep hq)
  clear hq
  go_wp2_with fail
  go_ret
  exact ⟨rfl, HX4.out.below⟩

theorem has_meets (h : Nat) (A B : TT) (ih : 0 < B.arrs.length ∨ 0 < B.objs.length → MtOk h) (ba oa bb ob : Nat) (w : World) (hA : PtT w (h + 1) A ba oa) (hB : PtT w (h + 1) B bb ob) (fa : fmN (h + 1) A = true) (fb : fmN (h + 1) B = true) (P : Nat) (u : World) (hu : Bx2c w u P (.pointer (some ⟨ba, oa, none⟩)) (.pointer (some ⟨bb, ob, none⟩))) (so : Option Addr) (hs : ∀ u2, Below u.heap.size u u2 → ∃ b off, so = some ⟨b, off, none⟩ ∧ ∀ k, k < 5 → u2.cell? ⟨b, off + k, none⟩ = some (mtF k)) :
    Calls Try.prog 39 #[.slice so 5 5, .func (.func 50) #[] #[.pointer (some ⟨P, 0, none⟩)]] u fun e w' => e = .returned (.bool (mtK (mtN h) A B)) ∧ Below u.heap.size u w' := by
  obtain ⟨a1, a2, a3, a4, _, _⟩ := fm_open fa
  obtain ⟨b1, b2, b3, b4, _, _⟩ := fm_open fb
  have key := has_met so 5 5 mtF (fun k => match k with | 0 => flM A B | 1 => spM A.nums B.nums | 2 => txM A B | 3 => arM (mtN h) A.arrs B.arrs | _ => obM (mtN h) A.objs B.objs) P u (Nat.le_refl _) (by decide) (Hid.mk fun u2 hu2 _ => hs u2 hu2)
    (Hid.mk fun k hk u2 hu2 => by
      have hx := hu.keep hu2
      obtain ⟨no, nc, xo, xc, ao, ac, oo, oc, hA'⟩ := (hA.keep hx.below).open
      obtain ⟨no2, nc2, xo2, xc2, ao2, ac2, oo2, oc2, hB'⟩ := (hB.keep hx.below).open
      match k, hk with
      | 0, _ => exact met1_0 P ba oa bb ob _ u2 hx.c0 hx.c1 (Hid.mk (w_flagsMeet h A B ba oa bb ob _ _ _ _ _ _ _ _ _ _ _ _ _ _ _ _ u2 hA' hB'))
      | 1, _ => exact met1_1 P ba oa bb ob _ u2 hx.c0 hx.c1 (Hid.mk (w_numsMeet h A B ba oa bb ob _ _ _ _ _ _ _ _ _ _ _ _ _ _ _ _ u2 hA' hB' a2 b2))
      | 2, _ => exact met1_2 P ba oa bb ob _ u2 hx.c0 hx.c1 (Hid.mk (w_textsMeet h A B ba oa bb ob _ _ _ _ _ _ _ _ _ _ _ _ _ _ _ _ u2 hA' hB' b1))
      | 3, _ => exact met1_3 P ba oa bb ob _ u2 hx.c0 hx.c1 (Hid.mk (w_arraysMeet h A B ba oa bb ob _ _ _ _ _ _ _ _ _ _ _ _ _ _ _ _ u2 hA' hB' (fun hh => ih (.inl hh)) a3 b3))
      | 4, _ => exact met1_4 P ba oa bb ob _ u2 hx.c0 hx.c1 (Hid.mk (w_objectsMeet h A B (fun hh => ih (.inr hh)) ba oa bb ob _ _ _ _ _ _ _ _ _ _ _ _ _ _ _ _ u2 hA' hB' a4 b4)))
    (Hid.mk fun k hk => by
      match k, hk with
      | 0, _ => exact ⟨_, rfl⟩
      | 1, _ => exact ⟨_, rfl⟩
      | 2, _ => exact ⟨_, rfl⟩
      | 3, _ => exact ⟨_, rfl⟩
      | 4, _ => exact ⟨_, rfl⟩)
  have e : ((List.range 5).any fun k => match k with | 0 => flM A B | 1 => spM A.nums B.nums | 2 => txM A B | 3 => arM (mtN h) A.arrs B.arrs | _ => obM (mtN h) A.objs B.objs) = mtK (mtN h) A B := by
    show (flM A B || (spM A.nums B.nums || (txM A B || (arM (mtN h) A.arrs B.arrs || (obM (mtN h) A.objs B.objs || false))))) = _
    unfold mtK
    cases flM A B <;> cases spM A.nums B.nums <;> cases txM A B <;> cases arM (mtN h) A.arrs B.arrs <;> cases obM (mtN h) A.objs B.objs <;> rfl
  rw [e] at key
  exact key
set_option maxRecDepth 100000 in
theorem kv_zero : ∀ a0 a1 a2 a3 a4 a5 a6 : Bool, (kvL [a0, a1, a2, a3, a4, a5, a6] == 0) = !(a0 || (a1 || (a2 || (a3 || (a4 || (a5 || a6)))))) := by decide +kernel
theorem kd_never (T : TT) : (kdN T != 0) = !T.never := by
  show (!(kdN T == 0)) = _
  unfold kdN kdV TT.never
  cases T.all with
  | true => rfl
  | false =>
    rw [if_neg (by simp)]
    unfold TT.bare
    have h := kv_zero T.nul T.fls T.tru (decide (0 < T.nums.length)) (T.any || decide (0 < T.texts.length)) (decide (0 < T.arrs.length)) (decide (0 < T.objs.length))
    rw [h]
    cases T.nul <;> cases T.fls <;> cases T.tru <;> cases T.any <;> cases T.nums <;> cases T.texts <;> cases T.arrs <;> cases T.objs <;> rfl
set_option maxRecDepth 100000 in
set_option maxHeartbeats 1600000 in
theorem w_some (h : Nat) (T : TT) (b off : Nat) (w : World) (hT : PtT w h T b off) : Calls Try.prog 48 #[.pointer (some ⟨b, off, none⟩)] w fun e w' => e = .returned (.bool (!T.never)) ∧ Below w.heap.size w w' := by
  obtain ⟨c0, c1, c2, c3, c4, c5, c6, c7, c8, ⟨e0, e1, e2, e3, e4, e5, e6, e7, e8⟩, hI⟩ := hT.ok
  have HC := Hid.mk (w_sKinds h T _ w hI)
  have HK := Hid.mk (kd_never T)
  obtain ⟨ta, tb, tc, td, ⟨teo, ten, tec⟩, tf, ⟨tgo, tgn, tgc⟩, ⟨tio, tinn, tic⟩, ⟨tjo, tjn, tjc⟩, esht⟩ := inT_shape hI
  simp only [Value.agg.injEq, Array.mk.injEq, List.cons.injEq, and_true] at esht
  obtain ⟨rfl, rfl, rfl, rfl, rfl, rfl, rfl, rfl, rfl⟩ := esht
  generalize kdN T = k at HC HK
  generalize (!T.never) = r at HK ⊢
  clear hI hT
  go_enter Try.func48, Try.ntmps48
  go_wp2_with fail
  refine HC.out.mono ?_
  rintro e w2 ⟨rfl, hq⟩
  go_wp2_with fail
  go_ret
  exact ⟨by rw [← HK.out]; rfl, hq⟩
set_option maxHeartbeats 1600000 in
theorem meet_all (ba oa bb ob : Nat) (r : Bool) (w : World) (x0 : w.cell? ⟨ba, oa, none⟩ = some (.bool true)) (HC : Hid (Calls Try.prog 48 #[.pointer (some ⟨bb, ob, none⟩)] w fun e w' => e = .returned (.bool r) ∧ Below w.heap.size w w')) : Calls Try.prog 32 #[.pointer (some ⟨ba, oa, none⟩), .pointer (some ⟨bb, ob, none⟩)] w fun e w' => e = .returned (.bool r) ∧ Below w.heap.size w w' := by
  go_enter Try.func32, Try.ntmps32
  go_wp2_with fail
  refine HC.out.mono ?_
  rintro e w2 ⟨rfl, hq⟩
  go_wp2_with fail
  go_ret
  exact ⟨rfl, hq⟩
set_option maxHeartbeats 1600000 in
theorem meet_all2 (ba oa bb ob : Nat) (r : Bool) (w : World) (x0 : w.cell? ⟨ba, oa, none⟩ = some (.bool false)) (y0 : w.cell? ⟨bb, ob, none⟩ = some (.bool true)) (HC : Hid (Calls Try.prog 48 #[.pointer (some ⟨ba, oa, none⟩)] w fun e w' => e = .returned (.bool r) ∧ Below w.heap.size w w')) : Calls Try.prog 32 #[.pointer (some ⟨ba, oa, none⟩), .pointer (some ⟨bb, ob, none⟩)] w fun e w' => e = .returned (.bool r) ∧ Below w.heap.size w w' := by
  go_enter Try.func32, Try.ntmps32
  go_wp2_with fail
  refine HC.out.mono ?_
  rintro e w2 ⟨rfl, hq⟩
  go_wp2_with fail
  go_ret
  exact ⟨rfl, hq⟩
/-- THE PROGRAM'S meet -/
theorem w_meet : ∀ h, MtOk h
  | 0 => fun A B ba oa bb ob u hA hB fa fb => by cases fa
  | h + 1 => fun A B ba oa bb ob u hA hB fa fb => by
    have ih := w_meet h
    obtain ⟨no, nc, xo, xc, ao, ac, oo, oc, hA'⟩ := hA.open
    obtain ⟨no2, nc2, xo2, xc2, ao2, ac2, oo2, oc2, hB'⟩ := hB.open
    have x0 := hA'.d0
    have y0 := hB'.d0
    unfold mtN
    cases ha : A.all with
    | true =>
      rw [ha] at x0
      rw [if_pos rfl]
      exact meet_all ba oa bb ob _ u x0 (Hid.mk (w_some (h + 1) B bb ob u hB))
    | false =>
      rw [ha] at x0
      rw [if_neg (by simp)]
      cases hb : B.all with
      | true =>
        rw [hb] at y0
        rw [if_pos rfl]
        exact meet_all2 ba oa bb ob _ u x0 y0 (Hid.mk (w_some (h + 1) A ba oa u hA))
      | false =>
        rw [hb] at y0
        rw [if_neg (by simp)]
        exact meet_plain ba oa bb ob _ u x0 y0 (Hid.mk fun P u2 hu so hs => has_meets h A B (fun _ => ih) ba oa bb ob u hA hB fa fb P u2 hu so hs)
set_option maxHeartbeats 1600000 in
theorem w_Below_v (A9 B9 : Array Value) (r : Bool) (w : World) (SHP : ∃ ta tb tc td teo ten tec tf tgo tgn tgc tio tinn tic tjo tjn tjc, A9 = #[.bool ta, .bool tb, .bool tc, .bool td, .slice teo ten tec, .bool tf, .slice tgo tgn tgc, .slice tio tinn tic, .slice tjo tjn tjc]) (SHQ : ∃ ta tb tc td teo ten tec tf tgo tgn tgc tio tinn tic tjo tjn tjc, B9 = #[.bool ta, .bool tb, .bool tc, .bool td, .slice teo ten tec, .bool tf, .slice tgo tgn tgc, .slice tio tinn tic, .slice tjo tjn tjc])
    (HC : Hid (Calls Try.prog 18 #[.pointer (some ⟨w.heap.size, 0, none⟩), .pointer (some ⟨w.heap.size + 1, 0, none⟩)] ((w.alloc (.cells A9 27)).alloc (.cells B9 27)) fun e w' => e = .returned (.bool r) ∧ Below w.heap.size w w')) :
    Calls Try.prog 8 #[.agg A9, .agg B9] w fun e w' => e = .returned (.bool (r)) ∧ Below w.heap.size w w' := by
  obtain ⟨ta, tb, tc, td, teo, ten, tec, tf, tgo, tgn, tgc, tio, tinn, tic, tjo, tjn, tjc, rfl⟩ := SHP
  obtain ⟨ua, ub, uc, ud, ueo, uen, uec, uf, ugo, ugn, ugc, uio, uinn, uic, ujo, ujn, ujc, rfl⟩ := SHQ
  go_enter Try.func8, Try.ntmps8
  go_wp2_with fail
  refine HC.out.mono ?_
  rintro e w2 ⟨rfl, hq⟩
  go_wp2_with fail
  go_ret
  exact ⟨rfl, hq⟩
theorem w_Below (h : Nat) (A B : TT) (va vb : Value) (w : World) (hA : InT w h A va) (hB : InT w h B vb) (fa : fmN h A = true) (fb : fmN h B = true) : Calls Try.prog 8 #[va, vb] w fun e w' => e = .returned (.bool (bwN h A B)) ∧ Below w.heap.size w w' := by
  obtain ⟨ta, tb, tc, td, ⟨teo, ten, tec⟩, tf, ⟨tgo, tgn, tgc⟩, ⟨tio, tinn, tic⟩, ⟨tjo, tjn, tjc⟩, rfl⟩ := inT_shape hA
  obtain ⟨ua, ub, uc, ud, ⟨ueo, uen, uec⟩, uf, ⟨ugo, ugn, ugc⟩, ⟨uio, uinn, uic⟩, ⟨ujo, ujn, ujc⟩, rfl⟩ := inT_shape hB
  have hx := bx2_new w #[.bool ta, .bool tb, .bool tc, .bool td, .slice teo ten tec, .bool tf, .slice tgo tgn tgc, .slice tio tinn tic, .slice tjo tjn tjc] #[.bool ua, .bool ub, .bool uc, .bool ud, .slice ueo uen uec, .bool uf, .slice ugo ugn ugc, .slice uio uinn uic, .slice ujo ujn ujc] 27
  refine w_Below_v _ _ _ w ⟨_, _, _, _, _, _, _, _, _, _, _, _, _, _, _, _, _, rfl⟩ ⟨_, _, _, _, _, _, _, _, _, _, _, _, _, _, _, _, _, rfl⟩ (Hid.mk ((w_lies h A B _ _ _ _ _ ⟨Nat.lt_trans (Nat.lt_succ_self _) hx.lt, _, _, _, _, _, _, _, _, _, ⟨hx.one 0, hx.one 1, hx.one 2, hx.one 3, hx.one 4, hx.one 5, hx.one 6, hx.one 7, hx.one 8⟩, hA.keep hx.below⟩ ⟨hx.lt, _, _, _, _, _, _, _, _, _, ⟨hx.two 0, hx.two 1, hx.two 2, hx.two 3, hx.two 4, hx.two 5, hx.two 6, hx.two 7, hx.two 8⟩, hB.keep hx.below⟩ fa fb).mono fun e w' ⟨he, hb⟩ => ⟨he, hx.below.trans (hb.mono hx.below.size)⟩))
set_option maxHeartbeats 1600000 in
theorem w_Apart_v (A9 B9 : Array Value) (r : Bool) (w : World) (SHP : ∃ ta tb tc td teo ten tec tf tgo tgn tgc tio tinn tic tjo tjn tjc, A9 = #[.bool ta, .bool tb, .bool tc, .bool td, .slice teo ten tec, .bool tf, .slice tgo tgn tgc, .slice tio tinn tic, .slice tjo tjn tjc]) (SHQ : ∃ ta tb tc td teo ten tec tf tgo tgn tgc tio tinn tic tjo tjn tjc, B9 = #[.bool ta, .bool tb, .bool tc, .bool td, .slice teo ten tec, .bool tf, .slice tgo tgn tgc, .slice tio tinn tic, .slice tjo tjn tjc])
    (HC : Hid (Calls Try.prog 32 #[.pointer (some ⟨w.heap.size, 0, none⟩), .pointer (some ⟨w.heap.size + 1, 0, none⟩)] ((w.alloc (.cells A9 27)).alloc (.cells B9 27)) fun e w' => e = .returned (.bool r) ∧ Below w.heap.size w w')) :
    Calls Try.prog 13 #[.agg A9, .agg B9] w fun e w' => e = .returned (.bool (!r)) ∧ Below w.heap.size w w' := by
  obtain ⟨ta, tb, tc, td, teo, ten, tec, tf, tgo, tgn, tgc, tio, tinn, tic, tjo, tjn, tjc, rfl⟩ := SHP
  obtain ⟨ua, ub, uc, ud, ueo, uen, uec, uf, ugo, ugn, ugc, uio, uinn, uic, ujo, ujn, ujc, rfl⟩ := SHQ
  go_enter Try.func13, Try.ntmps13
  go_wp2_with fail
  refine HC.out.mono ?_
  rintro e w2 ⟨rfl, hq⟩
  go_wp2_with fail
  go_ret
  exact ⟨rfl, hq⟩
theorem w_Apart (h : Nat) (A B : TT) (va vb : Value) (w : World) (hA : InT w h A va) (hB : InT w h B vb) (fa : fmN h A = true) (fb : fmN h B = true) : Calls Try.prog 13 #[va, vb] w fun e w' => e = .returned (.bool (!mtN h A B)) ∧ Below w.heap.size w w' := by
  obtain ⟨ta, tb, tc, td, ⟨teo, ten, tec⟩, tf, ⟨tgo, tgn, tgc⟩, ⟨tio, tinn, tic⟩, ⟨tjo, tjn, tjc⟩, rfl⟩ := inT_shape hA
  obtain ⟨ua, ub, uc, ud, ⟨ueo, uen, uec⟩, uf, ⟨ugo, ugn, ugc⟩, ⟨uio, uinn, uic⟩, ⟨ujo, ujn, ujc⟩, rfl⟩ := inT_shape hB
  have hx := bx2_new w #[.bool ta, .bool tb, .bool tc, .bool td, .slice teo ten tec, .bool tf, .slice tgo tgn tgc, .slice tio tinn tic, .slice tjo tjn tjc] #[.bool ua, .bool ub, .bool uc, .bool ud, .slice ueo uen uec, .bool uf, .slice ugo ugn ugc, .slice uio uinn uic, .slice ujo ujn ujc] 27
  refine w_Apart_v _ _ _ w ⟨_, _, _, _, _, _, _, _, _, _, _, _, _, _, _, _, _, rfl⟩ ⟨_, _, _, _, _, _, _, _, _, _, _, _, _, _, _, _, _, rfl⟩ (Hid.mk ((w_meet h A B _ _ _ _ _ ⟨Nat.lt_trans (Nat.lt_succ_self _) hx.lt, _, _, _, _, _, _, _, _, _, ⟨hx.one 0, hx.one 1, hx.one 2, hx.one 3, hx.one 4, hx.one 5, hx.one 6, hx.one 7, hx.one 8⟩, hA.keep hx.below⟩ ⟨hx.lt, _, _, _, _, _, _, _, _, _, ⟨hx.two 0, hx.two 1, hx.two 2, hx.two 3, hx.two 4, hx.two 5, hx.two 6, hx.two 7, hx.two 8⟩, hB.keep hx.below⟩ fa fb).mono fun e w' ⟨he, hb⟩ => ⟨he, hx.below.trans (hb.mono hx.below.size)⟩))
end Go.Proofs.Ytihhjplbpaafiaa
