import Derived.Test.YtbaknnpjbokilaaM34
import Derived.Test.YtbaknnpjbokilaaM19
import Derived.Lib.QuietBelow
import Derived.BigQuiet
import Derived.Deep.Cut
namespace Go.Proofs.Ytbaknnpjbokilaa
open Go.RowKit Go.Shelf Go.Sort
set_option linter.unusedVariables false
set_option linter.unusedSimpArgs false
attribute [local go_sem] Oper.semAt_some

/-- which of two rows of keys has the next one -/
def nearI (na nb : Nat) (x y : ByteArray) : Int := if na = 0 then 1 else if nb = 0 then -1 else Pl.cmpS x.toList y.toList
set_option maxRecDepth 100000 in
set_option maxHeartbeats 3200000 in
theorem w_nearer (ka : Option Addr) (na ca : Nat) (kb : Option Addr) (nb cb : Nat) (x y : ByteArray) (w : World) (ha : 0 < na → ∃ b off, ka = some ⟨b, off, none⟩ ∧ w.cell? ⟨b, off, none⟩ = some (.string x)) (hb : 0 < nb → ∃ b off, kb = some ⟨b, off, none⟩ ∧ w.cell? ⟨b, off, none⟩ = some (.string y)) :
    Calls Try.prog 48 #[.slice ka na ca, .slice kb nb cb] w fun e w' => e = .returned (.int .i64 (nearI na nb x y)) ∧ Below w.heap.size w w' := by
  by_cases h1 : na = 0
  · subst h1
    clear ha hb
    go_enter Try.func48, Try.ntmps48
    go_wp2_with fail
    go_ret
    exact ⟨rfl, Below.refl _ _⟩
  have n1 : ((na : Int) == 0) = false := by rw [beq_eq_false_iff_ne]; omega
  by_cases h2 : nb = 0
  · subst h2
    have e : nearI na 0 x y = -1 := by unfold nearI; rw [if_neg h1, if_pos rfl]
    rw [e]
    clear ha hb
    go_enter Try.func48, Try.ntmps48
    go_wp2_with fail
    go_ret
    exact ⟨rfl, Below.refl _ _⟩
  have n2 : ((nb : Int) == 0) = false := by rw [beq_eq_false_iff_ne]; omega
  have n3 : (0 : Int) < (na : Int) := by omega
  have n4 : (0 : Int) < (nb : Int) := by omega
  have n5 : 0 < na := by omega
  have n6 : 0 < nb := by omega
  have e : nearI na nb x y = Pl.cmpS x.toList y.toList := by unfold nearI; rw [if_neg h1, if_neg h2]
  rw [e]
  obtain ⟨b, off, rfl, c0⟩ := ha n5
  obtain ⟨b2, off2, rfl, c1⟩ := hb n6
  have A0 := fun d os => cell_regrown c0 d os
  have A1 := fun d os => cell_regrown c1 d os
  have HC : Hid (∀ (d : Nat) (os : Array Obj), Calls Try.prog 54 #[.string x, .string y] (grow (redrawn w d) os) fun e w' => e = .returned (.int .i64 (Pl.cmpS x.toList y.toList)) ∧ Below (grow (redrawn w d) os).heap.size (grow (redrawn w d) os) w') := fun d os => (w_CompareString x y (grow (redrawn w d) os)).mono fun e w' ⟨he, hw⟩ => ⟨he, by rw [hw]; exact Below.refl _ _⟩
  generalize Pl.cmpS x.toList y.toList = C at HC ⊢
  clear ha hb e h1 h2
  go_enter Try.func48, Try.ntmps48
  go_wp2_with fail
  refine wp_region_quiet_below (by kernel_rfl) (by kernel_rfl) ?_
  repeat (go_big_quiet_step (exact Calls.regrown_of (HC.out _ _)))
  refine wpQuiet_nil ?_
  intro w9 hw'
  have hbw9 : Below w.heap.size w w9 := by
    obtain ⟨⟨dq, osq⟩, rfl⟩ := hw'
    exact below_regrown w dq osq
  clear hw' A0 A1 c0 c1
  go_wp2_with fail
  go_ret
  exact ⟨rfl, hbw9⟩

set_option maxRecDepth 100000 in
set_option maxHeartbeats 3200000 in
/-- what Merge leaves of two fields -/
theorem w_second (x0 : Int) (x1 x2 : ByteArray) (x3 : Option Addr) (x4 x5 : Nat) (x6 : Option Addr) (x7 x8 : Nat) (y0 : Int) (y1 y2 : ByteArray) (y3 : Option Addr) (y4 y5 : Nat) (y6 : Option Addr) (y7 y8 : Nat) (w : World) :
    Calls Try.prog 29 #[.agg #[.int .i64 x0, .string x1, .string x2, .slice x3 x4 x5, .slice x6 x7 x8], .agg #[.int .i64 y0, .string y1, .string y2, .slice y3 y4 y5, .slice y6 y7 y8]] w fun e w' => e = .returned (.agg #[.int .i64 y0, .string y1, .string y2, .slice y3 y4 y5, .slice y6 y7 y8]) ∧ Below w.heap.size w w' := by
  go_enter Try.func29, Try.ntmps29
  go_upto_region 1 with fail
  obtain ⟨W3, hW3⟩ : ∃ W3, ((w.alloc (.cells #[.int .i64 x0, .string x1, .string x2, .slice x3 x4 x5, .slice x6 x7 x8] 25)).alloc (.cells #[.int .i64 y0, .string y1, .string y2, .slice y3 y4 y5, .slice y6 y7 y8] 25)).alloc (.cells #[.int .i64 0, .string ⟨#[]⟩, .string ⟨#[]⟩, .slice none 0 0, .slice none 0 0] 25) = W3 := ⟨_, rfl⟩
  obtain ⟨b1, b2, b3, b4⟩ := boxes3 w (.cells #[.int .i64 x0, .string x1, .string x2, .slice x3 x4 x5, .slice x6 x7 x8] 25) (.cells #[.int .i64 y0, .string y1, .string y2, .slice y3 y4 y5, .slice y6 y7 y8] 25) (.cells #[.int .i64 0, .string ⟨#[]⟩, .string ⟨#[]⟩, .slice none 0 0, .slice none 0 0] 25)
  have hb3 : Below w.heap.size w W3 := by rw [← hW3]; exact below_more (below2 w _ _) (below1 _ _)
  rw [hW3] at b2 b3
  rw [hW3]
  clear hW3 b1 b4
  have c0 := cell_of_row _ _ 0 _ _ _ b2
  have c1 := cell_of_row _ _ 1 _ _ _ b2
  have c2 := cell_of_row _ _ 2 _ _ _ b2
  have c3 := cell_of_row _ _ 3 _ _ _ b2
  have c4 := cell_of_row _ _ 4 _ _ _ b2
  have d0 := cell_of_row _ _ 0 _ _ _ b3
  have d1 := cell_of_row _ _ 1 _ _ _ b3
  have d2 := cell_of_row _ _ 2 _ _ _ b3
  have d3 := cell_of_row _ _ 3 _ _ _ b3
  have d4 := cell_of_row _ _ 4 _ _ _ b3
  have fr : ∀ j, W3.frozen? ⟨w.heap.size + 1 + 1, j, none⟩ = false := fun j => frozen_row b3
  obtain ⟨wz, hwz⟩ : ∃ wz, ((((W3.setCell ⟨w.heap.size + 1 + 1, 0, none⟩ (.int .i64 y0)).setCell ⟨w.heap.size + 1 + 1, 1, none⟩ (.string y1)).setCell ⟨w.heap.size + 1 + 1, 2, none⟩ (.string y2)).setCell ⟨w.heap.size + 1 + 1, 3, none⟩ (.slice y3 y4 y5)).setCell ⟨w.heap.size + 1 + 1, 4, none⟩ (.slice y6 y7 y8) = wz := ⟨_, rfl⟩
  obtain ⟨zb, zo, zs, zbl⟩ := set5 W3 (w.heap.size + 1 + 1) _ _ _ _ _ _ _ _ _ _ _ b3 wz hwz.symm
  have z0 := cell_of_row _ _ 0 _ _ _ zb
  have z1 := cell_of_row _ _ 1 _ _ _ zb
  have z2 := cell_of_row _ _ 2 _ _ _ zb
  have z3 := cell_of_row _ _ 3 _ _ _ zb
  have z4 := cell_of_row _ _ 4 _ _ _ zb
  have FIN : Hid (Below w.heap.size w wz) := hb3.trans (zbl _ (by omega))
  clear zb zo zs zbl b2 b3 hb3
  go_wp2_with fail
  (try simp only [Exit.inBlock, Exit.then])
  refine bodyPost_ret (v := .agg #[.int .i64 y0, .string y1, .string y2, .slice y3 y4 y5, .slice y6 y7 y8]) (by simp [results, Try.results29, go_sem, z0, z1, z2, z3, z4]) rfl ?_
  exact ⟨rfl, FIN.out⟩
end Go.Proofs.Ytbaknnpjbokilaa
