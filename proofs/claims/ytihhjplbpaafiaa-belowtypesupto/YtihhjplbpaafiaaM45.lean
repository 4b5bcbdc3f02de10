import Derived.Test.YtihhjplbpaafiaaM43
import Derived.Test.YtihhjplbpaafiaaM21
import Derived.Test.YtihhjplbpaafiaaM27
import Derived.Test.YtihhjplbpaafiaaM44
import Derived.Deep.Cut
namespace Go.Proofs.Ytihhjplbpaafiaa
open Go.RowKit Go.Shelf Go.Sort
set_option linter.unusedVariables false
set_option linter.unusedSimpArgs false
attribute [local go_sem] Oper.semAt_some

set_option maxHeartbeats 1600000 in
theorem formed12_v (sa sb sc sd : Bool) (seo : Option Addr) (sen sec : Nat) (sf : Bool) (sgo : Option Addr) (sgn sgc : Nat) (sio : Option Addr) (sinn sic : Nat) (sjo : Option Addr) (sjn sjc : Nat) (p q : Bool) (w : World) (H1 : Hid (∀ u, Below w.heap.size w u → Calls Try.prog 16 #[.agg #[.bool sa, .bool sb, .bool sc, .bool sd, .slice seo sen sec, .bool sf, .slice sgo sgn sgc, .slice sio sinn sic, .slice sjo sjn sjc]] u fun e w' => e = .returned (.bool p) ∧ Below u.heap.size u w')) (H2 : Hid (∀ u, Below w.heap.size w u → Calls Try.prog 17 #[.agg #[.bool sa, .bool sb, .bool sc, .bool sd, .slice seo sen sec, .bool sf, .slice sgo sgn sgc, .slice sio sinn sic, .slice sjo sjn sjc]] u fun e w' => e = .returned (.bool q) ∧ Below u.heap.size u w')) : Calls Try.prog 7 #[.agg #[.bool sa, .bool sb, .bool sc, .bool sd, .slice seo sen sec, .bool sf, .slice sgo sgn sgc, .slice sio sinn sic, .slice sjo sjn sjc]] w fun e w' => e = .returned (.bool (p && q)) ∧ Below w.heap.size w w' := by
  have HX := Hid.mk (bx1_new w #[.bool sa, .bool sb, .bool sc, .bool sd, .slice seo sen sec, .bool sf, .slice sgo sgn sgc, .slice sio sinn sic, .slice sjo sjn sjc] 27)
  obtain ⟨W0, hW0⟩ : ∃ W0, w.alloc (.cells #[.bool sa, .bool sb, .bool sc, .bool sd, .slice seo sen sec, .bool sf, .slice sgo sgn sgc, .slice sio sinn sic, .slice sjo sjn sjc] 27) = W0 := ⟨_, rfl⟩
  rw [hW0] at HX
  have p0 : W0.cell? ⟨w.heap.size, 0, none⟩ = _ := HX.out.one 0
  have p1 : W0.cell? ⟨w.heap.size, 1, none⟩ = _ := HX.out.one 1
  have p2 : W0.cell? ⟨w.heap.size, 2, none⟩ = _ := HX.out.one 2
  have p3 : W0.cell? ⟨w.heap.size, 3, none⟩ = _ := HX.out.one 3
  have p4 : W0.cell? ⟨w.heap.size, 4, none⟩ = _ := HX.out.one 4
  have p5 : W0.cell? ⟨w.heap.size, 5, none⟩ = _ := HX.out.one 5
  have p6 : W0.cell? ⟨w.heap.size, 6, none⟩ = _ := HX.out.one 6
  have p7 : W0.cell? ⟨w.heap.size, 7, none⟩ = _ := HX.out.one 7
  have p8 : W0.cell? ⟨w.heap.size, 8, none⟩ = _ := HX.out.one 8
  cases p with
  | false =>
    go_enter Try.func7, Try.ntmps7
    go_wp2_with fail
    refine (H1.out _ HX.out.below).mono ?_
    rintro e w1 ⟨rfl, hq⟩
    have HX1 := Hid.mk (HX.out.keep hq)
    clear hq
    go_wp2_with fail
    go_ret
    exact ⟨rfl, HX1.out.below⟩
  | true =>
    go_enter Try.func7, Try.ntmps7
    go_wp2_with fail
    refine (H1.out _ HX.out.below).mono ?_
    rintro e w1 ⟨rfl, hq⟩
    have HX1 := Hid.mk (HX.out.keep hq)
    clear hq p0 p1 p2 p3 p4 p5 p6 p7 p8
    have p0 : w1.cell? ⟨w.heap.size, 0, none⟩ = _ := HX1.out.one 0
    have p1 : w1.cell? ⟨w.heap.size, 1, none⟩ = _ := HX1.out.one 1
    have p2 : w1.cell? ⟨w.heap.size, 2, none⟩ = _ := HX1.out.one 2
    have p3 : w1.cell? ⟨w.heap.size, 3, none⟩ = _ := HX1.out.one 3
    have p4 : w1.cell? ⟨w.heap.size, 4, none⟩ = _ := HX1.out.one 4
    have p5 : w1.cell? ⟨w.heap.size, 5, none⟩ = _ := HX1.out.one 5
    have p6 : w1.cell? ⟨w.heap.size, 6, none⟩ = _ := HX1.out.one 6
    have p7 : w1.cell? ⟨w.heap.size, 7, none⟩ = _ := HX1.out.one 7
    have p8 : w1.cell? ⟨w.heap.size, 8, none⟩ = _ := HX1.out.one 8
    go_wp2_with fail
    refine (H2.out _ HX1.out.below).mono ?_
    rintro e w2 ⟨rfl, hq⟩
    have HX2 := Hid.mk (HX1.out.keep hq)
    clear hq
    go_wp2_with fail
    go_ret
    exact ⟨rfl, HX2.out.below⟩
theorem w_formed12 (h : Nat) (A : TT) (va : Value) (w : World) (hA : InT w h A va) (tA : tpN h A ≤ 1048576) : Calls Try.prog 7 #[va] w fun e w' => e = .returned (.bool (decide (tpN h A ≤ 20000) && fmN h A)) ∧ Below w.heap.size w w' := by
  obtain ⟨sa, sb, sc, sd, ⟨seo, sen, sec⟩, sf, ⟨sgo, sgn, sgc⟩, ⟨sio, sinn, sic⟩, ⟨sjo, sjn, sjc⟩, rfl⟩ := inT_shape hA
  exact formed12_v _ _ _ _ _ _ _ _ _ _ _ _ _ _ _ _ _ _ _ w (Hid.mk fun u hu => w_FitType h A _ u (hA.keep hu) tA) (Hid.mk fun u hu => w_tFormed h A _ u (hA.keep hu))

/-- the law's types: the text a, all texts, null -/
def lvA : TT := .mk false false false false false [] [⟨#[97]⟩] [] []
def lvB : TT := .mk false false false false true [] [] [] []
def lvN : TT := .mk false true false false false [] [] [] []
theorem lv_fm : fmN 1 lvA = true ∧ fmN 1 lvB = true ∧ fmN 1 lvN = true := ⟨by decide +kernel, by decide +kernel, by decide +kernel⟩
theorem lv_bw : bwN 1 lvA lvB = true ∧ bwN 1 lvB lvA = false ∧ mtN 1 lvA lvN = false ∧ mtN 1 lvA lvB = true := ⟨by decide +kernel, by decide +kernel, by decide +kernel, by decide +kernel⟩
theorem lv_inB (W : World) : InT W 1 lvB (.agg #[.bool false, .bool false, .bool false, .bool false, .slice none 0 0, .bool true, .slice none 0 0, .slice none 0 0, .slice none 0 0]) :=
  ⟨none, 0, none, 0, none, 0, none, 0, rfl, ⟨Nat.le_refl _, Nat.le_refl _, Nat.le_refl _, Nat.le_refl _⟩, ⟨Nat.zero_le _, Nat.zero_le _, Nat.zero_le _, Nat.zero_le _⟩, fun p hp => absurd hp (List.not_mem_nil), fun p hp => absurd hp (List.not_mem_nil), ⟨fun h => absurd h (Nat.lt_irrefl 0)⟩, ⟨fun h => absurd h (Nat.lt_irrefl 0)⟩, fun h => absurd h (Nat.lt_irrefl 0), fun h => absurd h (Nat.lt_irrefl 0)⟩
theorem lv_inN (W : World) : InT W 1 lvN (.agg #[.bool false, .bool true, .bool false, .bool false, .slice none 0 0, .bool false, .slice none 0 0, .slice none 0 0, .slice none 0 0]) :=
  ⟨none, 0, none, 0, none, 0, none, 0, rfl, ⟨Nat.le_refl _, Nat.le_refl _, Nat.le_refl _, Nat.le_refl _⟩, ⟨Nat.zero_le _, Nat.zero_le _, Nat.zero_le _, Nat.zero_le _⟩, fun p hp => absurd hp (List.not_mem_nil), fun p hp => absurd hp (List.not_mem_nil), ⟨fun h => absurd h (Nat.lt_irrefl 0)⟩, ⟨fun h => absurd h (Nat.lt_irrefl 0)⟩, fun h => absurd h (Nat.lt_irrefl 0), fun h => absurd h (Nat.lt_irrefl 0)⟩
theorem lv_inA {W : World} {b : Nat} (hl : b < W.heap.size) (hc : W.cell? ⟨b, 0, none⟩ = some (.string ⟨#[97]⟩)) : InT W 1 lvA (.agg #[.bool false, .bool false, .bool false, .bool false, .slice none 0 0, .bool false, .slice (some ⟨b, 0, none⟩) 1 1, .slice none 0 0, .slice none 0 0]) := by
  refine ⟨none, 0, some ⟨b, 0, none⟩, 1, none, 0, none, 0, rfl, ⟨Nat.le_refl _, Nat.le_refl _, Nat.le_refl _, Nat.le_refl _⟩, ⟨Nat.zero_le _, by show 1 ≤ _; decide, Nat.zero_le _, Nat.zero_le _⟩, fun p hp => absurd hp (List.not_mem_nil), fun p hp => ?_, ⟨fun h => absurd h (Nat.lt_irrefl 0)⟩, ⟨fun _ => ⟨b, 0, rfl, hl, fun i hi => ?_⟩⟩, fun h => absurd h (Nat.lt_irrefl 0), fun h => absurd h (Nat.lt_irrefl 0)⟩
  · obtain rfl : p = ⟨#[97]⟩ := List.mem_singleton.1 hp
    decide
  · obtain rfl : i = 0 := by have : i < 1 := hi; omega
    exact hc
set_option maxRecDepth 100000 in
set_option maxHeartbeats 3200000 in
theorem w_lives12 (w : World) : Calls Try.prog 6 #[] w fun e w' => e = .returned (.bool true) ∧ Below w.heap.size w w' := by
  obtain ⟨w0, hw0⟩ : ∃ w0, ((w.alloc (.cells #[.string ⟨#[97]⟩] 9)).alloc (.cells #[.bool false, .bool false, .bool false, .bool false, .slice none 0 0, .bool false, .slice (some ⟨w.heap.size, 0, none⟩) 1 1, .slice none 0 0, .slice none 0 0] 27)).alloc (.cells #[.bool false, .bool false, .bool false, .bool false, .slice none 0 0, .bool true, .slice none 0 0, .slice none 0 0, .slice none 0 0] 27) = w0 := ⟨_, rfl⟩
  have hB : Below w.heap.size w w0 := by rw [← hw0]; exact (((Below.refl _ w).alloc (Nat.le_refl _) _).alloc (by simp) _).alloc (by simp; omega) _
  have r0 : w0.heap[w.heap.size]? = some (.cells #[.string ⟨#[97]⟩] 9 (0, 0)) := by rw [← hw0, Below.heap_alloc _ _ _ (by simp; omega), Below.heap_alloc _ _ _ (by simp)]; exact World.alloc_heap_new w _
  have r1 : w0.heap[w.heap.size + 1]? = some (.cells #[.bool false, .bool false, .bool false, .bool false, .slice none 0 0, .bool false, .slice (some ⟨w.heap.size, 0, none⟩) 1 1, .slice none 0 0, .slice none 0 0] 27 (0, 0)) := by
    rw [← hw0, Below.heap_alloc _ _ _ (by simp)]
    have h := World.alloc_heap_new (w.alloc (.cells #[.string ⟨#[97]⟩] 9)) (.cells #[.bool false, .bool false, .bool false, .bool false, .slice none 0 0, .bool false, .slice (some ⟨w.heap.size, 0, none⟩) 1 1, .slice none 0 0, .slice none 0 0] 27)
    rw [World.size_alloc] at h
    exact h
  have r2 : w0.heap[w.heap.size + 1 + 1]? = some (.cells #[.bool false, .bool false, .bool false, .bool false, .slice none 0 0, .bool true, .slice none 0 0, .slice none 0 0, .slice none 0 0] 27 (0, 0)) := by
    rw [← hw0]
    have h := World.alloc_heap_new ((w.alloc (.cells #[.string ⟨#[97]⟩] 9)).alloc (.cells #[.bool false, .bool false, .bool false, .bool false, .slice none 0 0, .bool false, .slice (some ⟨w.heap.size, 0, none⟩) 1 1, .slice none 0 0, .slice none 0 0] 27)) (.cells #[.bool false, .bool false, .bool false, .bool false, .slice none 0 0, .bool true, .slice none 0 0, .slice none 0 0, .slice none 0 0] 27)
    rw [World.size_alloc, World.size_alloc] at h
    exact h
  have HB0 := Hid.mk hB
  have HR0 : Hid (w0.heap[w.heap.size]? = _) := r0
  have HR1 : Hid (w0.heap[w.heap.size + 1]? = _) := r1
  have HR2 : Hid (w0.heap[w.heap.size + 1 + 1]? = _) := r2
  have HWq := Hid.mk hw0
  clear hB r0 r1 r2 hw0
  obtain ⟨f1, f2, f3⟩ := lv_fm
  obtain ⟨b1, b2, b3, b4⟩ := lv_bw
  have HAB : Hid (∀ u b, b < u.heap.size → u.cell? ⟨b, 0, none⟩ = some (.string ⟨#[97]⟩) → Calls Try.prog 8 #[.agg #[.bool false, .bool false, .bool false, .bool false, .slice none 0 0, .bool false, .slice (some ⟨b, 0, none⟩) 1 1, .slice none 0 0, .slice none 0 0], .agg #[.bool false, .bool false, .bool false, .bool false, .slice none 0 0, .bool true, .slice none 0 0, .slice none 0 0, .slice none 0 0]] u fun e w' => e = .returned (.bool true) ∧ Below u.heap.size u w') := fun u b hl hc => by have h := w_Below 1 lvA lvB _ _ u (lv_inA hl hc) (lv_inB u) f1 f2; rw [b1] at h; exact h
  have HBA : Hid (∀ u b, b < u.heap.size → u.cell? ⟨b, 0, none⟩ = some (.string ⟨#[97]⟩) → Calls Try.prog 8 #[.agg #[.bool false, .bool false, .bool false, .bool false, .slice none 0 0, .bool true, .slice none 0 0, .slice none 0 0, .slice none 0 0], .agg #[.bool false, .bool false, .bool false, .bool false, .slice none 0 0, .bool false, .slice (some ⟨b, 0, none⟩) 1 1, .slice none 0 0, .slice none 0 0]] u fun e w' => e = .returned (.bool false) ∧ Below u.heap.size u w') := fun u b hl hc => by have h := w_Below 1 lvB lvA _ _ u (lv_inB u) (lv_inA hl hc) f2 f1; rw [b2] at h; exact h
  have HAN : Hid (∀ u b, b < u.heap.size → u.cell? ⟨b, 0, none⟩ = some (.string ⟨#[97]⟩) → Calls Try.prog 13 #[.agg #[.bool false, .bool false, .bool false, .bool false, .slice none 0 0, .bool false, .slice (some ⟨b, 0, none⟩) 1 1, .slice none 0 0, .slice none 0 0], .agg #[.bool false, .bool true, .bool false, .bool false, .slice none 0 0, .bool false, .slice none 0 0, .slice none 0 0, .slice none 0 0]] u fun e w' => e = .returned (.bool true) ∧ Below u.heap.size u w') := fun u b hl hc => by have h := w_Apart 1 lvA lvN _ _ u (lv_inA hl hc) (lv_inN u) f1 f3; rw [b3] at h; exact h
  have HAP : Hid (∀ u b, b < u.heap.size → u.cell? ⟨b, 0, none⟩ = some (.string ⟨#[97]⟩) → Calls Try.prog 13 #[.agg #[.bool false, .bool false, .bool false, .bool false, .slice none 0 0, .bool false, .slice (some ⟨b, 0, none⟩) 1 1, .slice none 0 0, .slice none 0 0], .agg #[.bool false, .bool false, .bool false, .bool false, .slice none 0 0, .bool true, .slice none 0 0, .slice none 0 0, .slice none 0 0]] u fun e w' => e = .returned (.bool false) ∧ Below u.heap.size u w') := fun u b hl hc => by have h := w_Apart 1 lvA lvB _ _ u (lv_inA hl hc) (lv_inB u) f1 f2; rw [b4] at h; exact h
  clear f1 f2 f3 b1 b2 b3 b4
  go_enter Try.func6, Try.ntmps6
  go_upto_region 3 with fail
  try rw [HWq.out]
  clear HWq
  have p0 := cell_of_row _ _ 0 _ _ _ HR1.out
  have q0 := cell_of_row _ _ 0 _ _ _ HR2.out
  have p1 := cell_of_row _ _ 1 _ _ _ HR1.out
  have q1 := cell_of_row _ _ 1 _ _ _ HR2.out
  have p2 := cell_of_row _ _ 2 _ _ _ HR1.out
  have q2 := cell_of_row _ _ 2 _ _ _ HR2.out
  have p3 := cell_of_row _ _ 3 _ _ _ HR1.out
  have q3 := cell_of_row _ _ 3 _ _ _ HR2.out
  have p4 := cell_of_row _ _ 4 _ _ _ HR1.out
  have q4 := cell_of_row _ _ 4 _ _ _ HR2.out
  have p5 := cell_of_row _ _ 5 _ _ _ HR1.out
  have q5 := cell_of_row _ _ 5 _ _ _ HR2.out
  have p6 := cell_of_row _ _ 6 _ _ _ HR1.out
  have q6 := cell_of_row _ _ 6 _ _ _ HR2.out
  have p7 := cell_of_row _ _ 7 _ _ _ HR1.out
  have q7 := cell_of_row _ _ 7 _ _ _ HR2.out
  have p8 := cell_of_row _ _ 8 _ _ _ HR1.out
  have q8 := cell_of_row _ _ 8 _ _ _ HR2.out
  have z0 := cell_of_row _ _ 0 _ _ _ HR0.out
  go_wp2_with fail
  refine (HAB.out _ w.heap.size (lt_of_row' HR0.out) z0).mono ?_
  rintro e w1 ⟨rfl, hq⟩
  have HB1 := Hid.mk (HB0.out.trans (hq.mono HB0.out.size))
  have HR0 : Hid (w1.heap[w.heap.size]? = _) := (hq.block _ (lt_of_row' HR0.out)).trans HR0.out
  have HR1 : Hid (w1.heap[w.heap.size + 1]? = _) := (hq.block _ (lt_of_row' HR1.out)).trans HR1.out
  have HR2 : Hid (w1.heap[w.heap.size + 1 + 1]? = _) := (hq.block _ (lt_of_row' HR2.out)).trans HR2.out
  clear hq z0 p0 q0 p1 q1 p2 q2 p3 q3 p4 q4 p5 q5 p6 q6 p7 q7 p8 q8
  have p0 := cell_of_row _ _ 0 _ _ _ HR1.out
  have q0 := cell_of_row _ _ 0 _ _ _ HR2.out
  have p1 := cell_of_row _ _ 1 _ _ _ HR1.out
  have q1 := cell_of_row _ _ 1 _ _ _ HR2.out
  have p2 := cell_of_row _ _ 2 _ _ _ HR1.out
  have q2 := cell_of_row _ _ 2 _ _ _ HR2.out
  have p3 := cell_of_row _ _ 3 _ _ _ HR1.out
  have q3 := cell_of_row _ _ 3 _ _ _ HR2.out
  have p4 := cell_of_row _ _ 4 _ _ _ HR1.out
  have q4 := cell_of_row _ _ 4 _ _ _ HR2.out
  have p5 := cell_of_row _ _ 5 _ _ _ HR1.out
  have q5 := cell_of_row _ _ 5 _ _ _ HR2.out
  have p6 := cell_of_row _ _ 6 _ _ _ HR1.out
  have q6 := cell_of_row _ _ 6 _ _ _ HR2.out
  have p7 := cell_of_row _ _ 7 _ _ _ HR1.out
  have q7 := cell_of_row _ _ 7 _ _ _ HR2.out
  have p8 := cell_of_row _ _ 8 _ _ _ HR1.out
  have q8 := cell_of_row _ _ 8 _ _ _ HR2.out
  have z0 := cell_of_row _ _ 0 _ _ _ HR0.out
  go_wp2_with fail
  refine (HBA.out _ w.heap.size (lt_of_row' HR0.out) z0).mono ?_
  rintro e w2 ⟨rfl, hq⟩
  have HB2 := Hid.mk (HB1.out.trans (hq.mono HB1.out.size))
  have HR0 : Hid (w2.heap[w.heap.size]? = _) := (hq.block _ (lt_of_row' HR0.out)).trans HR0.out
  have HR1 : Hid (w2.heap[w.heap.size + 1]? = _) := (hq.block _ (lt_of_row' HR1.out)).trans HR1.out
  have HR2 : Hid (w2.heap[w.heap.size + 1 + 1]? = _) := (hq.block _ (lt_of_row' HR2.out)).trans HR2.out
  clear hq z0 p0 q0 p1 q1 p2 q2 p3 q3 p4 q4 p5 q5 p6 q6 p7 q7 p8 q8
  have p0 := cell_of_row _ _ 0 _ _ _ HR1.out
  have q0 := cell_of_row _ _ 0 _ _ _ HR2.out
  have p1 := cell_of_row _ _ 1 _ _ _ HR1.out
  have q1 := cell_of_row _ _ 1 _ _ _ HR2.out
  have p2 := cell_of_row _ _ 2 _ _ _ HR1.out
  have q2 := cell_of_row _ _ 2 _ _ _ HR2.out
  have p3 := cell_of_row _ _ 3 _ _ _ HR1.out
  have q3 := cell_of_row _ _ 3 _ _ _ HR2.out
  have p4 := cell_of_row _ _ 4 _ _ _ HR1.out
  have q4 := cell_of_row _ _ 4 _ _ _ HR2.out
  have p5 := cell_of_row _ _ 5 _ _ _ HR1.out
  have q5 := cell_of_row _ _ 5 _ _ _ HR2.out
  have p6 := cell_of_row _ _ 6 _ _ _ HR1.out
  have q6 := cell_of_row _ _ 6 _ _ _ HR2.out
  have p7 := cell_of_row _ _ 7 _ _ _ HR1.out
  have q7 := cell_of_row _ _ 7 _ _ _ HR2.out
  have p8 := cell_of_row _ _ 8 _ _ _ HR1.out
  have q8 := cell_of_row _ _ 8 _ _ _ HR2.out
  have z0 := cell_of_row _ _ 0 _ _ _ HR0.out
  go_wp2_with fail
  refine (HAN.out _ w.heap.size (lt_of_row' HR0.out) z0).mono ?_
  rintro e w3 ⟨rfl, hq⟩
  have HB3 := Hid.mk (HB2.out.trans (hq.mono HB2.out.size))
  have HR0 : Hid (w3.heap[w.heap.size]? = _) := (hq.block _ (lt_of_row' HR0.out)).trans HR0.out
  have HR1 : Hid (w3.heap[w.heap.size + 1]? = _) := (hq.block _ (lt_of_row' HR1.out)).trans HR1.out
  have HR2 : Hid (w3.heap[w.heap.size + 1 + 1]? = _) := (hq.block _ (lt_of_row' HR2.out)).trans HR2.out
  clear hq z0 p0 q0 p1 q1 p2 q2 p3 q3 p4 q4 p5 q5 p6 q6 p7 q7 p8 q8
  have p0 := cell_of_row _ _ 0 _ _ _ HR1.out
  have q0 := cell_of_row _ _ 0 _ _ _ HR2.out
  have p1 := cell_of_row _ _ 1 _ _ _ HR1.out
  have q1 := cell_of_row _ _ 1 _ _ _ HR2.out
  have p2 := cell_of_row _ _ 2 _ _ _ HR1.out
  have q2 := cell_of_row _ _ 2 _ _ _ HR2.out
  have p3 := cell_of_row _ _ 3 _ _ _ HR1.out
  have q3 := cell_of_row _ _ 3 _ _ _ HR2.out
  have p4 := cell_of_row _ _ 4 _ _ _ HR1.out
  have q4 := cell_of_row _ _ 4 _ _ _ HR2.out
  have p5 := cell_of_row _ _ 5 _ _ _ HR1.out
  have q5 := cell_of_row _ _ 5 _ _ _ HR2.out
  have p6 := cell_of_row _ _ 6 _ _ _ HR1.out
  have q6 := cell_of_row _ _ 6 _ _ _ HR2.out
  have p7 := cell_of_row _ _ 7 _ _ _ HR1.out
  have q7 := cell_of_row _ _ 7 _ _ _ HR2.out
  have p8 := cell_of_row _ _ 8 _ _ _ HR1.out
  have q8 := cell_of_row _ _ 8 _ _ _ HR2.out
  have z0 := cell_of_row _ _ 0 _ _ _ HR0.out
  go_wp2_with fail
  refine (HAP.out _ w.heap.size (lt_of_row' HR0.out) z0).mono ?_
  rintro e w4 ⟨rfl, hq⟩
  have HB4 := Hid.mk (HB3.out.trans (hq.mono HB3.out.size))
  have HR0 : Hid (w4.heap[w.heap.size]? = _) := (hq.block _ (lt_of_row' HR0.out)).trans HR0.out
  have HR1 : Hid (w4.heap[w.heap.size + 1]? = _) := (hq.block _ (lt_of_row' HR1.out)).trans HR1.out
  have HR2 : Hid (w4.heap[w.heap.size + 1 + 1]? = _) := (hq.block _ (lt_of_row' HR2.out)).trans HR2.out
  clear hq z0 p0 q0 p1 q1 p2 q2 p3 q3 p4 q4 p5 q5 p6 q6 p7 q7 p8 q8
  go_wp2_with fail
  go_ret
  exact ⟨by first | rfl | simp, HB4.out⟩
end Go.Proofs.Ytihhjplbpaafiaa
namespace Go.Proofs.Ytihhjplbpaafiaa
open Go.RowKit Go.Shelf Go.Sort
set_option linter.unusedVariables false
set_option linter.unusedSimpArgs false

theorem hasP_is (n : ByteArray) (p : ByteArray × ByteArray) : hasP n p = hasS n p.1 p.2 := rfl
theorem sp_in {ps qs : List (ByteArray × ByteArray)} {n : ByteArray} (ha : spB ps = true) (hb : spB qs = true) (hn : Pl.formed n.data.toList = true) (hi : spL ps qs = true) (hx : inNum n ps = true) : inNum n qs = true := by
  rcases sp_one ha with rfl | ⟨p, rfl, a1, a2⟩
  · cases hx
  · rcases sp_one hb with rfl | ⟨q, rfl, b1, b2⟩
    · cases hi
    · exact inS_has a1 a2 b1 b2 hn hi hx
theorem tx_in {A B : TT} {s : ByteArray} (hi : txL A B = true) (hx : (A.any || hasK A.texts s) = true) : (B.any || hasK B.texts s) = true := by
  unfold txL at hi
  cases hb : B.any with
  | true => rfl
  | false =>
    rw [hb, Bool.false_or, Bool.and_eq_true] at hi
    rw [Bool.false_or]
    cases ha : A.any with
    | true => rw [ha] at hi; cases hi.1
    | false =>
      rw [ha, Bool.false_or] at hx
      obtain ⟨k, hk, e⟩ := List.any_eq_true.1 hx
      have h2 := List.all_eq_true.1 hi.2 k hk
      rw [(eqS_iff _ _).1 e] at h2
      exact h2
theorem ar_in {f : VT → TT → Bool} {g : TT → TT → Bool} {its : List VT} (P : VT → Prop) (hP : ∀ x ∈ its, P x) {xs ys : List AR} (hi : arL g xs ys = true) (hx : inArs f its xs = true) (h : ∀ x A B, P x → g A B = true → f x A = true → (∃ a ∈ xs, a.item = A) → (∃ b ∈ ys, b.item = B) → f x B = true) : inArs f its ys = true := by
  match xs, ys, hi, hx with
  | [], _, _, hx => cases hx
  | _ :: _, [], hi, _ => cases hi
  | a :: xs, b :: ys, hi, hx =>
    have hi' : arX g a b = true := hi
    have hx' : inAr f its a = true := hx
    show inAr f its b = true
    unfold arX at hi'
    unfold inAr at hx' ⊢
    rw [Bool.and_eq_true, List.all_eq_true] at hx' ⊢
    rw [Bool.and_eq_true] at hi'
    obtain ⟨h1, h2⟩ := hi'
    obtain ⟨h3, h4⟩ := hx'
    simp only [Bool.not_eq_true', Bool.or_eq_false_iff, Bool.and_eq_false_iff, decide_eq_false_iff_not] at h1 h3
    constructor
    · simp only [Bool.not_eq_true', Bool.or_eq_false_iff, Bool.and_eq_false_iff, decide_eq_false_iff_not]
      omega
    · intro x hxm
      rw [Bool.or_eq_true, decide_eq_true_eq] at h2
      rcases h2 with h2 | h2
      · have hl : 0 < its.length := List.length_pos_of_mem hxm
        omega
      · exact h x _ _ (hP x hxm) h2 (h4 x hxm) ⟨a, List.mem_cons_self .., rfl⟩ ⟨b, List.mem_cons_self .., rfl⟩
/-- what a field's name says of a value's field -/
theorem ob_at {f : VT → TT → Bool} {V : VT} {o : OB} (ok : OkO o) (hx : inOb f V o = true) (k6 : V.kind = 6) {s : ByteArray} {y : VT} (hy : getL V.keys V.items s = some y) (hm : ∃ j, ∃ (h1 : j < V.keys.length) (h2 : j < V.items.length), V.keys[j] = s ∧ V.items[j] = y) : f y (fldO o s).1 = true := by
  unfold inOb at hx
  rw [Bool.and_eq_true, List.all_eq_true, List.all_eq_true] at hx
  have e : fldO o s = lkF (zipO o) o.rest s := lk_fld _ _ _ _ _
  by_cases hs : s ∈ o.names
  · rw [← zip_names ok] at hs
    obtain ⟨x, hxm, rfl⟩ := List.mem_map.1 hs
    have h1 := hx.1 x hxm
    unfold inF at h1
    have h2 : getV V x.1 = some y := by unfold getV; rw [if_pos k6]; exact hy
    rw [h2] at h1
    rw [e, lk_mem (zip_ris ok) hxm]
    exact h1
  · obtain ⟨j, h1, h2, e1, e2⟩ := hm
    have hz : j < (V.keys.zip V.items).length := by rw [List.length_zip]; omega
    have h3 := hx.2 _ (List.getElem_mem hz)
    rw [List.getElem_zip] at h3
    have h4 : (hasK o.names V.keys[j] || f V.items[j] o.rest) = true := h3
    rw [e1, e2] at h4
    have h5 : hasK o.names s = false := by
      cases e2 : hasK o.names s with
      | false => rfl
      | true =>
        obtain ⟨z, hz, e3⟩ := List.any_eq_true.1 e2
        exact absurd ((eqS_iff _ _).1 e3 ▸ hz) hs
    rw [h5, Bool.false_or] at h4
    rw [e, lk_none (fun z hz e4 => hs (by rw [← zip_names ok]; exact e4 ▸ List.mem_map.2 ⟨z, hz, rfl⟩))]
    exact h4
theorem get_at : ∀ {ks : List ByteArray} {its : List VT} {s : ByteArray} {y : VT}, ks.length = its.length → getL ks its s = some y → ∃ j, ∃ (h1 : j < ks.length) (h2 : j < its.length), ks[j] = s ∧ its[j] = y
  | [], _, _, _, _, h => by cases h
  | k :: ks, [], _, _, hl, _ => by simp at hl
  | k :: ks, x :: its, s, y, hl, h => by
    unfold getL at h
    split at h
    · next e =>
      have : x = y := by simpa using h
      exact ⟨0, by simp, by simp, (eqS_iff _ _).1 e, this⟩
    · obtain ⟨j, h1, h2, e1, e2⟩ := get_at (ks := ks) (its := its) (by simpa using hl) (by simpa using h)
      exact ⟨j + 1, by simpa using h1, by simpa using h2, by simpa using e1, by simpa using e2⟩
theorem get_some {ks : List ByteArray} {its : List VT} (hl : ks.length = its.length) (hr : rK ks ks.length = true) {j : Nat} (hj : j < ks.length) : getL ks its ks[j] = some (its[j]'(by omega)) := by
  have hne : ∀ q, (hq : q < ks.length) → q < j → eqS ks[q] ks[j] = false := fun q hq hqj => by
    have h1 := rise_ltB hr j hj q hqj
    cases e : eqS ks[q] ks[j] with
    | false => rfl
    | true => rw [(eqS_iff _ _).1 e] at h1; exact absurd h1 (List.lt_irrefl _)
  rw [getL_at hj ((eqS_iff _ _).2 rfl) hne, List.getElem?_eq_getElem]
theorem fld_none {o : OB} (ok : OkO o) {s : ByteArray} (hs : s ∉ o.names) : fldO o s = (o.rest, false) :=
  (lk_fld _ _ _ _ _).trans (lk_none (fun z hz e4 => hs (by rw [← zip_names ok]; exact e4 ▸ List.mem_map.2 ⟨z, hz, rfl⟩)))
theorem fld_mem {o : OB} (ok : OkO o) (s : ByteArray) : (fldO o s).1 = o.rest ∨ (fldO o s).1 ∈ o.fields := by
  by_cases hs : s ∈ o.names
  · rw [← zip_names ok] at hs
    obtain ⟨z, hz, rfl⟩ := List.mem_map.1 hs
    right
    have e : fldO o z.1 = z.2 := (lk_fld _ _ _ _ _).trans (lk_mem (zip_ris ok) hz)
    rw [e]
    have hz' : z ∈ o.names.zip (o.fields.zip o.must) := hz
    have h2 := (List.of_mem_zip hz').2
    exact (List.of_mem_zip h2).1
  · left; rw [fld_none ok hs]
/-- an object of one alternative is of another that it lies in -/
theorem ob_in {f : VT → TT → Bool} {g : TT → TT → Bool} {its : List VT} {ks : List ByteArray} {a b : OB} (oa : OkO a) (ob : OkO b) (hl : ks.length = its.length) (hr : rK ks ks.length = true) (hi : obX g a b = true) (hx : inOb f (.mk 6 .empty .empty its ks) a = true)
    (h : ∀ x A B, x ∈ its → g A B = true → f x A = true → (A = a.rest ∨ A ∈ a.fields) → (B = b.rest ∨ B ∈ b.fields) → f x B = true) : inOb f (.mk 6 .empty .empty its ks) b = true := by
  have hfa : ∀ s, (fldO a s).1 = a.rest ∨ (fldO a s).1 ∈ a.fields := fun s => fld_mem oa s
  have hfb : ∀ s, (fldO b s).1 = b.rest ∨ (fldO b s).1 ∈ b.fields := fun s => fld_mem ob s
  unfold obX at hi
  rw [Bool.and_eq_true, List.all_eq_true] at hi
  have hfit : ∀ s, s ∈ a.names ∨ s ∈ b.names → fitF g (fldO a s) (fldO b s) = true := fun s hs => hi.1 s (List.mem_append.2 hs)
  have hg : ∀ s, g (fldO a s).1 (fldO b s).1 = true := fun s => by
    by_cases hs : s ∈ a.names ∨ s ∈ b.names
    · have := hfit s hs
      unfold fitF at this
      rw [Bool.and_eq_true] at this
      exact this.2
    · have ea : fldO a s = (a.rest, false) := fld_none oa (fun h => hs (.inl h))
      have eb : fldO b s = (b.rest, false) := fld_none ob (fun h => hs (.inr h))
      rw [ea, eb]; exact hi.2
  have hat : ∀ j, (hj : j < ks.length) → f (its[j]'(by omega)) (fldO b ks[j]).1 = true := fun j hj => by
    have h1 := ob_at oa hx rfl (s := ks[j]) (y := its[j]'(by omega)) (get_some hl hr hj) ⟨j, hj, (by show j < its.length; omega), rfl, rfl⟩
    exact h _ _ _ (List.getElem_mem _) (hg ks[j]) h1 (hfa _) (hfb _)
  unfold inOb
  rw [Bool.and_eq_true, List.all_eq_true, List.all_eq_true]
  constructor
  · intro x hxm
    have hxm' : x ∈ zipO b := hxm
    unfold inF
    have e : getV (.mk 6 .empty .empty its ks) x.1 = getL ks its x.1 := rfl
    rw [e]
    have eb : fldO b x.1 = x.2 := (lk_fld _ _ _ _ _).trans (lk_mem (zip_ris ob) hxm')
    have hsb : x.1 ∈ b.names := by rw [← zip_names ob]; exact List.mem_map.2 ⟨x, hxm', rfl⟩
    cases hgt : getL ks its x.1 with
    | some y =>
      obtain ⟨j, h1, h2, e1, e2⟩ := get_at hl hgt
      have := hat j h1
      rw [e1, eb] at this
      show f y x.2.1 = true
      rw [← e2]; exact this
    | none =>
      show (!x.2.2) = true
      have h1 := hfit x.1 (.inr hsb)
      rw [eb] at h1
      unfold fitF at h1
      rw [Bool.and_eq_true] at h1
      cases hm : x.2.2 with
      | false => rfl
      | true =>
        rw [hm] at h1
        have h2 : (fldO a x.1).2 = true := by simpa using h1.1
        have hsa : x.1 ∈ a.names := by
          by_cases hs : x.1 ∈ a.names
          · exact hs
          · rw [fld_none oa hs] at h2; cases h2
        rw [← zip_names oa] at hsa
        obtain ⟨z, hz, e3⟩ := List.mem_map.1 hsa
        have ea : fldO a z.1 = z.2 := (lk_fld _ _ _ _ _).trans (lk_mem (zip_ris oa) hz)
        have e3' : z.1 = x.1 := e3
        rw [e3'] at ea
        unfold inOb at hx
        rw [Bool.and_eq_true, List.all_eq_true] at hx
        have h5 := hx.1 z hz
        unfold inF at h5
        have e6 : getV (.mk 6 .empty .empty its ks) z.1 = none := by rw [e3']; exact hgt
        rw [e6] at h5
        rw [ea] at h2
        simp [h2] at h5
  · intro p hp
    obtain ⟨j, hj, rfl⟩ := List.getElem_of_mem hp
    have hj' : j < ks.length := by have h1 : (VT.keys (.mk 6 .empty .empty its ks)).length = ks.length := rfl; rw [List.length_zip] at hj; have : (VT.keys (.mk 6 .empty .empty its ks)).length = ks.length := rfl; omega
    rw [List.getElem_zip]
    show (hasK b.names ks[j] || f (its[j]'(by omega)) b.rest) = true
    cases hh : hasK b.names ks[j] with
    | true => rfl
    | false =>
      rw [Bool.false_or]
      have hs : ks[j] ∉ b.names := fun hs => by
        have : hasK b.names ks[j] = true := List.any_eq_true.2 ⟨_, hs, (eqS_iff _ _).2 rfl⟩
        rw [hh] at this; cases this
      have := hat j hj'
      rw [fld_none ob hs] at this
      exact this
end Go.Proofs.Ytihhjplbpaafiaa
namespace Go.Proofs.Ytihhjplbpaafiaa
open Go.RowKit Go.Shelf Go.Sort
set_option linter.unusedVariables false
set_option linter.unusedSimpArgs false

theorem in0 (h : Nat) (T : TT) : inN (h + 1) (.mk 0 .empty .empty [] []) T = (T.all || T.nul) := by rw [inN]; rfl
theorem in1 (h : Nat) (T : TT) : inN (h + 1) (.mk 1 .empty .empty [] []) T = (T.all || T.fls) := by rw [inN]; rfl
theorem in2 (h : Nat) (T : TT) : inN (h + 1) (.mk 2 .empty .empty [] []) T = (T.all || T.tru) := by rw [inN]; rfl
theorem in3 (h : Nat) (n : ByteArray) (T : TT) : inN (h + 1) (.mk 3 n .empty [] []) T = (T.all || inNum n T.nums) := by rw [inN]; rfl
theorem in4 (h : Nat) (s : ByteArray) (T : TT) : inN (h + 1) (.mk 4 .empty s [] []) T = (T.all || (T.any || hasK T.texts s)) := by rw [inN]; rfl
theorem in5 (h : Nat) (i : List VT) (T : TT) : inN (h + 1) (.mk 5 .empty .empty i []) T = (T.all || inArs (inN h) i T.arrs) := by rw [inN]; rfl
theorem in6 (h : Nat) (i : List VT) (ks : List ByteArray) (T : TT) : inN (h + 1) (.mk 6 .empty .empty i ks) T = (T.all || T.objs.any (inOb (inN h) (.mk 6 .empty .empty i ks))) := by rw [inN]; rfl
theorem in_evB (h : Nat) (V : VT) : inN (h + 1) V ttEv = true := by rw [inN]; rfl
theorem form_posB : ∀ {hv : Nat} {V : VT}, formN hv V = true → ∃ m, hv = m + 1
  | 0, _, h => by cases h
  | m + 1, _, _ => ⟨m, rfl⟩
theorem hasP_none (n : ByteArray) : hasP n (.empty, .empty) = true := by
  unfold hasP
  have e : ByteArray.empty.toList.isEmpty = true := by rw [Lib.toList_data]; rfl
  rw [e]
  rfl
theorem in_laid {hv : Nat} (m : Nat) {V : VT} (hf : formN hv V = true) : inN (m + 2) V laidT = true := by
  obtain ⟨k, rfl⟩ := form_posB hf
  rcases form_open hf with (rfl | rfl | rfl) | ⟨n, rfl, hn⟩ | ⟨t, rfl, ht⟩ | ⟨i, rfl, hi⟩ | ⟨i, ks, rfl, hl, hr, ho, hi⟩
  · rw [in0]; rfl
  · rw [in1]; rfl
  · rw [in2]; rfl
  · rw [in3]
    show (false || hasP n (.empty, .empty)) = true
    rw [hasP_none]; rfl
  · rw [in4]; rfl
  · rw [in5]
    show (false || inAr (inN (m + 1)) i (.mk ttEv 0 (-1))) = true
    rw [Bool.false_or]
    unfold inAr
    rw [Bool.and_eq_true, List.all_eq_true]
    refine ⟨?_, fun x _ => in_evB m x⟩
    show (!(decide ((i.length : Int) < 0) || (decide ((0 : Int) ≤ -1) && decide ((-1 : Int) < (i.length : Int))))) = true
    have : ¬ (i.length : Int) < 0 := by omega
    simp [this]
  · rw [in6]
    show (false || (inOb (inN (m + 1)) (.mk 6 .empty .empty i ks) (.mk [] [] [] ttEv) || false)) = true
    rw [Bool.false_or, Bool.or_false]
    unfold inOb
    rw [Bool.and_eq_true, List.all_eq_true, List.all_eq_true]
    refine ⟨fun x hx => absurd hx (List.not_mem_nil), fun p _ => ?_⟩
    show (hasK [] p.1 || inN (m + 1) p.2 ttEv) = true
    rw [in_evB, Bool.or_true]
theorem ar_fm {f : TT → Bool} {l : List AR} (h : arB f l = true) : ∀ a ∈ l, f a.item = true := by
  rcases ar_one h with rfl | ⟨a, rfl, h1⟩
  · intro a ha; cases ha
  · intro b hb
    obtain rfl := List.mem_singleton.1 hb
    exact h1
theorem ar_min {f : TT → Bool} {a : AR} (h : arB f [a] = true) : 0 ≤ a.min := by
  have h' : arOk f a = true := h
  unfold arOk at h'
  rw [Bool.and_eq_true] at h'
  have h1 := h'.1
  simp only [Bool.not_eq_true', Bool.or_eq_false_iff, decide_eq_false_iff_not] at h1
  omega
theorem bwK_zero {B : TT} : bwK (bwN 0) laidT B = false := by
  have e : arL (bwN 0) laidT.arrs B.arrs = false := by
    cases B.arrs with
    | nil => rfl
    | cons y l =>
      show (_ && (decide ((-1 : Int) = 0) || false)) = false
      simp
  unfold bwK
  rw [e]
  simp
/-- WHAT LIES BELOW ANOTHER TYPE HAS NO VALUE THAT ISN'T OF THAT -/
theorem bw_in : ∀ (h hv : Nat) (V : VT) (A B : TT), formN hv V = true → fmN h A = true → fmN h B = true → bwN h A B = true → inN h V A = true → inN h V B = true
  | 0, _, _, _, _, _, _, _, _, hi => by cases hi
  | h + 1, hv, V, A, B, hf, fa, fb, hb, hi => by
    have ih := bw_in h
    rw [bwN, Bool.or_eq_true] at hb
    rcases hb with hb | hb
    · rw [inN, hb]; rfl
    · obtain ⟨X, fX, aX, iX, bX⟩ : ∃ X, fmN (h + 1) X = true ∧ X.all = false ∧ inN (h + 1) V X = true ∧ bwK (bwN h) X B = true := by
        cases ha : A.all with
        | false => exact ⟨A, fa, ha, hi, by rw [laid_none ha] at hb; exact hb⟩
        | true =>
          rw [laid_all ha] at hb
          cases h with
          | zero => rw [bwK_zero] at hb; cases hb
          | succ m => exact ⟨laidT, fm_laid m, rfl, in_laid m hf, hb⟩
      obtain ⟨_, a2, a3, a4, _, _⟩ := fm_open fX
      obtain ⟨_, b2, b3, b4, _, _⟩ := fm_open fb
      unfold bwK at bX
      rw [Bool.and_eq_true, Bool.and_eq_true, Bool.and_eq_true, Bool.and_eq_true] at bX
      obtain ⟨l1, l2, l3, l4, l5⟩ := bX
      unfold flL at l1
      rw [Bool.and_eq_true, Bool.and_eq_true] at l1
      obtain ⟨m, rfl⟩ := form_posB hf
      rcases form_open hf with (rfl | rfl | rfl) | ⟨n, rfl, hn⟩ | ⟨t, rfl, ht⟩ | ⟨i, rfl, hfi⟩ | ⟨i, ks, rfl, hl, hr, ho, hfi⟩
      · rw [in0, aX, Bool.false_or] at iX
        rw [iX] at l1
        rw [in0, show B.nul = true from by simpa using l1.1, Bool.or_true]
      · rw [in1, aX, Bool.false_or] at iX
        rw [iX] at l1
        rw [in1, show B.fls = true from by simpa using l1.2.1, Bool.or_true]
      · rw [in2, aX, Bool.false_or] at iX
        rw [iX] at l1
        rw [in2, show B.tru = true from by simpa using l1.2.2, Bool.or_true]
      · rw [in3, aX, Bool.false_or] at iX
        rw [in3, sp_in a2 b2 hn l2 iX, Bool.or_true]
      · rw [in4, aX, Bool.false_or] at iX
        rw [in4, tx_in l3 iX, Bool.or_true]
      · rw [in5, aX, Bool.false_or] at iX
        rw [in5, ar_in (fun x => formN m x = true) hfi l4 iX (fun x A' B' hx hg hxA hA hB => by
          obtain ⟨a, ha, rfl⟩ := hA
          obtain ⟨b, hb, rfl⟩ := hB
          exact ih m x _ _ hx (ar_fm a3 a ha) (ar_fm b3 b hb) hg hxA), Bool.or_true]
      · rw [in6, aX, Bool.false_or] at iX
        obtain ⟨a, ha, hia⟩ := List.any_eq_true.1 iX
        unfold obL at l5
        obtain ⟨b, hb, hib⟩ := List.any_eq_true.1 (List.all_eq_true.1 l5 a ha)
        obtain ⟨oa, ra, ga⟩ := ob_open (a4 a ha)
        obtain ⟨ob, rb, gb⟩ := ob_open (b4 b hb)
        have key := ob_in oa ob hl hr hib hia (fun x A' B' hx hg hxA hA hB => by
          have fA : fmN h A' = true := by rcases hA with rfl | e; exact ra; exact ga _ e
          have fB : fmN h B' = true := by rcases hB with rfl | e; exact rb; exact gb _ e
          exact ih m x _ _ (hfi x hx) fA fB hg hxA)
        rw [in6, List.any_eq_true.2 ⟨b, hb, key⟩, Bool.or_true]
/-- never has no value -/
theorem in_never {h hv : Nat} {V : VT} {T : TT} (hf : formN hv V = true) (hi : inN h V T = true) : T.never = false := by
  obtain ⟨m, rfl⟩ := form_posB hf
  cases h with
  | zero => cases hi
  | succ h =>
    cases e : T.never with
    | false => rfl
    | true =>
      exfalso
      obtain ⟨a, b, c, d, f, nu, tx, ar, ob⟩ := T
      have e' : (!a && (TT.mk a b c d f nu tx ar ob).bare) = true := e
      unfold TT.bare bareT at e'
      cases a with
      | true => cases e'
      | false =>
        rcases form_open hf with (rfl | rfl | rfl) | ⟨n, rfl, hn⟩ | ⟨t, rfl, ht⟩ | ⟨i, rfl, hfi⟩ | ⟨i, ks, rfl, hl, hr, ho, hfi⟩
        · rw [in0] at hi; have hi' : b = true := hi; subst hi'; simp [TT.nul] at e'
        · rw [in1] at hi; have hi' : c = true := hi; subst hi'; simp [TT.fls] at e'
        · rw [in2] at hi; have hi' : d = true := hi; subst hi'; simp [TT.tru] at e'
        · rw [in3] at hi
          have hi' : inNum n nu = true := hi
          cases nu with
          | nil => cases hi'
          | cons p l => simp [TT.nums] at e'
        · rw [in4] at hi
          have hi' : (f || hasK tx t) = true := hi
          cases f with
          | true => simp [TT.any] at e'
          | false =>
            cases tx with
            | nil => cases hi'
            | cons p l => simp [TT.texts] at e'
        · rw [in5] at hi
          have hi' : inArs (inN h) i ar = true := hi
          cases ar with
          | nil => cases hi'
          | cons p l => simp [TT.arrs] at e'
        · rw [in6] at hi
          have hi' : ob.any (inOb (inN h) (.mk 6 .empty .empty i ks)) = true := hi
          cases ob with
          | nil => cases hi'
          | cons p l => simp [TT.objs] at e'
theorem sp_met {ps qs : List (ByteArray × ByteArray)} {n : ByteArray} (ha : spB ps = true) (hb : spB qs = true) (hn : Pl.formed n.data.toList = true) (hx : inNum n ps = true) (hy : inNum n qs = true) : spM ps qs = true := by
  have one : ∀ {a b : ByteArray} (p q : ByteArray × ByteArray), bdB p.1 = true → bdB q.2 = true → hasP n p = true → hasP n q = true → abv p.1 q.2 = false := fun {a b} p q h1 h2 hp hq => by
    cases e1 : p.1.toList.isEmpty with
    | true => exact abv_l e1
    | false =>
      cases e2 : q.2.toList.isEmpty with
      | true => exact abv_r e2
      | false =>
        have f1 := bd_formed h1 (fun h => by rw [h] at e1; cases e1)
        have f2 := bd_formed h2 (fun h => by rw [h] at e2; cases e2)
        unfold hasP at hp hq
        rw [e1] at hp
        rw [e2] at hq
        simp only [Bool.not_false, Bool.true_and, Bool.false_or, Bool.and_eq_true, Bool.not_eq_true', decide_eq_false_iff_not, decide_eq_true_eq] at hp hq
        have g1 : numC p.1 n ≤ 0 := by rw [numC_ord.sw _ _ hn f1]; omega
        have g2 := numC_ord.tr _ _ _ f1 hn f2 g1 hq.2
        show decide (0 < numC p.1 q.2) = false
        exact decide_eq_false (by omega)
  rcases sp_one ha with rfl | ⟨p, rfl, a1, a2⟩
  · cases hx
  · rcases sp_one hb with rfl | ⟨q, rfl, b1, b2⟩
    · cases hy
    · show (!abv p.1 q.2 && !abv q.1 p.2) = true
      rw [one (a := p.1) (b := p.1) p q a1 b2 hx hy, one (a := p.1) (b := p.1) q p b1 a2 hy hx]
      rfl
theorem tx_met {A B : TT} {s : ByteArray} (hx : (A.any || hasK A.texts s) = true) (hy : (B.any || hasK B.texts s) = true) : txM A B = true := by
  have pos : ∀ {l : List ByteArray}, hasK l s = true → decide (0 < l.length) = true := fun {l} h => by
    obtain ⟨k, hk, _⟩ := List.any_eq_true.1 h
    exact decide_eq_true (List.length_pos_of_mem hk)
  unfold txM
  cases ha : A.any with
  | true =>
    rw [if_pos rfl]
    cases hb : B.any with
    | true => rfl
    | false => rw [hb, Bool.false_or] at hy; rw [pos hy]; rfl
  | false =>
    rw [ha, Bool.false_or] at hx
    rw [if_neg (by simp)]
    cases hb : B.any with
    | true => rw [if_pos rfl, pos hx]
    | false =>
      rw [hb, Bool.false_or] at hy
      rw [if_neg (by simp)]
      obtain ⟨k, hk, e⟩ := List.any_eq_true.1 hx
      refine List.any_eq_true.2 ⟨k, hk, ?_⟩
      rw [(eqS_iff _ _).1 e]; exact hy
theorem ob_must {f : VT → TT → Bool} {its : List VT} {ks : List ByteArray} {o : OB} (ok : OkO o) (hx : inOb f (.mk 6 .empty .empty its ks) o = true) {s : ByteArray} (hm : (fldO o s).2 = true) : ∃ y, getL ks its s = some y := by
  have hsa : s ∈ o.names := by
    by_cases hs : s ∈ o.names
    · exact hs
    · rw [fld_none ok hs] at hm; cases hm
  rw [← zip_names ok] at hsa
  obtain ⟨z, hz, rfl⟩ := List.mem_map.1 hsa
  have ea : fldO o z.1 = z.2 := (lk_fld _ _ _ _ _).trans (lk_mem (zip_ris ok) hz)
  rw [ea] at hm
  unfold inOb at hx
  rw [Bool.and_eq_true, List.all_eq_true] at hx
  have h5 := hx.1 z hz
  unfold inF at h5
  cases e : getL ks its z.1 with
  | some y => exact ⟨y, rfl⟩
  | none =>
    have e6 : getV (.mk 6 .empty .empty its ks) z.1 = none := e
    rw [e6] at h5
    simp [hm] at h5
/-- WHAT HAS NO VALUE IN COMMON HAS NONE -/
theorem mt_in : ∀ (h hv : Nat) (V : VT) (A B : TT), formN hv V = true → fmN h A = true → fmN h B = true → inN h V A = true → inN h V B = true → mtN h A B = true
  | 0, _, _, _, _, _, _, _, hi, _ => by cases hi
  | h + 1, hv, V, A, B, hf, fa, fb, hi, hj => by
    have ih := mt_in h
    unfold mtN
    cases ha : A.all with
    | true => rw [if_pos rfl, in_never hf hj]; rfl
    | false =>
      rw [if_neg (by simp)]
      cases hb : B.all with
      | true => rw [if_pos rfl, in_never hf hi]; rfl
      | false =>
        rw [if_neg (by simp)]
        obtain ⟨_, a2, a3, a4, _, _⟩ := fm_open fa
        obtain ⟨_, b2, b3, b4, _, _⟩ := fm_open fb
        unfold mtK flM
        obtain ⟨m, rfl⟩ := form_posB hf
        rcases form_open hf with (rfl | rfl | rfl) | ⟨n, rfl, hn⟩ | ⟨t, rfl, ht⟩ | ⟨i, rfl, hfi⟩ | ⟨i, ks, rfl, hl, hr, ho, hfi⟩
        · rw [in0, ha, Bool.false_or] at hi
          rw [in0, hb, Bool.false_or] at hj
          rw [hi, hj]; simp
        · rw [in1, ha, Bool.false_or] at hi
          rw [in1, hb, Bool.false_or] at hj
          rw [hi, hj]; simp
        · rw [in2, ha, Bool.false_or] at hi
          rw [in2, hb, Bool.false_or] at hj
          rw [hi, hj]; simp
        · rw [in3, ha, Bool.false_or] at hi
          rw [in3, hb, Bool.false_or] at hj
          rw [sp_met a2 b2 hn hi hj]; simp
        · rw [in4, ha, Bool.false_or] at hi
          rw [in4, hb, Bool.false_or] at hj
          rw [tx_met hi hj]; simp
        · rw [in5, ha, Bool.false_or] at hi
          rw [in5, hb, Bool.false_or] at hj
          have key : arM (mtN h) A.arrs B.arrs = true := by
            rcases ar_one a3 with ea | ⟨x, ea, a1⟩
            · rw [ea] at hi; cases hi
            · rcases ar_one b3 with eb | ⟨y, eb, b1⟩
              · rw [eb] at hj; cases hj
              · rw [ea, eb]
                rw [ea] at hi a3
                rw [eb] at hj b3
                have mx := ar_min a3
                have my := ar_min b3
                have hi' : inAr (inN h) i x = true := hi
                have hj' : inAr (inN h) i y = true := hj
                show arY (mtN h) x y = true
                unfold inAr at hi' hj'
                rw [Bool.and_eq_true, List.all_eq_true] at hi' hj'
                obtain ⟨i1, i2⟩ := hi'
                obtain ⟨j1, j2⟩ := hj'
                simp only [Bool.not_eq_true', Bool.or_eq_false_iff, Bool.and_eq_false_iff, decide_eq_false_iff_not] at i1 j1
                unfold arY longI
                rw [Bool.and_eq_true, Bool.or_eq_true, decide_eq_true_eq]
                constructor
                · simp only [Bool.not_eq_true', Bool.or_eq_false_iff, Bool.and_eq_false_iff, decide_eq_false_iff_not]
                  omega
                · by_cases hz : max x.min y.min = 0
                  · exact .inl hz
                  · right
                    cases i with
                    | nil => simp at i1 j1; omega
                    | cons v l =>
                      have hv := List.mem_cons_self (a := v) (l := l)
                      exact ih m v _ _ (hfi v hv) a1 b1 (i2 v hv) (j2 v hv)
          rw [key]; simp
        · rw [in6, ha, Bool.false_or] at hi
          rw [in6, hb, Bool.false_or] at hj
          obtain ⟨a, hma, hia⟩ := List.any_eq_true.1 hi
          obtain ⟨b, hmb, hib⟩ := List.any_eq_true.1 hj
          obtain ⟨oa, ra, ga⟩ := ob_open (a4 a hma)
          obtain ⟨ob, rb, gb⟩ := ob_open (b4 b hmb)
          have key : obY (mtN h) a b = true := by
            unfold obY
            rw [List.all_eq_true]
            intro s _
            unfold metF
            rw [Bool.or_eq_true]
            by_cases hm : (fldO a s).2 = true ∨ (fldO b s).2 = true
            · right
              obtain ⟨y, hy⟩ : ∃ y, getL ks i s = some y := by
                rcases hm with hm | hm
                · exact ob_must oa hia hm
                · exact ob_must ob hib hm
              obtain ⟨j, h1, h2, e1, e2⟩ := get_at hl hy
              have k1 := ob_at oa hia rfl (s := s) (y := y) hy ⟨j, h1, h2, e1, e2⟩
              have k2 := ob_at ob hib rfl (s := s) (y := y) hy ⟨j, h1, h2, e1, e2⟩
              have fA : fmN h (fldO a s).1 = true := by rcases fld_mem oa s with e | e; exact e ▸ ra; exact ga _ e
              have fB : fmN h (fldO b s).1 = true := by rcases fld_mem ob s with e | e; exact e ▸ rb; exact gb _ e
              exact ih m y _ _ (by rw [← e2]; exact hfi _ (List.getElem_mem _)) fA fB k1 k2
            · left
              rw [not_or] at hm
              simp [hm.1, hm.2]
          have key2 : obM (mtN h) A.objs B.objs = true := List.any_eq_true.2 ⟨a, hma, List.any_eq_true.2 ⟨b, hmb, key⟩⟩
          rw [key2]; simp
end Go.Proofs.Ytihhjplbpaafiaa
namespace Go.Proofs.Ytihhjplbpaafiaa
open Go.RowKit Go.Shelf Go.Sort
set_option linter.unusedVariables false
set_option linter.unusedSimpArgs false

/-- a bound's number, if there is one -/
def bdV (s : ByteArray) : Option Int := if s.toList.isEmpty then none else some (Pl.ival s.data.toList)
def abO : Option Int → Option Int → Bool
  | some x, some y => decide (y < x)
  | _, _ => false
def inO (al ah bl bh : Option Int) : Bool := abO al ah || ((bl.isNone || (!al.isNone && !abO bl al)) && (bh.isNone || (!ah.isNone && !abO ah bh)))
theorem emp_O (s : ByteArray) : s.toList.isEmpty = (bdV s).isNone := by
  unfold bdV; cases h : s.toList.isEmpty <;> rfl
theorem abv_O {a b : ByteArray} (ha : bdB a = true) (hb : bdB b = true) : abv a b = abO (bdV a) (bdV b) := by
  cases ea : a.toList.isEmpty with
  | true => rw [abv_l ea]; unfold bdV; rw [ea]; rfl
  | false =>
    cases eb : b.toList.isEmpty with
    | true =>
      rw [abv_r eb]
      have : bdV b = none := by unfold bdV; rw [eb]; rfl
      rw [this]
      unfold abO
      cases bdV a <;> rfl
    | false =>
      have e1 : bdV a = some (Pl.ival a.data.toList) := by unfold bdV; rw [ea]; rfl
      have e2 : bdV b = some (Pl.ival b.data.toList) := by unfold bdV; rw [eb]; rfl
      rw [e1, e2]
      have fa := bd_formed ha (fun h => by rw [h] at ea; cases ea)
      have fb := bd_formed hb (fun h => by rw [h] at eb; cases eb)
      unfold abv
      rw [Pl.cmpN_val fa fb]
      show decide _ = decide _
      unfold Pl.cmpI
      rw [decide_eq_decide]
      split
      · omega
      · split <;> omega
theorem inS_O {al ah bl bh : ByteArray} (h1 : bdB al = true) (h2 : bdB ah = true) (h3 : bdB bl = true) (h4 : bdB bh = true) : inS al ah bl bh = inO (bdV al) (bdV ah) (bdV bl) (bdV bh) := by
  rw [← inS_prog h1 h2 h3 h4, abv_O h1 h2, abv_O h3 h1, abv_O h2 h4, emp_O, emp_O, emp_O, emp_O]
  rfl
theorem inO_refl (a b : Option Int) : inO a b a b = true := by
  cases a <;> cases b <;> simp [inO, abO]
theorem inO_top (a b : Option Int) : inO a b none none = true := by
  cases a <;> cases b <;> simp [inO, abO]
theorem inO_tr {al ah bl bh cl ch : Option Int} (ha : abO al ah = false) (hb : abO bl bh = false) (h1 : inO al ah bl bh = true) (h2 : inO bl bh cl ch = true) : inO al ah cl ch = true := by
  cases al <;> cases ah <;> cases bl <;> cases bh <;> cases cl <;> cases ch <;> simp [inO, abO] at * <;> omega
theorem inO_mt {al ah bl bh cl ch : Option Int} (ha : abO al ah = false) (h1 : inO al ah bl bh = true) (h2 : (!abO al ch && !abO cl ah) = true) : (!abO bl ch && !abO cl bh) = true := by
  cases al <;> cases ah <;> cases bl <;> cases bh <;> cases cl <;> cases ch <;> simp [inO, abO] at * <;> omega
/-- a well shaped span has a number -/
theorem sp_full {p : ByteArray × ByteArray} (h : spB [p] = true) : bdB p.1 = true ∧ bdB p.2 = true ∧ abO (bdV p.1) (bdV p.2) = false := by
  rcases sp_one h with h0 | ⟨q, hq, b1, b2⟩
  · cases h0
  · obtain rfl : p = q := by simpa using hq
    refine ⟨b1, b2, ?_⟩
    rw [← abv_O b1 b2]
    have h' : spOk p = true := h
    unfold spOk at h'
    rw [Bool.and_eq_true, Bool.and_eq_true] at h'
    have h3 := h'.2.2
    rw [Bool.or_eq_true, Bool.or_eq_true, beq_iff_eq, beq_iff_eq, decide_eq_true_eq] at h3
    rcases h3 with h3 | h3 | h3
    · exact abv_l (by rw [list_none h3]; rfl)
    · exact abv_r (by rw [list_none h3]; rfl)
    · show decide (0 < numC p.1 p.2) = false
      exact decide_eq_false (by omega)
theorem spL_refl {ps : List (ByteArray × ByteArray)} (h : spB ps = true) : spL ps ps = true := by
  rcases sp_one h with rfl | ⟨p, rfl, a1, a2⟩
  · rfl
  · show inS p.1 p.2 p.1 p.2 = true
    rw [inS_O a1 a2 a1 a2]; exact inO_refl _ _
theorem spL_top {ps : List (ByteArray × ByteArray)} (h : spB ps = true) : spL ps [(.empty, .empty)] = true := by
  rcases sp_one h with rfl | ⟨p, rfl, a1, a2⟩
  · rfl
  · show inS p.1 p.2 .empty .empty = true
    have b : bdB ByteArray.empty = true := by decide +kernel
    have e : bdV ByteArray.empty = none := by unfold bdV; rw [Lib.toList_data]; rfl
    rw [inS_O a1 a2 b b, e]; exact inO_top _ _
theorem spL_tr {ps qs rs : List (ByteArray × ByteArray)} (ha : spB ps = true) (hb : spB qs = true) (hc : spB rs = true) (h1 : spL ps qs = true) (h2 : spL qs rs = true) : spL ps rs = true := by
  rcases sp_one ha with rfl | ⟨p, rfl, a1, a2⟩
  · rfl
  · rcases sp_one hb with rfl | ⟨q, rfl, b1, b2⟩
    · cases h1
    · rcases sp_one hc with rfl | ⟨r, rfl, c1, c2⟩
      · cases h2
      · have h1' : inS p.1 p.2 q.1 q.2 = true := h1
        have h2' : inS q.1 q.2 r.1 r.2 = true := h2
        show inS p.1 p.2 r.1 r.2 = true
        rw [inS_O a1 a2 b1 b2] at h1'
        rw [inS_O b1 b2 c1 c2] at h2'
        rw [inS_O a1 a2 c1 c2]
        exact inO_tr (sp_full ha).2.2 (sp_full hb).2.2 h1' h2'
theorem spM_mono {ps qs rs : List (ByteArray × ByteArray)} (ha : spB ps = true) (hb : spB qs = true) (hc : spB rs = true) (h1 : spL ps qs = true) (h2 : spM ps rs = true) : spM qs rs = true := by
  rcases sp_one ha with rfl | ⟨p, rfl, a1, a2⟩
  · cases h2
  · rcases sp_one hb with rfl | ⟨q, rfl, b1, b2⟩
    · cases h1
    · rcases sp_one hc with rfl | ⟨r, rfl, c1, c2⟩
      · cases h2
      · have h1' : inS p.1 p.2 q.1 q.2 = true := h1
        have h2' : (!abv p.1 r.2 && !abv r.1 p.2) = true := h2
        show (!abv q.1 r.2 && !abv r.1 q.2) = true
        rw [inS_O a1 a2 b1 b2] at h1'
        rw [abv_O a1 c2, abv_O c1 a2] at h2'
        rw [abv_O b1 c2, abv_O c1 b2]
        exact inO_mt (sp_full ha).2.2 h1' h2'
theorem spM_self {ps : List (ByteArray × ByteArray)} (ha : spB ps = true) (h : spM ps ps = false) : ps = [] := by
  rcases sp_one ha with rfl | ⟨p, rfl, a1, a2⟩
  · rfl
  · have h' : (!abv p.1 p.2 && !abv p.1 p.2) = false := h
    rw [abv_O a1 a2, (sp_full ha).2.2] at h'
    cases h'
theorem spM_sym (ps qs : List (ByteArray × ByteArray)) : spM ps qs = spM qs ps := by
  cases ps with
  | nil => cases qs <;> rfl
  | cons p ps =>
    cases qs with
    | nil => rfl
    | cons q qs => show (!abv p.1 q.2 && !abv q.1 p.2) = (!abv q.1 p.2 && !abv p.1 q.2); exact Bool.and_comm _ _
theorem hasK_iff {l : List ByteArray} {s : ByteArray} : hasK l s = true ↔ s ∈ l := by
  constructor
  · intro h
    obtain ⟨k, hk, e⟩ := List.any_eq_true.1 h
    exact (eqS_iff _ _).1 e ▸ hk
  · intro h
    exact List.any_eq_true.2 ⟨s, h, (eqS_iff _ _).2 rfl⟩
theorem txL_iff {A B : TT} : txL A B = true ↔ (B.any = true ∨ (A.any = false ∧ ∀ s ∈ A.texts, s ∈ B.texts)) := by
  unfold txL
  rw [Bool.or_eq_true, Bool.and_eq_true, List.all_eq_true, Bool.not_eq_true']
  simp only [hasK_iff]
theorem txM_iff {A B : TT} : txM A B = true ↔ ((A.any = true ∧ (B.any = true ∨ ∃ s, s ∈ B.texts)) ∨ (B.any = true ∧ ∃ s, s ∈ A.texts) ∨ (A.any = false ∧ B.any = false ∧ ∃ s ∈ A.texts, s ∈ B.texts)) := by
  have pos : ∀ l : List ByteArray, 0 < l.length ↔ ∃ s, s ∈ l := fun l => by
    cases l with
    | nil => simp
    | cons a l => simp
  unfold txM
  cases A.any <;> cases B.any <;> simp [pos, hasK_iff, List.any_eq_true]
theorem txM_sym {A B : TT} : txM A B = txM B A := by
  rw [Bool.eq_iff_iff, txM_iff, txM_iff]
  cases A.any <;> cases B.any <;> simp [and_comm]
theorem txM_mono {A B C : TT} (h1 : txL A B = true) (h2 : txM A C = true) : txM B C = true := by
  rw [txL_iff] at h1
  rw [txM_iff] at h2 ⊢
  rcases h1 with h1 | ⟨h0, h1⟩
  · rcases h2 with ⟨_, h3⟩ | ⟨h3, s, hs⟩ | ⟨_, _, s, hs, hc⟩
    · exact .inl ⟨h1, h3⟩
    · exact .inl ⟨h1, .inl h3⟩
    · exact .inl ⟨h1, .inr ⟨s, hc⟩⟩
  · rcases h2 with ⟨h3, _⟩ | ⟨h3, s, hs⟩ | ⟨_, h3, s, hs, hc⟩
    · rw [h0] at h3; cases h3
    · exact .inr (.inl ⟨h3, s, h1 s hs⟩)
    · cases hb : B.any with
      | true => exact .inl ⟨rfl, .inr ⟨s, hc⟩⟩
      | false => exact .inr (.inr ⟨rfl, h3, s, h1 s hs, hc⟩)
theorem arX_iff {f : TT → TT → Bool} {x y : AR} : arX f x y = true ↔ (y.min ≤ x.min ∧ (y.max < 0 ∨ (0 ≤ x.max ∧ x.max ≤ y.max)) ∧ (x.max = 0 ∨ f x.item y.item = true)) := by
  unfold arX
  rw [Bool.and_eq_true, Bool.or_eq_true, decide_eq_true_eq]
  simp only [Bool.not_eq_true', Bool.or_eq_false_iff, Bool.and_eq_false_iff, decide_eq_false_iff_not]
  constructor
  · rintro ⟨h1, h2⟩; exact ⟨by omega, by omega, h2⟩
  · rintro ⟨h1, h2, h3⟩; exact ⟨by omega, h3⟩
theorem arY_iff {f : TT → TT → Bool} {x y : AR} : arY f x y = true ↔ ((x.max < 0 ∨ max x.min y.min ≤ x.max) ∧ (y.max < 0 ∨ max x.min y.min ≤ y.max) ∧ (max x.min y.min = 0 ∨ f x.item y.item = true)) := by
  unfold arY longI
  rw [Bool.and_eq_true, Bool.or_eq_true, decide_eq_true_eq]
  simp only [Bool.not_eq_true', Bool.or_eq_false_iff, Bool.and_eq_false_iff, decide_eq_false_iff_not]
  constructor
  · rintro ⟨h1, h2⟩; exact ⟨by omega, by omega, h2⟩
  · rintro ⟨h1, h2, h3⟩; exact ⟨by omega, h3⟩
theorem ar_num {f : TT → Bool} {a : AR} (h : arB f [a] = true) : 0 ≤ a.min ∧ (a.max < 0 ∨ a.min ≤ a.max) ∧ f a.item = true ∧ a.item.never = decide (a.max = 0) := by
  have h' : arOk f a = true := h
  unfold arOk at h'
  rw [Bool.and_eq_true, Bool.and_eq_true, beq_iff_eq] at h'
  have h1 := h'.1
  simp only [Bool.not_eq_true', Bool.or_eq_false_iff, Bool.and_eq_false_iff, decide_eq_false_iff_not] at h1
  exact ⟨by omega, by omega, h'.2⟩
theorem ob_fit {g : TT → TT → Bool} {a b : OB} (oa : OkO a) (ob : OkO b) (hi : obX g a b = true) (s : ByteArray) : fitF g (fldO a s) (fldO b s) = true := by
  unfold obX at hi
  rw [Bool.and_eq_true, List.all_eq_true] at hi
  by_cases hs : s ∈ a.names ∨ s ∈ b.names
  · exact hi.1 s (List.mem_append.2 hs)
  · rw [fld_none oa (fun h => hs (.inl h)), fld_none ob (fun h => hs (.inr h))]
    show (_ && g a.rest b.rest) = true
    rw [hi.2]; rfl
theorem ob_rest {g : TT → TT → Bool} {a b : OB} (hi : obX g a b = true) : g a.rest b.rest = true := by
  unfold obX at hi
  rw [Bool.and_eq_true] at hi
  exact hi.2
theorem ob_mk {g : TT → TT → Bool} {a b : OB} (h1 : ∀ s, fitF g (fldO a s) (fldO b s) = true) (h2 : g a.rest b.rest = true) : obX g a b = true := by
  unfold obX
  rw [h2, Bool.and_true, List.all_eq_true]
  exact fun s _ => h1 s
theorem fitF_iff {g : TT → TT → Bool} {x y : TT × Bool} : fitF g x y = true ↔ ((y.2 = true → x.2 = true) ∧ g x.1 y.1 = true) := by
  unfold fitF
  cases x.2 <;> cases y.2 <;> simp
theorem metF_iff {g : TT → TT → Bool} {x y : TT × Bool} : metF g x y = true ↔ ((x.2 = true ∨ y.2 = true) → g x.1 y.1 = true) := by
  unfold metF
  cases x.2 <;> cases y.2 <;> simp
theorem fld_fm {h : Nat} {o : OB} (hf : obOk (fmN h) o = true) (s : ByteArray) : fmN h (fldO o s).1 = true := by
  obtain ⟨ok, r, g⟩ := ob_open hf
  rcases fld_mem ok s with e | e
  · rw [e]; exact r
  · exact g _ e
theorem fld_must {h : Nat} {o : OB} (hf : obOk (fmN h) o = true) {s : ByteArray} (hm : (fldO o s).2 = true) : (fldO o s).1.never = false := by
  obtain ⟨ok, r, g⟩ := ob_open hf
  have hs : s ∈ o.names := by
    by_cases hs : s ∈ o.names
    · exact hs
    · rw [fld_none ok hs] at hm; cases hm
  rw [← zip_names ok] at hs
  obtain ⟨z, hz, rfl⟩ := List.mem_map.1 hs
  have e : fldO o z.1 = z.2 := (lk_fld _ _ _ _ _).trans (lk_mem (zip_ris ok) hz)
  rw [e] at hm ⊢
  have hz' : z ∈ o.names.zip (o.fields.zip o.must) := hz
  have h2 := (List.of_mem_zip hz').2
  unfold obOk at hf
  simp only [Bool.and_eq_true] at hf
  have h3 := List.all_eq_true.1 hf.2.2.2.2 _ h2
  unfold fdOk at h3
  rw [Bool.and_eq_true, hm, Bool.true_and] at h3
  simpa using h3.2
theorem bare_iff {T : TT} : T.bare = true ↔ (T.nul = false ∧ T.fls = false ∧ T.tru = false ∧ T.any = false ∧ T.nums = [] ∧ T.texts = [] ∧ T.arrs = [] ∧ T.objs = []) := by
  unfold TT.bare bareT
  cases T.nul <;> cases T.fls <;> cases T.tru <;> cases T.any <;> simp
theorem never_not {T : TT} (h : T.all = true) : T.never = false := by unfold TT.never; rw [h]; rfl
theorem never_bare {T : TT} (h : T.all = false) : T.never = T.bare := by unfold TT.never; rw [h]; rfl

/-- a type lies in itself -/
theorem bw_refl : ∀ (h : Nat) (A : TT), fmN h A = true → bwN h A A = true
  | 0, _, hf => by cases hf
  | h + 1, A, hf => by
    rw [bwN]
    cases ha : A.all with
    | true => rfl
    | false =>
      rw [laid_none ha, Bool.false_or]
      obtain ⟨_, a2, a3, a4, _, _⟩ := fm_open hf
      unfold bwK
      rw [Bool.and_eq_true, Bool.and_eq_true, Bool.and_eq_true, Bool.and_eq_true]
      refine ⟨by unfold flL; simp, spL_refl a2, ?_, ?_, ?_⟩
      · rw [txL_iff]
        cases A.any with
        | true => exact .inl rfl
        | false => exact .inr ⟨rfl, fun s hs => hs⟩
      · rcases ar_one a3 with e | ⟨x, e, a1⟩
        · rw [e]; rfl
        · rw [e]
          show arX (bwN h) x x = true
          rw [arX_iff]
          exact ⟨by omega, by omega, .inr (bw_refl h _ a1)⟩
      · unfold obL
        refine List.all_eq_true.2 fun a ha => List.any_eq_true.2 ⟨a, ha, ?_⟩
        exact ob_mk (fun s => fitF_iff.2 ⟨id, bw_refl h _ (fld_fm (a4 a ha) s)⟩) (bw_refl h _ (ob_open (a4 a ha)).2.1)
theorem bwK_tr {h : Nat} {A B C : TT} (fA : fmN (h + 1) A = true) (fB : fmN (h + 1) B = true) (fC : fmN (h + 1) C = true)
    (ih : ∀ A B C, fmN h A = true → fmN h B = true → fmN h C = true → bwN h A B = true → bwN h B C = true → bwN h A C = true)
    (h1 : bwK (bwN h) A B = true) (h2 : bwK (bwN h) B C = true) : bwK (bwN h) A C = true := by
  obtain ⟨_, a2, a3, a4, _, _⟩ := fm_open fA
  obtain ⟨_, b2, b3, b4, _, _⟩ := fm_open fB
  obtain ⟨_, c2, c3, c4, _, _⟩ := fm_open fC
  unfold bwK at h1 h2 ⊢
  rw [Bool.and_eq_true, Bool.and_eq_true, Bool.and_eq_true, Bool.and_eq_true] at h1 h2 ⊢
  obtain ⟨l1, l2, l3, l4, l5⟩ := h1
  obtain ⟨m1, m2, m3, m4, m5⟩ := h2
  refine ⟨?_, spL_tr a2 b2 c2 l2 m2, ?_, ?_, ?_⟩
  · unfold flL at l1 m1 ⊢
    revert l1 m1
    cases A.nul <;> cases A.fls <;> cases A.tru <;> cases B.nul <;> cases B.fls <;> cases B.tru <;> cases C.nul <;> cases C.fls <;> cases C.tru <;> simp
  · rw [txL_iff] at l3 m3 ⊢
    rcases m3 with m3 | ⟨m0, m3⟩
    · exact .inl m3
    · rcases l3 with l3 | ⟨l0, l3⟩
      · rw [m0] at l3; cases l3
      · exact .inr ⟨l0, fun s hs => m3 s (l3 s hs)⟩
  · rcases ar_one a3 with e | ⟨x, e, x1⟩
    · rw [e]; rfl
    · rcases ar_one b3 with e' | ⟨y, e', y1⟩
      · rw [e, e'] at l4; cases l4
      · rcases ar_one c3 with e'' | ⟨z, e'', z1⟩
        · rw [e', e''] at m4; cases m4
        · rw [e, e'] at l4
          rw [e', e''] at m4
          rw [e, e'']
          have l4' : arX (bwN h) x y = true := l4
          have m4' : arX (bwN h) y z = true := m4
          show arX (bwN h) x z = true
          rw [arX_iff] at l4' m4' ⊢
          obtain ⟨p1, p2, p3⟩ := l4'
          obtain ⟨q1, q2, q3⟩ := m4'
          refine ⟨by omega, by omega, ?_⟩
          by_cases hx : x.max = 0
          · exact .inl hx
          · exact .inr (ih _ _ _ x1 y1 z1 (p3.resolve_left hx) (q3.resolve_left (by omega)))
  · unfold obL at l5 m5 ⊢
    refine List.all_eq_true.2 fun a ha => ?_
    obtain ⟨b, hb, hab⟩ := List.any_eq_true.1 (List.all_eq_true.1 l5 a ha)
    obtain ⟨c, hc, hbc⟩ := List.any_eq_true.1 (List.all_eq_true.1 m5 b hb)
    refine List.any_eq_true.2 ⟨c, hc, ?_⟩
    obtain ⟨oa, ra, _⟩ := ob_open (a4 a ha)
    obtain ⟨ob, rb, _⟩ := ob_open (b4 b hb)
    obtain ⟨oc, rc, _⟩ := ob_open (c4 c hc)
    refine ob_mk (fun s => ?_) (ih _ _ _ ra rb rc (ob_rest hab) (ob_rest hbc))
    obtain ⟨u1, u2⟩ := fitF_iff.1 (ob_fit oa ob hab s)
    obtain ⟨v1, v2⟩ := fitF_iff.1 (ob_fit ob oc hbc s)
    exact fitF_iff.2 ⟨fun e => u1 (v1 e), ih _ _ _ (fld_fm (a4 a ha) s) (fld_fm (b4 b hb) s) (fld_fm (c4 c hc) s) u2 v2⟩
theorem bw_top (m : Nat) (A : TT) : bwN (m + 1) A ttEv = true := by rw [bwN]; rfl
/-- all lies in what is laid out -/
theorem bwK_top {m : Nat} {A : TT} (hf : fmN (m + 2) A = true) : bwK (bwN (m + 1)) A laidT = true := by
  obtain ⟨_, a2, a3, a4, _, _⟩ := fm_open hf
  unfold bwK
  rw [Bool.and_eq_true, Bool.and_eq_true, Bool.and_eq_true, Bool.and_eq_true]
  refine ⟨?_, spL_top a2, txL_iff.2 (.inl rfl), ?_, ?_⟩
  · show ((!A.nul || true) && ((!A.fls || true) && (!A.tru || true))) = true
    simp
  · rcases ar_one a3 with e | ⟨x, e, a1⟩
    · rw [e]; rfl
    · rw [e] at a3 ⊢
      show arX (bwN (m + 1)) x (.mk ttEv 0 (-1)) = true
      rw [arX_iff]
      obtain ⟨n1, _⟩ := ar_num a3
      exact ⟨n1, .inl (by show (-1 : Int) < 0; omega), .inr (bw_top m _)⟩
  · unfold obL
    refine List.all_eq_true.2 fun a ha => List.any_eq_true.2 ⟨.mk [] [] [] ttEv, List.mem_singleton.2 rfl, ?_⟩
    exact ob_mk (fun s => fitF_iff.2 ⟨fun e => (by cases e), bw_top m _⟩) (bw_top m _)
theorem laid_fm {h : Nat} {A B : TT} (hf : fmN (h + 1) A = true) (hb : bwK (bwN h) (laid A) B = true) : fmN (h + 1) (laid A) = true := by
  cases ha : A.all with
  | false => rw [laid_none ha]; exact hf
  | true =>
    rw [laid_all ha] at hb ⊢
    cases h with
    | zero => rw [bwK_zero] at hb; cases hb
    | succ m => exact fm_laid m
/-- FROM TYPE TO TYPE -/
theorem bw_tr : ∀ (h : Nat) (A B C : TT), fmN h A = true → fmN h B = true → fmN h C = true → bwN h A B = true → bwN h B C = true → bwN h A C = true
  | 0, _, _, _, hf, _, _, _, _ => by cases hf
  | h + 1, A, B, C, fA, fB, fC, h1, h2 => by
    have ih := bw_tr h
    rw [bwN] at h1 h2 ⊢
    cases hc : C.all with
    | true => rfl
    | false =>
      rw [hc, Bool.false_or] at h2
      rw [Bool.false_or]
      have fLB := laid_fm fB h2
      cases hb : B.all with
      | false =>
        rw [hb, Bool.false_or] at h1
        rw [laid_none hb] at h2
        exact bwK_tr (laid_fm fA h1) fB fC ih h1 h2
      | true =>
        rw [laid_all hb] at h2 fLB
        cases h with
        | zero => rw [bwK_zero] at h2; cases h2
        | succ m =>
          have fLA : fmN (m + 2) (laid A) = true := by
            cases ha : A.all with
            | false => rw [laid_none ha]; exact fA
            | true => rw [laid_all ha]; exact fm_laid m
          exact bwK_tr fLA fLB fC ih (bwK_top fLA) h2
theorem obY_sym {f : TT → TT → Bool} (hs : ∀ A B, f A B = f B A) (a b : OB) : obY f a b = obY f b a := by
  have e : ∀ x y, metF f x y = metF f y x := fun x y => by
    unfold metF; rw [hs, Bool.and_comm]
  unfold obY
  rw [List.all_append, List.all_append, Bool.and_comm]
  congr 1 <;> exact congrArg (fun p => List.all _ p) (funext fun s => e _ _)
/-- what two types have in common the two have -/
theorem mt_sym : ∀ (h : Nat) (A B : TT), mtN h A B = mtN h B A
  | 0, _, _ => rfl
  | h + 1, A, B => by
    have ih := mt_sym h
    unfold mtN
    cases ha : A.all with
    | true =>
      cases hb : B.all with
      | true => simp only [if_pos]; rw [never_not ha, never_not hb]
      | false => simp
    | false =>
      cases hb : B.all with
      | true => simp
      | false =>
        simp only [Bool.false_eq_true, if_false]
        unfold mtK
        have e1 : flM A B = flM B A := by unfold flM; simp [Bool.and_comm]
        have e2 : arM (mtN h) A.arrs B.arrs = arM (mtN h) B.arrs A.arrs := by
          cases A.arrs with
          | nil => cases B.arrs <;> rfl
          | cons x xs =>
            cases B.arrs with
            | nil => rfl
            | cons y ys =>
              show arY _ x y = arY _ y x
              rw [Bool.eq_iff_iff, arY_iff, arY_iff, ih x.item y.item]
              constructor
              · rintro ⟨h1, h2, h3⟩; exact ⟨by omega, by omega, h3.imp (fun h => by omega) id⟩
              · rintro ⟨h1, h2, h3⟩; exact ⟨by omega, by omega, h3.imp (fun h => by omega) id⟩
        have e3 : obM (mtN h) A.objs B.objs = obM (mtN h) B.objs A.objs := by
          unfold obM
          rw [Bool.eq_iff_iff, List.any_eq_true, List.any_eq_true]
          constructor
          · rintro ⟨a, ha, hx⟩
            obtain ⟨b, hb, hx⟩ := List.any_eq_true.1 hx
            exact ⟨b, hb, List.any_eq_true.2 ⟨a, ha, by rw [obY_sym ih]; exact hx⟩⟩
          · rintro ⟨a, ha, hx⟩
            obtain ⟨b, hb, hx⟩ := List.any_eq_true.1 hx
            exact ⟨b, hb, List.any_eq_true.2 ⟨a, ha, by rw [obY_sym ih]; exact hx⟩⟩
        rw [e1, spM_sym A.nums, txM_sym (A := A), e2, e3]
theorem mtK_bare {f : TT → TT → Bool} {A B : TT} (h : A.bare = true) : mtK f A B = false := by
  obtain ⟨h1, h2, h3, h4, h5, h6, h7, h8⟩ := bare_iff.1 h
  unfold mtK flM txM
  rw [h1, h2, h3, h4, h5, h6, h7, h8]
  simp [spM, arM, obM]
theorem mtK_bare_r {h : Nat} {A B : TT} (ha : A.all = false) (hb : B.bare = true) (hn : B.all = false) : mtK (mtN h) A B = false := by
  have e := mt_sym (h + 1) A B
  unfold mtN at e
  rw [ha, hn] at e
  simp only [Bool.false_eq_true, if_false] at e
  rw [e]; exact mtK_bare hb
theorem mtK_self {h : Nat} {A : TT} (hf : fmN (h + 1) A = true) (ih : ∀ A, fmN h A = true → mtN h A A = !A.never) (hb : A.bare = false) : mtK (mtN h) A A = true := by
  obtain ⟨_, a2, a3, a4, _, _⟩ := fm_open hf
  cases e : mtK (mtN h) A A with
  | true => rfl
  | false =>
    exfalso
    unfold mtK at e
    rw [Bool.or_eq_false_iff, Bool.or_eq_false_iff, Bool.or_eq_false_iff, Bool.or_eq_false_iff] at e
    obtain ⟨e1, e2, e3, e4, e5⟩ := e
    have hx : A.bare = true := by
      rw [bare_iff]
      unfold flM at e1
      rw [Bool.or_eq_false_iff, Bool.or_eq_false_iff, Bool.and_self, Bool.and_self, Bool.and_self] at e1
      have t1 : A.any = false := by
        cases ea : A.any with
        | false => rfl
        | true => rw [txM_iff.2 (.inl ⟨ea, .inl ea⟩)] at e3; cases e3
      refine ⟨e1.1, e1.2.1, e1.2.2, t1, spM_self a2 e2, ?_, ?_, ?_⟩
      · cases et : A.texts with
        | nil => rfl
        | cons s l => rw [txM_iff.2 (.inr (.inr ⟨t1, t1, s, by rw [et]; exact List.mem_cons_self .., by rw [et]; exact List.mem_cons_self ..⟩))] at e3; cases e3
      · rcases ar_one a3 with er | ⟨x, er, x1⟩
        · exact er
        · rw [er] at a3 e4
          have e4' : arY (mtN h) x x = false := e4
          obtain ⟨n1, n2, n3, n4⟩ := ar_num a3
          have : arY (mtN h) x x = true := by
            rw [arY_iff]
            refine ⟨by omega, by omega, ?_⟩
            by_cases hz : x.max = 0
            · exact .inl (by omega)
            · right
              rw [ih _ n3, n4, decide_eq_false hz]; rfl
          rw [e4'] at this; cases this
      · cases eo : A.objs with
        | nil => rfl
        | cons o l =>
          have hm : o ∈ A.objs := by rw [eo]; exact List.mem_cons_self ..
          have hy : obY (mtN h) o o = true := by
            unfold obY
            refine List.all_eq_true.2 fun s _ => metF_iff.2 fun hm2 => ?_
            have hm3 : (fldO o s).2 = true := hm2.elim id id
            rw [ih _ (fld_fm (a4 o hm) s), fld_must (a4 o hm) hm3]; rfl
          have : obM (mtN h) A.objs A.objs = true := List.any_eq_true.2 ⟨o, hm, List.any_eq_true.2 ⟨o, hm, hy⟩⟩
          rw [e5] at this; cases this
    rw [hb] at hx; cases hx
/-- a type has a value in common with itself, but never -/
theorem mt_self : ∀ (h : Nat) (A : TT), fmN h A = true → mtN h A A = !A.never
  | 0, _, hf => by cases hf
  | h + 1, A, hf => by
    have ih := mt_self h
    unfold mtN
    cases ha : A.all with
    | true => simp
    | false =>
      simp only [Bool.false_eq_true, if_false]
      rw [never_bare ha]
      cases hb : A.bare with
      | true => rw [mtK_bare hb]; rfl
      | false => rw [mtK_self hf ih hb]; rfl
theorem mtK_mono {h : Nat} {A B C : TT} (fA : fmN (h + 1) A = true) (fB : fmN (h + 1) B = true) (fC : fmN (h + 1) C = true)
    (ih : ∀ A B C, fmN h A = true → fmN h B = true → fmN h C = true → bwN h A B = true → mtN h A C = true → mtN h B C = true)
    (h1 : bwK (bwN h) A B = true) (h2 : mtK (mtN h) A C = true) : mtK (mtN h) B C = true := by
  obtain ⟨_, a2, a3, a4, _, _⟩ := fm_open fA
  obtain ⟨_, b2, b3, b4, _, _⟩ := fm_open fB
  obtain ⟨_, c2, c3, c4, _, _⟩ := fm_open fC
  unfold bwK at h1
  rw [Bool.and_eq_true, Bool.and_eq_true, Bool.and_eq_true, Bool.and_eq_true] at h1
  obtain ⟨l1, l2, l3, l4, l5⟩ := h1
  unfold mtK at h2 ⊢
  rw [Bool.or_eq_true, Bool.or_eq_true, Bool.or_eq_true, Bool.or_eq_true] at h2 ⊢
  rcases h2 with m | m | m | m | m
  · left
    unfold flL at l1
    unfold flM at m ⊢
    revert l1 m
    cases A.nul <;> cases A.fls <;> cases A.tru <;> cases B.nul <;> cases B.fls <;> cases B.tru <;> cases C.nul <;> cases C.fls <;> cases C.tru <;> simp
  · exact .inr (.inl (spM_mono a2 b2 c2 l2 m))
  · exact .inr (.inr (.inl (txM_mono l3 m)))
  · refine .inr (.inr (.inr (.inl ?_)))
    rcases ar_one a3 with e | ⟨x, e, x1⟩
    · rw [e] at m; cases m
    · rcases ar_one b3 with e' | ⟨y, e', y1⟩
      · rw [e, e'] at l4; cases l4
      · rcases ar_one c3 with e'' | ⟨z, e'', z1⟩
        · rw [e, e''] at m; cases m
        · rw [e, e'] at l4
          rw [e, e''] at m
          rw [e', e'']
          rw [e] at a3; rw [e'] at b3; rw [e''] at c3
          have l4' : arX (bwN h) x y = true := l4
          have m' : arY (mtN h) x z = true := m
          show arY (mtN h) y z = true
          obtain ⟨s1, s2, _⟩ := ar_num a3
          obtain ⟨t1, t2, _⟩ := ar_num b3
          obtain ⟨u1, u2, _⟩ := ar_num c3
          rw [arX_iff] at l4'
          rw [arY_iff] at m' ⊢
          obtain ⟨p1, p2, p3⟩ := l4'
          obtain ⟨q1, q2, q3⟩ := m'
          refine ⟨by omega, by omega, ?_⟩
          by_cases hz : max y.min z.min = 0
          · exact .inl hz
          · exact .inr (ih _ _ _ x1 y1 z1 (p3.resolve_left (by omega)) (q3.resolve_left (by omega)))
  · refine .inr (.inr (.inr (.inr ?_)))
    obtain ⟨a, ha, hx⟩ := List.any_eq_true.1 m
    obtain ⟨c, hc, hac⟩ := List.any_eq_true.1 hx
    unfold obL at l5
    obtain ⟨b, hb, hab⟩ := List.any_eq_true.1 (List.all_eq_true.1 l5 a ha)
    refine List.any_eq_true.2 ⟨b, hb, List.any_eq_true.2 ⟨c, hc, ?_⟩⟩
    obtain ⟨oa, ra, _⟩ := ob_open (a4 a ha)
    obtain ⟨ob, rb, _⟩ := ob_open (b4 b hb)
    obtain ⟨oc, rc, _⟩ := ob_open (c4 c hc)
    unfold obY at hac ⊢
    rw [List.all_eq_true] at hac ⊢
    intro s hs
    rw [metF_iff]
    intro hm
    obtain ⟨u1, u2⟩ := fitF_iff.1 (ob_fit oa ob hab s)
    have hm' : (fldO a s).2 = true ∨ (fldO c s).2 = true := hm.imp u1 id
    have hsn : s ∈ a.names ++ c.names := by
      rw [List.mem_append]
      rcases hm' with hm' | hm'
      · left
        by_cases hs : s ∈ a.names
        · exact hs
        · rw [fld_none oa hs] at hm'; cases hm'
      · right
        by_cases hs : s ∈ c.names
        · exact hs
        · rw [fld_none oc hs] at hm'; cases hm'
    exact ih _ _ _ (fld_fm (a4 a ha) s) (fld_fm (b4 b hb) s) (fld_fm (c4 c hc) s) u2 (metF_iff.1 (hac s hsn) hm')
theorem bwK_bare {f : TT → TT → Bool} {A B : TT} (h : bwK f A B = true) (hb : B.bare = true) (ht : A.any = true → A.texts = []) : A.bare = true := by
  obtain ⟨h1, h2, h3, h4, h5, h6, h7, h8⟩ := bare_iff.1 hb
  unfold bwK at h
  rw [Bool.and_eq_true, Bool.and_eq_true, Bool.and_eq_true, Bool.and_eq_true] at h
  obtain ⟨l1, l2, l3, l4, l5⟩ := h
  unfold flL at l1
  rw [h1, h2, h3] at l1
  simp only [Bool.or_false, Bool.and_eq_true, Bool.not_eq_true'] at l1
  rw [txL_iff, h4, h6] at l3
  rcases l3 with l3 | ⟨l3, l3'⟩
  · cases l3
  rw [bare_iff]
  refine ⟨l1.1, l1.2.1, l1.2.2, l3, ?_, ?_, ?_, ?_⟩
  · rw [h5] at l2
    cases e : A.nums with
    | nil => rfl
    | cons p l => rw [e] at l2; cases l2
  · cases e : A.texts with
    | nil => rfl
    | cons p l => rw [e] at l3'; exact absurd (l3' p (List.mem_cons_self ..)) (List.not_mem_nil)
  · rw [h7] at l4
    cases e : A.arrs with
    | nil => rfl
    | cons p l => rw [e] at l4; cases l4
  · rw [h8] at l5
    cases e : A.objs with
    | nil => rfl
    | cons p l => rw [e] at l5; simp [obL] at l5
/-- WHAT A PART HAS IN COMMON WITH ANOTHER THE WHOLE HAS -/
theorem mt_mono : ∀ (h : Nat) (A B C : TT), fmN h A = true → fmN h B = true → fmN h C = true → bwN h A B = true → mtN h A C = true → mtN h B C = true
  | 0, _, _, _, hf, _, _, _, _ => by cases hf
  | h + 1, A, B, C, fA, fB, fC, h1, h2 => by
    have ih := mt_mono h
    have hcn : C.never = false := by
      cases hc : C.all with
      | true => exact never_not hc
      | false =>
        unfold mtN at h2
        cases ha : A.all with
        | true => rw [ha, if_pos rfl] at h2; simpa using h2
        | false =>
          rw [ha, hc] at h2
          simp only [Bool.false_eq_true, if_false] at h2
          rw [never_bare hc]
          cases hb : C.bare with
          | false => rfl
          | true => rw [mtK_bare_r ha hb hc] at h2; cases h2
    rw [bwN] at h1
    unfold mtN at h2 ⊢
    cases hb : B.all with
    | true => rw [if_pos rfl, hcn]; rfl
    | false =>
      rw [hb, Bool.false_or] at h1
      have fX := laid_fm fA h1
      simp only [Bool.false_eq_true, if_false]
      cases hc : C.all with
      | true =>
        rw [if_pos rfl, never_bare hb]
        cases hbb : B.bare with
        | false => rfl
        | true =>
          exfalso
          have hx := bwK_bare h1 hbb (fm_open fX).2.2.2.2.2
          cases ha : A.all with
          | true => rw [laid_all ha] at hx; cases hx
          | false =>
            rw [laid_none ha] at hx
            rw [ha, hc] at h2
            simp only [Bool.false_eq_true, if_false, if_true] at h2
            rw [never_bare ha, hx] at h2
            cases h2
      | false =>
        simp only [Bool.false_eq_true, if_false]
        rw [hc] at h2
        cases ha : A.all with
        | false =>
          rw [ha] at h2
          simp only [Bool.false_eq_true, if_false] at h2
          rw [laid_none ha] at h1
          exact mtK_mono fA fB fC ih h1 h2
        | true =>
          rw [laid_all ha] at h1 fX
          cases h with
          | zero => rw [bwK_zero] at h1; cases h1
          | succ m =>
            have hs : mtK (mtN (m + 1)) C C = true := mtK_self fC (mt_self (m + 1)) (by rw [← never_bare hc]; exact hcn)
            exact mtK_mono fX fB fC ih h1 (mtK_mono fC fX fC ih (bwK_top fC) hs)
end Go.Proofs.Ytihhjplbpaafiaa
