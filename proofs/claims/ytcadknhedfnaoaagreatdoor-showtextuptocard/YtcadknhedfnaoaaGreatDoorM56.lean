import Derived.Test.YtcadknhedfnaoaaGreatDoorM55
namespace Go.Proofs.YtcadknhedfnaoaaGreatDoor
open Go.RowKit Go.Shelf Go.Sort
set_option linter.unusedVariables false
set_option linter.unusedSimpArgs false
attribute [local go_sem] Oper.semAt_some

theorem RK.keep {w u : World} {b o : Nat} {c : Fin 10 → Value} {h : Nat} {K : NT} {t : List UInt8} (r : RK w b o c h K t) (hu : Below w.heap.size w u) : RK u b o c h K t :=
  ⟨fun j => (hu.cell (p := ⟨b, o + j.1, none⟩) (block_lt_of_cell (r.cell j))).trans (r.cell j), InN.low r.in_ hu, r.len⟩
theorem KdK.keep {w u : World} {c : Fin 10 → Value} {n : Int} {X : List UInt8} (h : KdK w c n X) (hu : Below w.heap.size w u) : KdK u c n X := fun v hv => h v (hu.trans (hv.mono hu.size))
def RwK (w : World) (so : Option Addr) (n c : Nat) (X : List UInt8) : Prop := ∀ u, Below w.heap.size w u → Calls Tryz.prog 35 #[.slice so n c] u fun e w' => e = .returned (.string (bs X)) ∧ Below u.heap.size u w'
theorem rwK {w : World} {b off n cp h : Nat} {so : Option Addr} {K : Nat → NT} {t : Nat → List UInt8} (hso : 0 < n → so = some ⟨b, off, none⟩) (hcap : n ≤ cp) (hbig : n ≤ 140737488355328) (hK : ∀ i, i < n → ∃ c, RK w b (off + i * 10) c h (K i) (t i) ∧ KdK w c 0 (t i)) (hl : (pRw t n).length ≤ 140737488355328) : RwK w so n cp (pRw t n) := fun u hu =>
  w_rrow u b off n cp h so K t hso hcap hbig (fun i hi => by
    obtain ⟨c, r, k⟩ := hK i hi
    exact ⟨c, r.keep hu, k.keep hu⟩) hl
end Go.Proofs.YtcadknhedfnaoaaGreatDoor
namespace Go.Proofs.YtcadknhedfnaoaaGreatDoor
open Go.RowKit Go.Shelf Go.Sort
set_option linter.unusedVariables false
set_option linter.unusedSimpArgs false
attribute [local go_sem] Oper.semAt_some

set_option maxRecDepth 100000 in
set_option maxHeartbeats 3200000 in
theorem w_rtry1 (w : World) (aat avk : Int) (atx avn avx : ByteArray) (aio ayo ano : Option Addr) (avi aic avy ayc ann anc : Nat) (b off kc h : Nat) (K : Nat → NT) (t : Nat → List UInt8) (hcap : 1 ≤ kc) (c0 : Fin 10 → Value) (r0 : RK w b (off) c0 h (K 0) (t 0)) (hb0 : KdB w c0 (pBs (t 0) (K 0))) (hl : (sTry K t 1).length ≤ 140737488355328) : Calls Tryz.prog 38 #[.agg #[.int .i64 10, .int .i64 aat, .string atx, .int .i64 avk, .string avn, .string avx, .slice aio avi aic, .slice ayo avy ayc, .slice ano ann anc, .slice (some ⟨b, off, none⟩) 1 kc]] w fun e w' => e = .returned (.string (bs (sTry K t 1))) ∧ Below w.heap.size w w' := by
  have HC0 := Hid.mk (fun u (hu : Below w.heap.size w u) => r0.cells hu)
  have HB0 := Hid.mk hb0
  have s_A : (bs (pBs (t 0) (K 0))).size ≤ 140737488355328 := by rw [bs_size]; have := hl; simp [sTry] at this; omega
  have HE : Hid (bs (pBs (t 0) (K 0)) ++ ⟨#[63]⟩ = bs (sTry K t 1)) := by
    show bs (pBs (t 0) (K 0)) ++ bs [63] = _
    rw [bs_app]
    rfl
  obtain ⟨W1, hW1⟩ : ∃ W1, w.alloc (.cells #[.int .i64 10, .int .i64 aat, .string atx, .int .i64 avk, .string avn, .string avx, .slice aio avi aic, .slice ayo avy ayc, .slice ano ann anc, .slice (some ⟨b, off, none⟩) 1 kc] 28) = W1 := ⟨_, rfl⟩
  have HX1 := Hid.mk (B1.new hW1)
  clear r0 hb0 hl
  unfold KdB at HB0
  generalize bs (pBs (t 0) (K 0)) = Y0 at *
  have f0 : ¬ 9223372036854775807 < Y0.size + 1 := by omega
  go_enter Tryz.func38, Tryz.ntmps38
  obtain ⟨x0, x1, x2, x3, x4, x5, x6, x7, x8, x9⟩ := nd_cells HX1.out.a
  obtain ⟨k0_0, k0_1, k0_2, k0_3, k0_4, k0_5, k0_6, k0_7, k0_8, k0_9⟩ := HC0.out _ HX1.out.below
  go_wp2_with fail
  refine (HB0.out _ HX1.out.below).mono ?_
  rintro e w2 ⟨rfl, hb⟩
  have HX2 := Hid.mk (HX1.out.keep hb)
  clear hb hW1
  clear x0 x1 x2 x3 x4 x5 x6 x7 x8 x9 k0_0 k0_1 k0_2 k0_3 k0_4 k0_5 k0_6 k0_7 k0_8 k0_9
  obtain ⟨x0, x1, x2, x3, x4, x5, x6, x7, x8, x9⟩ := nd_cells HX2.out.a
  obtain ⟨k0_0, k0_1, k0_2, k0_3, k0_4, k0_5, k0_6, k0_7, k0_8, k0_9⟩ := HC0.out _ HX2.out.below
  go_wp2_with fail
  go_ret
  exact ⟨congrArg (fun z => Ending.returned (.string z)) HE.out, HX2.out.below⟩

set_option maxRecDepth 100000 in
set_option maxHeartbeats 3200000 in
theorem w_rtry2 (w : World) (aat avk : Int) (atx avn avx : ByteArray) (aio ayo ano : Option Addr) (avi aic avy ayc ann anc : Nat) (b off kc h : Nat) (K : Nat → NT) (t : Nat → List UInt8) (hcap : 2 ≤ kc) (c0 : Fin 10 → Value) (r0 : RK w b (off) c0 h (K 0) (t 0)) (c1 : Fin 10 → Value) (r1 : RK w b (off + 10) c1 h (K 1) (t 1)) (hk0 : KdK w c0 10 (pHd (t 0) (K 0) 10)) (hk1 : KdK w c1 10 (pHd (t 1) (K 1) 10)) (hl : (sTry K t 2).length ≤ 140737488355328) : Calls Tryz.prog 38 #[.agg #[.int .i64 10, .int .i64 aat, .string atx, .int .i64 avk, .string avn, .string avx, .slice aio avi aic, .slice ayo avy ayc, .slice ano ann anc, .slice (some ⟨b, off, none⟩) 2 kc]] w fun e w' => e = .returned (.string (bs (sTry K t 2))) ∧ Below w.heap.size w w' := by
  have HC0 := Hid.mk (fun u (hu : Below w.heap.size w u) => r0.cells hu)
  have HC1 := Hid.mk (fun u (hu : Below w.heap.size w u) => r1.cells hu)
  have HK0 := Hid.mk hk0
  have HK1 := Hid.mk hk1
  have s_A : (bs (pHd (t 0) (K 0) 10)).size ≤ 140737488355328 := by rw [bs_size]; have := hl; simp [sTry] at this; omega
  have s_B : (bs (pHd (t 1) (K 1) 10)).size ≤ 140737488355328 := by rw [bs_size]; have := hl; simp [sTry] at this; omega
  have HE : Hid ((⟨#[116, 114, 121, 32]⟩ : ByteArray) ++ bs (pHd (t 0) (K 0) 10) ++ ⟨#[32, 99, 97, 116, 99, 104, 32]⟩ ++ bs (pHd (t 1) (K 1) 10) = bs (sTry K t 2)) := by
    show bs [116, 114, 121, 32] ++ bs (pHd (t 0) (K 0) 10) ++ bs [32, 99, 97, 116, 99, 104, 32] ++ bs (pHd (t 1) (K 1) 10) = _
    simp only [bs_app]
    exact congrArg bs (by simp [sTry])
  obtain ⟨W1, hW1⟩ : ∃ W1, w.alloc (.cells #[.int .i64 10, .int .i64 aat, .string atx, .int .i64 avk, .string avn, .string avx, .slice aio avi aic, .slice ayo avy ayc, .slice ano ann anc, .slice (some ⟨b, off, none⟩) 2 kc] 28) = W1 := ⟨_, rfl⟩
  have HX1 := Hid.mk (B1.new hW1)
  clear r0 r1 hk0 hk1 hl
  unfold KdK at HK0 HK1
  generalize bs (pHd (t 0) (K 0) 10) = Y0 at *
  generalize bs (pHd (t 1) (K 1) 10) = Y1 at *
  have f0 : ¬ 9223372036854775807 < 4 + Y0.size := by omega
  have f1 : ¬ 9223372036854775807 < 4 + Y0.size + 7 := by omega
  have f2 : ¬ 9223372036854775807 < 4 + Y0.size + 7 + Y1.size := by omega
  go_enter Tryz.func38, Tryz.ntmps38
  obtain ⟨x0, x1, x2, x3, x4, x5, x6, x7, x8, x9⟩ := nd_cells HX1.out.a
  obtain ⟨k0_0, k0_1, k0_2, k0_3, k0_4, k0_5, k0_6, k0_7, k0_8, k0_9⟩ := HC0.out _ HX1.out.below
  obtain ⟨k1_0, k1_1, k1_2, k1_3, k1_4, k1_5, k1_6, k1_7, k1_8, k1_9⟩ := HC1.out _ HX1.out.below
  go_wp2_with fail
  have R_x0 := fun d os => cell_regrown x0 d os
  have R_x1 := fun d os => cell_regrown x1 d os
  have R_x2 := fun d os => cell_regrown x2 d os
  have R_x3 := fun d os => cell_regrown x3 d os
  have R_x4 := fun d os => cell_regrown x4 d os
  have R_x5 := fun d os => cell_regrown x5 d os
  have R_x6 := fun d os => cell_regrown x6 d os
  have R_x7 := fun d os => cell_regrown x7 d os
  have R_x8 := fun d os => cell_regrown x8 d os
  have R_x9 := fun d os => cell_regrown x9 d os
  have R_k0_0 := fun d os => cell_regrown k0_0 d os
  have R_k0_1 := fun d os => cell_regrown k0_1 d os
  have R_k0_2 := fun d os => cell_regrown k0_2 d os
  have R_k0_3 := fun d os => cell_regrown k0_3 d os
  have R_k0_4 := fun d os => cell_regrown k0_4 d os
  have R_k0_5 := fun d os => cell_regrown k0_5 d os
  have R_k0_6 := fun d os => cell_regrown k0_6 d os
  have R_k0_7 := fun d os => cell_regrown k0_7 d os
  have R_k0_8 := fun d os => cell_regrown k0_8 d os
  have R_k0_9 := fun d os => cell_regrown k0_9 d os
  have R_k1_0 := fun d os => cell_regrown k1_0 d os
  have R_k1_1 := fun d os => cell_regrown k1_1 d os
  have R_k1_2 := fun d os => cell_regrown k1_2 d os
  have R_k1_3 := fun d os => cell_regrown k1_3 d os
  have R_k1_4 := fun d os => cell_regrown k1_4 d os
  have R_k1_5 := fun d os => cell_regrown k1_5 d os
  have R_k1_6 := fun d os => cell_regrown k1_6 d os
  have R_k1_7 := fun d os => cell_regrown k1_7 d os
  have R_k1_8 := fun d os => cell_regrown k1_8 d os
  have R_k1_9 := fun d os => cell_regrown k1_9 d os
  have G0 := Hid.mk (fun (d : Nat) (os : Array Obj) => HK0.out (grow (redrawn W1 d) os) (HX1.out.below.trans ((below_regrown W1 d os).mono HX1.out.below.size)))
  have G1 := Hid.mk (fun (d : Nat) (os : Array Obj) => HK1.out (grow (redrawn W1 d) os) (HX1.out.below.trans ((below_regrown W1 d os).mono HX1.out.below.size)))
  refine wp_region_quiet_below (by kernel_rfl) (by kernel_rfl) ?_
  iterate 5 (go_big_quiet_step (exact Calls.regrown_of (G0.out _ _)))
  iterate 7 (go_big_quiet_step (exact Calls.regrown_of (G1.out _ _)))
  repeat (go_big_quiet_step (fail))
  refine wpQuiet_nil ?_
  intro w2 hw'
  have HX2 := Hid.mk (by obtain ⟨⟨dq, osq⟩, rfl⟩ := hw'; exact HX1.out.keep (below_regrown W1 dq osq) : B1 w _ _ w2)
  clear hw' R_x0 R_x1 R_x2 R_x3 R_x4 R_x5 R_x6 R_x7 R_x8 R_x9 R_k0_0 R_k0_1 R_k0_2 R_k0_3 R_k0_4 R_k0_5 R_k0_6 R_k0_7 R_k0_8 R_k0_9 R_k1_0 R_k1_1 R_k1_2 R_k1_3 R_k1_4 R_k1_5 R_k1_6 R_k1_7 R_k1_8 R_k1_9 G0 G1 hW1
  clear x0 x1 x2 x3 x4 x5 x6 x7 x8 x9 k0_0 k0_1 k0_2 k0_3 k0_4 k0_5 k0_6 k0_7 k0_8 k0_9 k1_0 k1_1 k1_2 k1_3 k1_4 k1_5 k1_6 k1_7 k1_8 k1_9
  go_wp2_with fail
  go_ret
  exact ⟨congrArg (fun z => Ending.returned (.string z)) HE.out, HX2.out.below⟩
end Go.Proofs.YtcadknhedfnaoaaGreatDoor
namespace Go.Proofs.YtcadknhedfnaoaaGreatDoor
open Go.RowKit Go.Shelf Go.Sort
set_option linter.unusedVariables false
set_option linter.unusedSimpArgs false
attribute [local go_sem] Oper.semAt_some

set_option maxRecDepth 100000 in
set_option maxHeartbeats 3200000 in
theorem w_rif (w : World) (aat avk : Int) (atx avn avx : ByteArray) (aio ayo ano : Option Addr) (avi aic avy ayc ann anc : Nat) (b off N kc h : Nat) (K : Nat → NT) (t : Nat → List UInt8) (hcap : N ≤ kc) (hbig : N ≤ 140737488355328) (hN : 3 ≤ N) (c0 : Fin 10 → Value) (r0 : RK w b (off) c0 h (K 0) (t 0)) (c1 : Fin 10 → Value) (r1 : RK w b (off + 10) c1 h (K 1) (t 1)) (c2 : Fin 10 → Value) (r2 : RK w b (off + 20) c2 h (K 2) (t 2)) (hk0 : KdK w c0 0 (t 0)) (hk1 : KdK w c1 0 (t 1)) (hk2 : KdK w c2 0 (t 2)) (hl : (sIf t).length ≤ 140737488355328) : Calls Tryz.prog 39 #[.agg #[.int .i64 28, .int .i64 aat, .string atx, .int .i64 avk, .string avn, .string avx, .slice aio avi aic, .slice ayo avy ayc, .slice ano ann anc, .slice (some ⟨b, off, none⟩) N kc]] w fun e w' => e = .returned (.string (bs (sIf t))) ∧ Below w.heap.size w w' := by
  have q0 : ((0 : Int) < (N : Int)) := by omega
  have q1 : ((1 : Int) < (N : Int)) := by omega
  have q2 : ((2 : Int) < (N : Int)) := by omega
  have HC0 := Hid.mk (fun u (hu : Below w.heap.size w u) => r0.cells hu)
  have HC1 := Hid.mk (fun u (hu : Below w.heap.size w u) => r1.cells hu)
  have HC2 := Hid.mk (fun u (hu : Below w.heap.size w u) => r2.cells hu)
  have HK0 := Hid.mk hk0
  have HK1 := Hid.mk hk1
  have HK2 := Hid.mk hk2
  have s_A : (bs (t 0)).size ≤ 140737488355328 := by rw [bs_size]; exact r0.len
  have s_B : (bs (t 1)).size ≤ 140737488355328 := by rw [bs_size]; exact r1.len
  have s_C : (bs (t 2)).size ≤ 140737488355328 := by rw [bs_size]; exact r2.len
  have HE : Hid ((⟨#[105, 102, 32]⟩ : ByteArray) ++ bs (t 0) ++ ⟨#[32, 116, 104, 101, 110, 32]⟩ ++ bs (t 1) ++ ⟨#[32, 101, 108, 115, 101, 32]⟩ ++ bs (t 2) ++ ⟨#[32, 101, 110, 100]⟩ = bs (sIf t)) := by
    show bs [105, 102, 32] ++ bs (t 0) ++ bs [32, 116, 104, 101, 110, 32] ++ bs (t 1) ++ bs [32, 101, 108, 115, 101, 32] ++ bs (t 2) ++ bs [32, 101, 110, 100] = _
    simp only [bs_app]
    exact congrArg bs (by simp [sIf])
  obtain ⟨W1, hW1⟩ : ∃ W1, w.alloc (.cells #[.int .i64 28, .int .i64 aat, .string atx, .int .i64 avk, .string avn, .string avx, .slice aio avi aic, .slice ayo avy ayc, .slice ano ann anc, .slice (some ⟨b, off, none⟩) N kc] 28) = W1 := ⟨_, rfl⟩
  have HX1 := Hid.mk (B1.new hW1)
  clear r0 r1 r2 hk0 hk1 hk2 hl
  unfold KdK at HK0 HK1 HK2
  generalize bs (t 0) = Y0 at *
  generalize bs (t 1) = Y1 at *
  generalize bs (t 2) = Y2 at *
  have f0 : ¬ 9223372036854775807 < 3 + Y0.size := by omega
  have f1 : ¬ 9223372036854775807 < 3 + Y0.size + 6 := by omega
  have f2 : ¬ 9223372036854775807 < 3 + Y0.size + 6 + Y1.size := by omega
  have f3 : ¬ 9223372036854775807 < 3 + Y0.size + 6 + Y1.size + 6 := by omega
  have f4 : ¬ 9223372036854775807 < 3 + Y0.size + 6 + Y1.size + 6 + Y2.size := by omega
  have f5 : ¬ 9223372036854775807 < 3 + Y0.size + 6 + Y1.size + 6 + Y2.size + 4 := by omega
  go_enter Tryz.func39, Tryz.ntmps39
  obtain ⟨x0, x1, x2, x3, x4, x5, x6, x7, x8, x9⟩ := nd_cells HX1.out.a
  obtain ⟨k0_0, k0_1, k0_2, k0_3, k0_4, k0_5, k0_6, k0_7, k0_8, k0_9⟩ := HC0.out _ HX1.out.below
  obtain ⟨k1_0, k1_1, k1_2, k1_3, k1_4, k1_5, k1_6, k1_7, k1_8, k1_9⟩ := HC1.out _ HX1.out.below
  obtain ⟨k2_0, k2_1, k2_2, k2_3, k2_4, k2_5, k2_6, k2_7, k2_8, k2_9⟩ := HC2.out _ HX1.out.below
  go_wp2_with fail
  have R_x0 := fun d os => cell_regrown x0 d os
  have R_x1 := fun d os => cell_regrown x1 d os
  have R_x2 := fun d os => cell_regrown x2 d os
  have R_x3 := fun d os => cell_regrown x3 d os
  have R_x4 := fun d os => cell_regrown x4 d os
  have R_x5 := fun d os => cell_regrown x5 d os
  have R_x6 := fun d os => cell_regrown x6 d os
  have R_x7 := fun d os => cell_regrown x7 d os
  have R_x8 := fun d os => cell_regrown x8 d os
  have R_x9 := fun d os => cell_regrown x9 d os
  have R_k0_0 := fun d os => cell_regrown k0_0 d os
  have R_k0_1 := fun d os => cell_regrown k0_1 d os
  have R_k0_2 := fun d os => cell_regrown k0_2 d os
  have R_k0_3 := fun d os => cell_regrown k0_3 d os
  have R_k0_4 := fun d os => cell_regrown k0_4 d os
  have R_k0_5 := fun d os => cell_regrown k0_5 d os
  have R_k0_6 := fun d os => cell_regrown k0_6 d os
  have R_k0_7 := fun d os => cell_regrown k0_7 d os
  have R_k0_8 := fun d os => cell_regrown k0_8 d os
  have R_k0_9 := fun d os => cell_regrown k0_9 d os
  have R_k1_0 := fun d os => cell_regrown k1_0 d os
  have R_k1_1 := fun d os => cell_regrown k1_1 d os
  have R_k1_2 := fun d os => cell_regrown k1_2 d os
  have R_k1_3 := fun d os => cell_regrown k1_3 d os
  have R_k1_4 := fun d os => cell_regrown k1_4 d os
  have R_k1_5 := fun d os => cell_regrown k1_5 d os
  have R_k1_6 := fun d os => cell_regrown k1_6 d os
  have R_k1_7 := fun d os => cell_regrown k1_7 d os
  have R_k1_8 := fun d os => cell_regrown k1_8 d os
  have R_k1_9 := fun d os => cell_regrown k1_9 d os
  have R_k2_0 := fun d os => cell_regrown k2_0 d os
  have R_k2_1 := fun d os => cell_regrown k2_1 d os
  have R_k2_2 := fun d os => cell_regrown k2_2 d os
  have R_k2_3 := fun d os => cell_regrown k2_3 d os
  have R_k2_4 := fun d os => cell_regrown k2_4 d os
  have R_k2_5 := fun d os => cell_regrown k2_5 d os
  have R_k2_6 := fun d os => cell_regrown k2_6 d os
  have R_k2_7 := fun d os => cell_regrown k2_7 d os
  have R_k2_8 := fun d os => cell_regrown k2_8 d os
  have R_k2_9 := fun d os => cell_regrown k2_9 d os
  have G0 := Hid.mk (fun (d : Nat) (os : Array Obj) => HK0.out (grow (redrawn W1 d) os) (HX1.out.below.trans ((below_regrown W1 d os).mono HX1.out.below.size)))
  have G1 := Hid.mk (fun (d : Nat) (os : Array Obj) => HK1.out (grow (redrawn W1 d) os) (HX1.out.below.trans ((below_regrown W1 d os).mono HX1.out.below.size)))
  have G2 := Hid.mk (fun (d : Nat) (os : Array Obj) => HK2.out (grow (redrawn W1 d) os) (HX1.out.below.trans ((below_regrown W1 d os).mono HX1.out.below.size)))
  refine wp_region_quiet_below (by kernel_rfl) (by kernel_rfl) ?_
  iterate 5 (go_big_quiet_step (exact Calls.regrown_of (G0.out _ _)))
  iterate 7 (go_big_quiet_step (exact Calls.regrown_of (G1.out _ _)))
  iterate 7 (go_big_quiet_step (exact Calls.regrown_of (G2.out _ _)))
  repeat (go_big_quiet_step (fail))
  refine wpQuiet_nil ?_
  intro w2 hw'
  have HX2 := Hid.mk (by obtain ⟨⟨dq, osq⟩, rfl⟩ := hw'; exact HX1.out.keep (below_regrown W1 dq osq) : B1 w _ _ w2)
  clear hw' R_x0 R_x1 R_x2 R_x3 R_x4 R_x5 R_x6 R_x7 R_x8 R_x9 R_k0_0 R_k0_1 R_k0_2 R_k0_3 R_k0_4 R_k0_5 R_k0_6 R_k0_7 R_k0_8 R_k0_9 R_k1_0 R_k1_1 R_k1_2 R_k1_3 R_k1_4 R_k1_5 R_k1_6 R_k1_7 R_k1_8 R_k1_9 R_k2_0 R_k2_1 R_k2_2 R_k2_3 R_k2_4 R_k2_5 R_k2_6 R_k2_7 R_k2_8 R_k2_9 G0 G1 G2 hW1
  clear x0 x1 x2 x3 x4 x5 x6 x7 x8 x9 k0_0 k0_1 k0_2 k0_3 k0_4 k0_5 k0_6 k0_7 k0_8 k0_9 k1_0 k1_1 k1_2 k1_3 k1_4 k1_5 k1_6 k1_7 k1_8 k1_9 k2_0 k2_1 k2_2 k2_3 k2_4 k2_5 k2_6 k2_7 k2_8 k2_9
  go_wp2_with fail
  go_ret
  exact ⟨congrArg (fun z => Ending.returned (.string z)) HE.out, HX2.out.below⟩
end Go.Proofs.YtcadknhedfnaoaaGreatDoor
namespace Go.Proofs.YtcadknhedfnaoaaGreatDoor
open Go.RowKit Go.Shelf Go.Sort
set_option linter.unusedVariables false
set_option linter.unusedSimpArgs false
attribute [local go_sem] Oper.semAt_some

set_option maxRecDepth 100000 in
set_option maxHeartbeats 3200000 in
theorem w_rbind (w : World) (aat avk : Int) (atx avn avx : ByteArray) (aio ayo ano : Option Addr) (avi aic avy ayc ann anc : Nat) (b off N kc h : Nat) (K : Nat → NT) (t : Nat → List UInt8) (hcap : N ≤ kc) (hbig : N ≤ 140737488355328) (hN : 2 ≤ N) (htx : atx.size ≤ 140737488355328) (c0 : Fin 10 → Value) (r0 : RK w b (off) c0 h (K 0) (t 0)) (c1 : Fin 10 → Value) (r1 : RK w b (off + 10) c1 h (K 1) (t 1)) (hk0 : KdK w c0 10 (pHd (t 0) (K 0) 10)) (hk1 : KdK w c1 0 (t 1)) (hl : (sBind K t atx).length ≤ 140737488355328) : Calls Tryz.prog 39 #[.agg #[.int .i64 29, .int .i64 aat, .string atx, .int .i64 avk, .string avn, .string avx, .slice aio avi aic, .slice ayo avy ayc, .slice ano ann anc, .slice (some ⟨b, off, none⟩) N kc]] w fun e w' => e = .returned (.string (bs (sBind K t atx))) ∧ Below w.heap.size w w' := by
  have q0 : ((0 : Int) < (N : Int)) := by omega
  have q1 : ((1 : Int) < (N : Int)) := by omega
  have HC0 := Hid.mk (fun u (hu : Below w.heap.size w u) => r0.cells hu)
  have HC1 := Hid.mk (fun u (hu : Below w.heap.size w u) => r1.cells hu)
  have HK0 := Hid.mk hk0
  have HK1 := Hid.mk hk1
  have s_A : (bs (pHd (t 0) (K 0) 10)).size ≤ 140737488355328 := by rw [bs_size]; have := hl; simp [sBind, sSrc] at this; omega
  have s_B : (bs (t 1)).size ≤ 140737488355328 := by rw [bs_size]; exact r1.len
  have HE : Hid (bs (pHd (t 0) (K 0) 10) ++ ⟨#[32, 97, 115, 32, 36]⟩ ++ atx ++ ⟨#[32, 124, 32]⟩ ++ bs (t 1) = bs (sBind K t atx)) := by
    show bs (pHd (t 0) (K 0) 10) ++ bs [32, 97, 115, 32, 36] ++ bs atx.data.toList ++ bs [32, 124, 32] ++ bs (t 1) = _
    simp only [bs_app]
    exact congrArg bs (by simp [sBind, sSrc])
  obtain ⟨W1, hW1⟩ : ∃ W1, w.alloc (.cells #[.int .i64 29, .int .i64 aat, .string atx, .int .i64 avk, .string avn, .string avx, .slice aio avi aic, .slice ayo avy ayc, .slice ano ann anc, .slice (some ⟨b, off, none⟩) N kc] 28) = W1 := ⟨_, rfl⟩
  have HX1 := Hid.mk (B1.new hW1)
  clear r0 r1 hk0 hk1 hl
  unfold KdK at HK0 HK1
  generalize bs (pHd (t 0) (K 0) 10) = Y0 at *
  generalize bs (t 1) = Y1 at *
  have f0 : ¬ 9223372036854775807 < Y0.size + 5 := by omega
  have f1 : ¬ 9223372036854775807 < Y0.size + 5 + atx.size := by omega
  have f2 : ¬ 9223372036854775807 < Y0.size + 5 + atx.size + 3 := by omega
  have f3 : ¬ 9223372036854775807 < Y0.size + 5 + atx.size + 3 + Y1.size := by omega
  go_enter Tryz.func39, Tryz.ntmps39
  obtain ⟨x0, x1, x2, x3, x4, x5, x6, x7, x8, x9⟩ := nd_cells HX1.out.a
  obtain ⟨k0_0, k0_1, k0_2, k0_3, k0_4, k0_5, k0_6, k0_7, k0_8, k0_9⟩ := HC0.out _ HX1.out.below
  obtain ⟨k1_0, k1_1, k1_2, k1_3, k1_4, k1_5, k1_6, k1_7, k1_8, k1_9⟩ := HC1.out _ HX1.out.below
  go_wp2_with fail
  have R_x0 := fun d os => cell_regrown x0 d os
  have R_x1 := fun d os => cell_regrown x1 d os
  have R_x2 := fun d os => cell_regrown x2 d os
  have R_x3 := fun d os => cell_regrown x3 d os
  have R_x4 := fun d os => cell_regrown x4 d os
  have R_x5 := fun d os => cell_regrown x5 d os
  have R_x6 := fun d os => cell_regrown x6 d os
  have R_x7 := fun d os => cell_regrown x7 d os
  have R_x8 := fun d os => cell_regrown x8 d os
  have R_x9 := fun d os => cell_regrown x9 d os
  have R_k0_0 := fun d os => cell_regrown k0_0 d os
  have R_k0_1 := fun d os => cell_regrown k0_1 d os
  have R_k0_2 := fun d os => cell_regrown k0_2 d os
  have R_k0_3 := fun d os => cell_regrown k0_3 d os
  have R_k0_4 := fun d os => cell_regrown k0_4 d os
  have R_k0_5 := fun d os => cell_regrown k0_5 d os
  have R_k0_6 := fun d os => cell_regrown k0_6 d os
  have R_k0_7 := fun d os => cell_regrown k0_7 d os
  have R_k0_8 := fun d os => cell_regrown k0_8 d os
  have R_k0_9 := fun d os => cell_regrown k0_9 d os
  have R_k1_0 := fun d os => cell_regrown k1_0 d os
  have R_k1_1 := fun d os => cell_regrown k1_1 d os
  have R_k1_2 := fun d os => cell_regrown k1_2 d os
  have R_k1_3 := fun d os => cell_regrown k1_3 d os
  have R_k1_4 := fun d os => cell_regrown k1_4 d os
  have R_k1_5 := fun d os => cell_regrown k1_5 d os
  have R_k1_6 := fun d os => cell_regrown k1_6 d os
  have R_k1_7 := fun d os => cell_regrown k1_7 d os
  have R_k1_8 := fun d os => cell_regrown k1_8 d os
  have R_k1_9 := fun d os => cell_regrown k1_9 d os
  have G0 := Hid.mk (fun (d : Nat) (os : Array Obj) => HK0.out (grow (redrawn W1 d) os) (HX1.out.below.trans ((below_regrown W1 d os).mono HX1.out.below.size)))
  have G1 := Hid.mk (fun (d : Nat) (os : Array Obj) => HK1.out (grow (redrawn W1 d) os) (HX1.out.below.trans ((below_regrown W1 d os).mono HX1.out.below.size)))
  refine wp_region_quiet_below (by kernel_rfl) (by kernel_rfl) ?_
  iterate 5 (go_big_quiet_step (exact Calls.regrown_of (G0.out _ _)))
  iterate 10 (go_big_quiet_step (exact Calls.regrown_of (G1.out _ _)))
  repeat (go_big_quiet_step (fail))
  refine wpQuiet_nil ?_
  intro w2 hw'
  have HX2 := Hid.mk (by obtain ⟨⟨dq, osq⟩, rfl⟩ := hw'; exact HX1.out.keep (below_regrown W1 dq osq) : B1 w _ _ w2)
  clear hw' R_x0 R_x1 R_x2 R_x3 R_x4 R_x5 R_x6 R_x7 R_x8 R_x9 R_k0_0 R_k0_1 R_k0_2 R_k0_3 R_k0_4 R_k0_5 R_k0_6 R_k0_7 R_k0_8 R_k0_9 R_k1_0 R_k1_1 R_k1_2 R_k1_3 R_k1_4 R_k1_5 R_k1_6 R_k1_7 R_k1_8 R_k1_9 G0 G1 hW1
  clear x0 x1 x2 x3 x4 x5 x6 x7 x8 x9 k0_0 k0_1 k0_2 k0_3 k0_4 k0_5 k0_6 k0_7 k0_8 k0_9 k1_0 k1_1 k1_2 k1_3 k1_4 k1_5 k1_6 k1_7 k1_8 k1_9
  go_wp2_with fail
  go_ret
  exact ⟨congrArg (fun z => Ending.returned (.string z)) HE.out, HX2.out.below⟩

set_option maxRecDepth 100000 in
set_option maxHeartbeats 3200000 in
theorem w_rlabel (w : World) (aat avk : Int) (atx avn avx : ByteArray) (aio ayo ano : Option Addr) (avi aic avy ayc ann anc : Nat) (b off N kc h : Nat) (K : Nat → NT) (t : Nat → List UInt8) (hcap : N ≤ kc) (hbig : N ≤ 140737488355328) (hN : 1 ≤ N) (htx : atx.size ≤ 140737488355328) (c0 : Fin 10 → Value) (r0 : RK w b (off) c0 h (K 0) (t 0)) (hk0 : KdK w c0 0 (t 0)) (hl : (sLabel t atx).length ≤ 140737488355328) : Calls Tryz.prog 39 #[.agg #[.int .i64 34, .int .i64 aat, .string atx, .int .i64 avk, .string avn, .string avx, .slice aio avi aic, .slice ayo avy ayc, .slice ano ann anc, .slice (some ⟨b, off, none⟩) N kc]] w fun e w' => e = .returned (.string (bs (sLabel t atx))) ∧ Below w.heap.size w w' := by
  have q0 : ((0 : Int) < (N : Int)) := by omega
  have HC0 := Hid.mk (fun u (hu : Below w.heap.size w u) => r0.cells hu)
  have HK0 := Hid.mk hk0
  have s_A : (bs (t 0)).size ≤ 140737488355328 := by rw [bs_size]; exact r0.len
  have HE : Hid ((⟨#[108, 97, 98, 101, 108, 32, 36]⟩ : ByteArray) ++ atx ++ ⟨#[32, 124, 32]⟩ ++ bs (t 0) = bs (sLabel t atx)) := by
    show bs [108, 97, 98, 101, 108, 32, 36] ++ bs atx.data.toList ++ bs [32, 124, 32] ++ bs (t 0) = _
    simp only [bs_app]
    exact congrArg bs (by simp [sLabel])
  obtain ⟨W1, hW1⟩ : ∃ W1, w.alloc (.cells #[.int .i64 34, .int .i64 aat, .string atx, .int .i64 avk, .string avn, .string avx, .slice aio avi aic, .slice ayo avy ayc, .slice ano ann anc, .slice (some ⟨b, off, none⟩) N kc] 28) = W1 := ⟨_, rfl⟩
  have HX1 := Hid.mk (B1.new hW1)
  clear r0 hk0 hl
  unfold KdK at HK0
  generalize bs (t 0) = Y0 at *
  have f0 : ¬ 9223372036854775807 < 7 + atx.size := by omega
  have f1 : ¬ 9223372036854775807 < 7 + atx.size + 3 := by omega
  have f2 : ¬ 9223372036854775807 < 7 + atx.size + 3 + Y0.size := by omega
  go_enter Tryz.func39, Tryz.ntmps39
  obtain ⟨x0, x1, x2, x3, x4, x5, x6, x7, x8, x9⟩ := nd_cells HX1.out.a
  obtain ⟨k0_0, k0_1, k0_2, k0_3, k0_4, k0_5, k0_6, k0_7, k0_8, k0_9⟩ := HC0.out _ HX1.out.below
  go_wp2_with fail
  have R_x0 := fun d os => cell_regrown x0 d os
  have R_x1 := fun d os => cell_regrown x1 d os
  have R_x2 := fun d os => cell_regrown x2 d os
  have R_x3 := fun d os => cell_regrown x3 d os
  have R_x4 := fun d os => cell_regrown x4 d os
  have R_x5 := fun d os => cell_regrown x5 d os
  have R_x6 := fun d os => cell_regrown x6 d os
  have R_x7 := fun d os => cell_regrown x7 d os
  have R_x8 := fun d os => cell_regrown x8 d os
  have R_x9 := fun d os => cell_regrown x9 d os
  have R_k0_0 := fun d os => cell_regrown k0_0 d os
  have R_k0_1 := fun d os => cell_regrown k0_1 d os
  have R_k0_2 := fun d os => cell_regrown k0_2 d os
  have R_k0_3 := fun d os => cell_regrown k0_3 d os
  have R_k0_4 := fun d os => cell_regrown k0_4 d os
  have R_k0_5 := fun d os => cell_regrown k0_5 d os
  have R_k0_6 := fun d os => cell_regrown k0_6 d os
  have R_k0_7 := fun d os => cell_regrown k0_7 d os
  have R_k0_8 := fun d os => cell_regrown k0_8 d os
  have R_k0_9 := fun d os => cell_regrown k0_9 d os
  have G0 := Hid.mk (fun (d : Nat) (os : Array Obj) => HK0.out (grow (redrawn W1 d) os) (HX1.out.below.trans ((below_regrown W1 d os).mono HX1.out.below.size)))
  refine wp_region_quiet_below (by kernel_rfl) (by kernel_rfl) ?_
  iterate 9 (go_big_quiet_step (exact Calls.regrown_of (G0.out _ _)))
  repeat (go_big_quiet_step (fail))
  refine wpQuiet_nil ?_
  intro w2 hw'
  have HX2 := Hid.mk (by obtain ⟨⟨dq, osq⟩, rfl⟩ := hw'; exact HX1.out.keep (below_regrown W1 dq osq) : B1 w _ _ w2)
  clear hw' R_x0 R_x1 R_x2 R_x3 R_x4 R_x5 R_x6 R_x7 R_x8 R_x9 R_k0_0 R_k0_1 R_k0_2 R_k0_3 R_k0_4 R_k0_5 R_k0_6 R_k0_7 R_k0_8 R_k0_9 G0 hW1
  clear x0 x1 x2 x3 x4 x5 x6 x7 x8 x9 k0_0 k0_1 k0_2 k0_3 k0_4 k0_5 k0_6 k0_7 k0_8 k0_9
  go_wp2_with fail
  go_ret
  exact ⟨congrArg (fun z => Ending.returned (.string z)) HE.out, HX2.out.below⟩

set_option maxRecDepth 100000 in
set_option maxHeartbeats 3200000 in
theorem w_rloop30 (w : World) (aat avk : Int) (atx avn avx : ByteArray) (aio ayo ano : Option Addr) (avi aic avy ayc ann anc : Nat) (b off N kc h : Nat) (K : Nat → NT) (t : Nat → List UInt8) (hcap : N ≤ kc) (hbig : N ≤ 140737488355328) (hN : 2 ≤ N) (htx : atx.size ≤ 140737488355328) (c0 : Fin 10 → Value) (r0 : RK w b (off) c0 h (K 0) (t 0)) (hk0 : KdK w c0 10 (pHd (t 0) (K 0) 10)) (hr : RwK w (some ⟨b, off + 10, none⟩) (N - 1) (kc - 1) (pRw (fun i => t (i + 1)) (N - 1))) (hl : (sLoop 30 K t atx N).length ≤ 140737488355328) : Calls Tryz.prog 39 #[.agg #[.int .i64 30, .int .i64 aat, .string atx, .int .i64 avk, .string avn, .string avx, .slice aio avi aic, .slice ayo avy ayc, .slice ano ann anc, .slice (some ⟨b, off, none⟩) N kc]] w fun e w' => e = .returned (.string (bs (sLoop 30 K t atx N))) ∧ Below w.heap.size w w' := by
  have hN1 : (1 : Int) ≤ (N : Int) := by omega
  have e1 : ((N : Int) - 1).toNat = N - 1 := by omega
  have e2 : ((kc : Int) - 1).toNat = kc - 1 := by omega
  have q0 : ((0 : Int) < (N : Int)) := by omega
  have HC0 := Hid.mk (fun u (hu : Below w.heap.size w u) => r0.cells hu)
  have HK0 := Hid.mk hk0
  have HR := Hid.mk hr
  have s_A : (bs (pHd (t 0) (K 0) 10)).size ≤ 140737488355328 := by rw [bs_size]; have := hl; simp [sLoop, sSrc] at this; omega
  have s_B : (bs (pRw (fun i => t (i + 1)) (N - 1))).size ≤ 140737488355328 := by rw [bs_size]; have := hl; simp [sLoop, sSrc] at this; omega
  have HE : Hid ((⟨#[114, 101, 100, 117, 99, 101, 32]⟩ : ByteArray) ++ bs (pHd (t 0) (K 0) 10) ++ ⟨#[32, 97, 115, 32, 36]⟩ ++ atx ++ ⟨#[32, 40]⟩ ++ bs (pRw (fun i => t (i + 1)) (N - 1)) ++ ⟨#[41]⟩ = bs (sLoop 30 K t atx N)) := by
    show bs [114, 101, 100, 117, 99, 101, 32] ++ bs (pHd (t 0) (K 0) 10) ++ bs [32, 97, 115, 32, 36] ++ bs atx.data.toList ++ bs [32, 40] ++ bs (pRw (fun i => t (i + 1)) (N - 1)) ++ bs [41] = _
    simp only [bs_app]
    exact congrArg bs (by simp [sLoop, sSrc])
  obtain ⟨W1, hW1⟩ : ∃ W1, w.alloc (.cells #[.int .i64 30, .int .i64 aat, .string atx, .int .i64 avk, .string avn, .string avx, .slice aio avi aic, .slice ayo avy ayc, .slice ano ann anc, .slice (some ⟨b, off, none⟩) N kc] 28) = W1 := ⟨_, rfl⟩
  have HX1 := Hid.mk (B1.new hW1)
  clear r0 hk0 hr hl
  unfold KdK at HK0
  unfold RwK at HR
  generalize bs (pHd (t 0) (K 0) 10) = Y0 at *
  generalize bs (pRw (fun i => t (i + 1)) (N - 1)) = Y1 at *
  have f0 : ¬ 9223372036854775807 < 7 + Y0.size := by omega
  have f1 : ¬ 9223372036854775807 < 7 + Y0.size + 5 := by omega
  have f2 : ¬ 9223372036854775807 < 7 + Y0.size + 5 + atx.size := by omega
  have f3 : ¬ 9223372036854775807 < 7 + Y0.size + 5 + atx.size + 2 := by omega
  have f4 : ¬ 9223372036854775807 < 7 + Y0.size + 5 + atx.size + 2 + Y1.size := by omega
  have f5 : ¬ 9223372036854775807 < 7 + Y0.size + 5 + atx.size + 2 + Y1.size + 1 := by omega
  go_enter Tryz.func39, Tryz.ntmps39
  obtain ⟨x0, x1, x2, x3, x4, x5, x6, x7, x8, x9⟩ := nd_cells HX1.out.a
  obtain ⟨k0_0, k0_1, k0_2, k0_3, k0_4, k0_5, k0_6, k0_7, k0_8, k0_9⟩ := HC0.out _ HX1.out.below
  go_wp2_with fail
  have R_x0 := fun d os => cell_regrown x0 d os
  have R_x1 := fun d os => cell_regrown x1 d os
  have R_x2 := fun d os => cell_regrown x2 d os
  have R_x3 := fun d os => cell_regrown x3 d os
  have R_x4 := fun d os => cell_regrown x4 d os
  have R_x5 := fun d os => cell_regrown x5 d os
  have R_x6 := fun d os => cell_regrown x6 d os
  have R_x7 := fun d os => cell_regrown x7 d os
  have R_x8 := fun d os => cell_regrown x8 d os
  have R_x9 := fun d os => cell_regrown x9 d os
  have R_k0_0 := fun d os => cell_regrown k0_0 d os
  have R_k0_1 := fun d os => cell_regrown k0_1 d os
  have R_k0_2 := fun d os => cell_regrown k0_2 d os
  have R_k0_3 := fun d os => cell_regrown k0_3 d os
  have R_k0_4 := fun d os => cell_regrown k0_4 d os
  have R_k0_5 := fun d os => cell_regrown k0_5 d os
  have R_k0_6 := fun d os => cell_regrown k0_6 d os
  have R_k0_7 := fun d os => cell_regrown k0_7 d os
  have R_k0_8 := fun d os => cell_regrown k0_8 d os
  have R_k0_9 := fun d os => cell_regrown k0_9 d os
  have G0 := Hid.mk (fun (d : Nat) (os : Array Obj) => HK0.out (grow (redrawn W1 d) os) (HX1.out.below.trans ((below_regrown W1 d os).mono HX1.out.below.size)))
  have G1 := Hid.mk (fun (d : Nat) (os : Array Obj) => HR.out (grow (redrawn W1 d) os) (HX1.out.below.trans ((below_regrown W1 d os).mono HX1.out.below.size)))
  refine wp_region_quiet_below (by kernel_rfl) (by kernel_rfl) ?_
  iterate 5 (go_big_quiet_step (exact Calls.regrown_of (G0.out _ _)))
  iterate 10 (go_big_quiet_step (exact Calls.regrown_of (G1.out _ _)))
  repeat (go_big_quiet_step (fail))
  refine wpQuiet_nil ?_
  intro w2 hw'
  have HX2 := Hid.mk (by obtain ⟨⟨dq, osq⟩, rfl⟩ := hw'; exact HX1.out.keep (below_regrown W1 dq osq) : B1 w _ _ w2)
  clear hw' R_x0 R_x1 R_x2 R_x3 R_x4 R_x5 R_x6 R_x7 R_x8 R_x9 R_k0_0 R_k0_1 R_k0_2 R_k0_3 R_k0_4 R_k0_5 R_k0_6 R_k0_7 R_k0_8 R_k0_9 G0 G1 hW1
  clear x0 x1 x2 x3 x4 x5 x6 x7 x8 x9 k0_0 k0_1 k0_2 k0_3 k0_4 k0_5 k0_6 k0_7 k0_8 k0_9
  go_wp2_with fail
  go_ret
  exact ⟨congrArg (fun z => Ending.returned (.string z)) HE.out, HX2.out.below⟩
end Go.Proofs.YtcadknhedfnaoaaGreatDoor
namespace Go.Proofs.YtcadknhedfnaoaaGreatDoor
open Go.RowKit Go.Shelf Go.Sort
set_option linter.unusedVariables false
set_option linter.unusedSimpArgs false
attribute [local go_sem] Oper.semAt_some

set_option maxRecDepth 100000 in
set_option maxHeartbeats 3200000 in
theorem w_rloop31 (w : World) (aat avk : Int) (atx avn avx : ByteArray) (aio ayo ano : Option Addr) (avi aic avy ayc ann anc : Nat) (b off N kc h : Nat) (K : Nat → NT) (t : Nat → List UInt8) (hcap : N ≤ kc) (hbig : N ≤ 140737488355328) (hN : 2 ≤ N) (htx : atx.size ≤ 140737488355328) (c0 : Fin 10 → Value) (r0 : RK w b (off) c0 h (K 0) (t 0)) (hk0 : KdK w c0 10 (pHd (t 0) (K 0) 10)) (hr : RwK w (some ⟨b, off + 10, none⟩) (N - 1) (kc - 1) (pRw (fun i => t (i + 1)) (N - 1))) (hl : (sLoop 31 K t atx N).length ≤ 140737488355328) : Calls Tryz.prog 39 #[.agg #[.int .i64 31, .int .i64 aat, .string atx, .int .i64 avk, .string avn, .string avx, .slice aio avi aic, .slice ayo avy ayc, .slice ano ann anc, .slice (some ⟨b, off, none⟩) N kc]] w fun e w' => e = .returned (.string (bs (sLoop 31 K t atx N))) ∧ Below w.heap.size w w' := by
  have hN1 : (1 : Int) ≤ (N : Int) := by omega
  have e1 : ((N : Int) - 1).toNat = N - 1 := by omega
  have e2 : ((kc : Int) - 1).toNat = kc - 1 := by omega
  have q0 : ((0 : Int) < (N : Int)) := by omega
  have HC0 := Hid.mk (fun u (hu : Below w.heap.size w u) => r0.cells hu)
  have HK0 := Hid.mk hk0
  have HR := Hid.mk hr
  have s_A : (bs (pHd (t 0) (K 0) 10)).size ≤ 140737488355328 := by rw [bs_size]; have := hl; simp [sLoop, sSrc] at this; omega
  have s_B : (bs (pRw (fun i => t (i + 1)) (N - 1))).size ≤ 140737488355328 := by rw [bs_size]; have := hl; simp [sLoop, sSrc] at this; omega
  have HE : Hid ((⟨#[102, 111, 114, 101, 97, 99, 104, 32]⟩ : ByteArray) ++ bs (pHd (t 0) (K 0) 10) ++ ⟨#[32, 97, 115, 32, 36]⟩ ++ atx ++ ⟨#[32, 40]⟩ ++ bs (pRw (fun i => t (i + 1)) (N - 1)) ++ ⟨#[41]⟩ = bs (sLoop 31 K t atx N)) := by
    show bs [102, 111, 114, 101, 97, 99, 104, 32] ++ bs (pHd (t 0) (K 0) 10) ++ bs [32, 97, 115, 32, 36] ++ bs atx.data.toList ++ bs [32, 40] ++ bs (pRw (fun i => t (i + 1)) (N - 1)) ++ bs [41] = _
    simp only [bs_app]
    exact congrArg bs (by simp [sLoop, sSrc])
  obtain ⟨W1, hW1⟩ : ∃ W1, w.alloc (.cells #[.int .i64 31, .int .i64 aat, .string atx, .int .i64 avk, .string avn, .string avx, .slice aio avi aic, .slice ayo avy ayc, .slice ano ann anc, .slice (some ⟨b, off, none⟩) N kc] 28) = W1 := ⟨_, rfl⟩
  have HX1 := Hid.mk (B1.new hW1)
  clear r0 hk0 hr hl
  unfold KdK at HK0
  unfold RwK at HR
  generalize bs (pHd (t 0) (K 0) 10) = Y0 at *
  generalize bs (pRw (fun i => t (i + 1)) (N - 1)) = Y1 at *
  have f0 : ¬ 9223372036854775807 < 8 + Y0.size := by omega
  have f1 : ¬ 9223372036854775807 < 8 + Y0.size + 5 := by omega
  have f2 : ¬ 9223372036854775807 < 8 + Y0.size + 5 + atx.size := by omega
  have f3 : ¬ 9223372036854775807 < 8 + Y0.size + 5 + atx.size + 2 := by omega
  have f4 : ¬ 9223372036854775807 < 8 + Y0.size + 5 + atx.size + 2 + Y1.size := by omega
  have f5 : ¬ 9223372036854775807 < 8 + Y0.size + 5 + atx.size + 2 + Y1.size + 1 := by omega
  go_enter Tryz.func39, Tryz.ntmps39
  obtain ⟨x0, x1, x2, x3, x4, x5, x6, x7, x8, x9⟩ := nd_cells HX1.out.a
  obtain ⟨k0_0, k0_1, k0_2, k0_3, k0_4, k0_5, k0_6, k0_7, k0_8, k0_9⟩ := HC0.out _ HX1.out.below
  go_wp2_with fail
  have R_x0 := fun d os => cell_regrown x0 d os
  have R_x1 := fun d os => cell_regrown x1 d os
  have R_x2 := fun d os => cell_regrown x2 d os
  have R_x3 := fun d os => cell_regrown x3 d os
  have R_x4 := fun d os => cell_regrown x4 d os
  have R_x5 := fun d os => cell_regrown x5 d os
  have R_x6 := fun d os => cell_regrown x6 d os
  have R_x7 := fun d os => cell_regrown x7 d os
  have R_x8 := fun d os => cell_regrown x8 d os
  have R_x9 := fun d os => cell_regrown x9 d os
  have R_k0_0 := fun d os => cell_regrown k0_0 d os
  have R_k0_1 := fun d os => cell_regrown k0_1 d os
  have R_k0_2 := fun d os => cell_regrown k0_2 d os
  have R_k0_3 := fun d os => cell_regrown k0_3 d os
  have R_k0_4 := fun d os => cell_regrown k0_4 d os
  have R_k0_5 := fun d os => cell_regrown k0_5 d os
  have R_k0_6 := fun d os => cell_regrown k0_6 d os
  have R_k0_7 := fun d os => cell_regrown k0_7 d os
  have R_k0_8 := fun d os => cell_regrown k0_8 d os
  have R_k0_9 := fun d os => cell_regrown k0_9 d os
  have G0 := Hid.mk (fun (d : Nat) (os : Array Obj) => HK0.out (grow (redrawn W1 d) os) (HX1.out.below.trans ((below_regrown W1 d os).mono HX1.out.below.size)))
  have G1 := Hid.mk (fun (d : Nat) (os : Array Obj) => HR.out (grow (redrawn W1 d) os) (HX1.out.below.trans ((below_regrown W1 d os).mono HX1.out.below.size)))
  refine wp_region_quiet_below (by kernel_rfl) (by kernel_rfl) ?_
  iterate 5 (go_big_quiet_step (exact Calls.regrown_of (G0.out _ _)))
  iterate 10 (go_big_quiet_step (exact Calls.regrown_of (G1.out _ _)))
  repeat (go_big_quiet_step (fail))
  refine wpQuiet_nil ?_
  intro w2 hw'
  have HX2 := Hid.mk (by obtain ⟨⟨dq, osq⟩, rfl⟩ := hw'; exact HX1.out.keep (below_regrown W1 dq osq) : B1 w _ _ w2)
  clear hw' R_x0 R_x1 R_x2 R_x3 R_x4 R_x5 R_x6 R_x7 R_x8 R_x9 R_k0_0 R_k0_1 R_k0_2 R_k0_3 R_k0_4 R_k0_5 R_k0_6 R_k0_7 R_k0_8 R_k0_9 G0 G1 hW1
  clear x0 x1 x2 x3 x4 x5 x6 x7 x8 x9 k0_0 k0_1 k0_2 k0_3 k0_4 k0_5 k0_6 k0_7 k0_8 k0_9
  go_wp2_with fail
  go_ret
  exact ⟨congrArg (fun z => Ending.returned (.string z)) HE.out, HX2.out.below⟩

set_option maxRecDepth 100000 in
set_option maxHeartbeats 3200000 in
theorem w_rcall (w : World) (aat avk : Int) (atx avn avx : ByteArray) (aio ayo ano ako : Option Addr) (avi aic avy ayc ann anc : Nat) (N kc : Nat) (t : Nat → List UInt8) (hcap : N ≤ kc) (hbig : N ≤ 140737488355328) (htx : atx.size ≤ 140737488355328) (hr : RwK w ako N kc (pRw t N)) (hl : (sCall t atx N).length ≤ 140737488355328) : Calls Tryz.prog 39 #[.agg #[.int .i64 33, .int .i64 aat, .string atx, .int .i64 avk, .string avn, .string avx, .slice aio avi aic, .slice ayo avy ayc, .slice ano ann anc, .slice ako N kc]] w fun e w' => e = .returned (.string (bs (sCall t atx N))) ∧ Below w.heap.size w w' := by
  have HR := Hid.mk hr
  obtain ⟨W1, hW1⟩ : ∃ W1, w.alloc (.cells #[.int .i64 33, .int .i64 aat, .string atx, .int .i64 avk, .string avn, .string avx, .slice aio avi aic, .slice ayo avy ayc, .slice ano ann anc, .slice ako N kc] 28) = W1 := ⟨_, rfl⟩
  have HX1 := Hid.mk (B1.new hW1)
  unfold RwK at HR
  unfold sCall at *
  by_cases hz : N = 0
  · subst hz
    rw [if_pos rfl, List.append_nil]
    clear hr hl HR
    go_enter Tryz.func39, Tryz.ntmps39
    obtain ⟨x0, x1, x2, x3, x4, x5, x6, x7, x8, x9⟩ := nd_cells HX1.out.a
    go_wp2_with fail
    go_ret
    exact ⟨rfl, HX1.out.below⟩
  · have hz1 : ((N : Int) == 0) = false := by rw [beq_eq_false_iff_ne]; omega
    rw [if_neg hz] at hl ⊢
    have s_A : (bs (pRw t N)).size ≤ 140737488355328 := by rw [bs_size]; have := hl; simp at this; omega
    have HE : Hid (atx ++ ⟨#[40]⟩ ++ bs (pRw t N) ++ ⟨#[41]⟩ = bs (atx.data.toList ++ ([40] ++ (pRw t N ++ [41])))) := by
      show bs atx.data.toList ++ bs [40] ++ bs (pRw t N) ++ bs [41] = _
      simp only [bs_app, List.append_assoc]
    clear hr hl
    generalize bs (pRw t N) = Y0 at *
    have f0 : ¬ 9223372036854775807 < atx.size + 1 := by omega
    have f1 : ¬ 9223372036854775807 < atx.size + 1 + Y0.size := by omega
    have f2 : ¬ 9223372036854775807 < atx.size + 1 + Y0.size + 1 := by omega
    go_enter Tryz.func39, Tryz.ntmps39
    obtain ⟨x0, x1, x2, x3, x4, x5, x6, x7, x8, x9⟩ := nd_cells HX1.out.a
    go_wp2_with fail
    have R_x0 := fun d os => cell_regrown x0 d os
    have R_x1 := fun d os => cell_regrown x1 d os
    have R_x2 := fun d os => cell_regrown x2 d os
    have R_x3 := fun d os => cell_regrown x3 d os
    have R_x4 := fun d os => cell_regrown x4 d os
    have R_x5 := fun d os => cell_regrown x5 d os
    have R_x6 := fun d os => cell_regrown x6 d os
    have R_x7 := fun d os => cell_regrown x7 d os
    have R_x8 := fun d os => cell_regrown x8 d os
    have R_x9 := fun d os => cell_regrown x9 d os
    have G0 := Hid.mk (fun (d : Nat) (os : Array Obj) => HR.out (grow (redrawn W1 d) os) (HX1.out.below.trans ((below_regrown W1 d os).mono HX1.out.below.size)))
    refine wp_region_quiet_below (by kernel_rfl) (by kernel_rfl) ?_
    iterate 6 (go_big_quiet_step (exact Calls.regrown_of (G0.out _ _)))
    repeat (go_big_quiet_step (fail))
    refine wpQuiet_nil ?_
    intro w2 hw'
    have HX2 := Hid.mk (by obtain ⟨⟨dq, osq⟩, rfl⟩ := hw'; exact HX1.out.keep (below_regrown W1 dq osq) : B1 w _ _ w2)
    clear hw' R_x0 R_x1 R_x2 R_x3 R_x4 R_x5 R_x6 R_x7 R_x8 R_x9 G0 hW1
    clear x0 x1 x2 x3 x4 x5 x6 x7 x8 x9
    go_wp2_with fail
    go_ret
    exact ⟨congrArg (fun z => Ending.returned (.string z)) HE.out, HX2.out.below⟩
end Go.Proofs.YtcadknhedfnaoaaGreatDoor
namespace Go.Proofs.YtcadknhedfnaoaaGreatDoor
open Go.RowKit Go.Shelf Go.Sort
set_option linter.unusedVariables false
set_option linter.unusedSimpArgs false
attribute [local go_sem] Oper.semAt_some

theorem jt_snoc (sep : List UInt8) (r : List (List UInt8)) (a : List UInt8) : Lib.joinTail sep (r ++ [a]) = Lib.joinTail sep r ++ (sep ++ a) := by simp [Lib.joinTail]
def gN (ns : List ByteArray) (i : Nat) : List UInt8 := (if i = 0 then [40] else [59, 32]) ++ (ns.getD i .empty).data.toList
theorem join_snoc (sep a : List UInt8) : ∀ (l : List (List UInt8)), l ≠ [] → Lib.join (l ++ [a]) sep = Lib.join l sep ++ (sep ++ a)
  | [], h => absurd rfl h
  | x :: r, _ => by rw [List.cons_append, Lib.join_cons, Lib.join_cons, jt_snoc, List.append_assoc]
theorem gN_fl (ns : List ByteArray) : ∀ k, k ≤ ns.length → fl (gN ns) k = if k = 0 then [] else [40] ++ Lib.join ((ns.take k).map (·.data.toList)) [59, 32]
  | 0, _ => rfl
  | k + 1, hk => by
    have hkl : k < ns.length := by omega
    have hg : ns.getD k .empty = ns[k] := by rw [List.getD_eq_getElem?_getD, List.getElem?_eq_getElem hkl]; rfl
    have ih := gN_fl ns k (by omega)
    have e1 : gN ns k = (if k = 0 then [40] else [59, 32]) ++ ns[k].data.toList := by unfold gN; rw [hg]
    rw [fl_succ, ih, e1, if_neg (Nat.succ_ne_zero k), List.take_succ_eq_append_getElem hkl, List.map_append]
    by_cases hz : k = 0
    · subst hz
      simp [Lib.join_one]
    · rw [if_neg hz, if_neg hz]
      have hne : (ns.take k).map (·.data.toList) ≠ [] := by
        intro e
        have := congrArg List.length e
        simp only [List.length_map, List.length_take, List.length_nil] at this
        omega
      rw [List.map_cons, List.map_nil, join_snoc _ _ _ hne, List.append_assoc]
theorem gN_all (ns : List ByteArray) : fl (gN ns) ns.length = if ns.length = 0 then [] else [40] ++ pNm ns := by
  rw [gN_fl ns _ (Nat.le_refl _), List.take_length]
  rfl
theorem sDef_eq (t : Nat → List UInt8) (x : ByteArray) (ns : List ByteArray) : sDef t x ns = [100, 101, 102, 32] ++ (x.data.toList ++ (fl (gN ns) ns.length ++ ((if ns.length = 0 then [] else [41]) ++ ([58, 32] ++ (t 0 ++ ([59, 32] ++ t 1)))))) := by
  rw [gN_all]
  unfold sDef pRw
  by_cases hz : ns.length = 0
  · rw [if_pos hz, if_pos hz, if_pos hz]
    simp [List.range_succ]
  · rw [if_neg hz, if_neg hz, if_neg hz]
    simp [List.range_succ]

set_option maxRecDepth 100000 in
set_option maxHeartbeats 3200000 in
theorem w_rdef (w : World) (aat avk : Int) (atx avn avx : ByteArray) (aio ayo ano : Option Addr) (avi aic avy ayc Nn anc : Nat) (b off kc h : Nat) (K : Nat → NT) (t : Nat → List UInt8) (hcap : 2 ≤ kc) (htx : atx.size ≤ 140737488355328) (ns : List ByteArray) (hNn : ns.length = Nn) (hns : KIn w ano ns) (hnc : Nn ≤ anc) (hnb : Nn ≤ 140737488355328) (c0 : Fin 10 → Value) (r0 : RK w b (off) c0 h (K 0) (t 0)) (c1 : Fin 10 → Value) (r1 : RK w b (off + 10) c1 h (K 1) (t 1)) (hk0 : KdK w c0 0 (t 0)) (hk1 : KdK w c1 0 (t 1)) (hl : (sDef t atx ns).length ≤ 140737488355328) : Calls Tryz.prog 39 #[.agg #[.int .i64 32, .int .i64 aat, .string atx, .int .i64 avk, .string avn, .string avx, .slice aio avi aic, .slice ayo avy ayc, .slice ano Nn anc, .slice (some ⟨b, off, none⟩) 2 kc]] w fun e w' => e = .returned (.string (bs (sDef t atx ns))) ∧ Below w.heap.size w w' := by
  rw [sDef_eq] at hl ⊢
  rw [hNn] at hl ⊢
  have HC0 := Hid.mk (fun u (hu : Below w.heap.size w u) => r0.cells hu)
  have HC1 := Hid.mk (fun u (hu : Below w.heap.size w u) => r1.cells hu)
  have HK0 := Hid.mk hk0
  have HK1 := Hid.mk hk1
  have s_A : (bs (t 0)).size ≤ 140737488355328 := by rw [bs_size]; exact r0.len
  have s_B : (bs (t 1)).size ≤ 140737488355328 := by rw [bs_size]; exact r1.len
  have HNs := Hid.mk hns
  have HNn := Hid.mk hNn
  have HL := Hid.mk hl
  have HG0 : Hid (∀ i, gN ns i = (if i = 0 then [40] else [59, 32]) ++ (ns.getD i .empty).data.toList) := fun i => rfl
  generalize gN ns = f at *
  obtain ⟨W1, hW1⟩ : ∃ W1, w.alloc (.cells #[.int .i64 32, .int .i64 aat, .string atx, .int .i64 avk, .string avn, .string avx, .slice aio avi aic, .slice ayo avy ayc, .slice ano Nn anc, .slice (some ⟨b, off, none⟩) 2 kc] 28) = W1 := ⟨_, rfl⟩
  have HX1 := Hid.mk (B1.new hW1)
  clear r0 r1 hk0 hk1 hl hns hNn
  unfold KdK at HK0 HK1
  have f0 : ¬ 9223372036854775807 < 4 + atx.size := by omega
  have HE0 : Hid ((⟨#[100, 101, 102, 32]⟩ : ByteArray) ++ atx = bs ([100, 101, 102, 32] ++ (atx.data.toList ++ fl f 0))) := by
    show bs [100, 101, 102, 32] ++ bs atx.data.toList = _
    rw [bs_app]
    simp [fl]
  go_enter Tryz.func39, Tryz.ntmps39
  obtain ⟨x0, x1, x2, x3, x4, x5, x6, x7, x8, x9⟩ := nd_cells HX1.out.a
  go_wp2_with fail
  clear x0 x1 x2 x3 x4 x5 x6 x7 x8 x9
  go_loopw [3, 4] (fun sv i wr => ∃ (Z : ByteArray) (k : Nat), k ≤ Nn ∧ sv = .string Z ∧ i = .int .i64 (k : Int) ∧ Hid (Z = bs ([100, 101, 102, 32] ++ (atx.data.toList ++ fl f k))) ∧ Hid (B1 w #[.int .i64 32, .int .i64 aat, .string atx, .int .i64 avk, .string avn, .string avx, .slice aio avi aic, .slice ayo avy ayc, .slice ano Nn anc, .slice (some ⟨b, off, none⟩) 2 kc] 28 wr)) (fun _ i _ => Nn - (intOf i).toNat)
  case atStart => exact ⟨_, 0, Nat.zero_le _, rfl, rfl, HE0, HX1⟩
  case round =>
    clear hW1 HX1 HE0
    obtain ⟨Z, k, hk, rfl, rfl, HZ, HX2⟩ := hrel
    have hZs : Z.size ≤ 140737488355328 := by
      rw [HZ.out, bs_size]
      have h1 := fl_pre f hk
      have h2 := HL.out
      simp only [List.length_append, List.length_cons, List.length_nil] at h2 ⊢
      omega
    by_cases hlt : k < Nn
    · have hl1 : (k : Int) < (Nn : Int) := by omega
      have hl0 : (0 : Int) ≤ (k : Int) := by omega
      obtain ⟨nb, nof, rfl, hnl, hnr⟩ := HNs.out.row (by rw [HNn.out]; omega)
      have hc0 := hnr k (by rw [HNn.out]; exact hlt)
      have hc := (HX2.out.below.cell (p := ⟨nb, nof + k, none⟩) hnl).trans hc0
      have HU := Hid.mk (fl_succ f k)
      have hTs : (ns.getD k .empty).size ≤ 140737488355328 := by
        have h1 := fl_pre f (show k + 1 ≤ Nn by omega)
        have h2 := HL.out
        rw [HU.out, HG0.out k] at h1
        have h3 : (ns.getD k .empty).data.toList.length = (ns.getD k .empty).size := by rw [Array.length_toList]; rfl
        simp only [List.length_append, List.length_cons, List.length_nil] at h1 h2
        omega
      clear hnr hc0 hnl
      obtain ⟨x0, x1, x2, x3, x4, x5, x6, x7, x8, x9⟩ := nd_cells HX2.out.a
      by_cases hz : k = 0
      · have HE : Hid (Z ++ ⟨#[40]⟩ ++ ns.getD k .empty = bs ([100, 101, 102, 32] ++ (atx.data.toList ++ fl f (k + 1)))) := by
          show Z ++ bs [40] ++ bs (ns.getD k .empty).data.toList = _
          rw [HZ.out, HU.out, HG0.out k, if_pos hz]
          simp only [bs_app, List.append_assoc]
        subst hz
        simp only [Nat.add_zero] at hc
        generalize ns.getD 0 .empty = nm at *
        have f1 : ¬ 9223372036854775807 < Z.size + 1 := by omega
        have f2 : ¬ 9223372036854775807 < Z.size + 1 + nm.size := by omega
        go_wp2_with fail
        go_roundw
        case rel => exact ⟨_, 0 + 1, by omega, rfl, by go_num, HE, HX2⟩
        case measure => simp [intOf]; omega
      · have HE : Hid (Z ++ ⟨#[59, 32]⟩ ++ ns.getD k .empty = bs ([100, 101, 102, 32] ++ (atx.data.toList ++ fl f (k + 1)))) := by
          show Z ++ bs [59, 32] ++ bs (ns.getD k .empty).data.toList = _
          rw [HZ.out, HU.out, HG0.out k, if_neg hz]
          simp only [bs_app, List.append_assoc]
        have hz1 : ((k : Int) == 0) = false := by rw [beq_eq_false_iff_ne]; omega
        generalize ns.getD k .empty = nm at *
        have f1 : ¬ 9223372036854775807 < Z.size + 2 := by omega
        have f2 : ¬ 9223372036854775807 < Z.size + 2 + nm.size := by omega
        go_wp2_with fail
        go_roundw
        case rel => exact ⟨_, k + 1, by omega, rfl, by go_num, HE, HX2⟩
        case measure => simp [intOf]; omega
    · have hl1 : ¬ (k : Int) < (Nn : Int) := by omega
      obtain rfl : k = Nn := by omega
      by_cases hz : k = 0
      · skip
        have HE : Hid (Z ++ ⟨#[58, 32]⟩ ++ bs (t 0) ++ ⟨#[59, 32]⟩ ++ bs (t 1) = bs ([100, 101, 102, 32] ++ (atx.data.toList ++ (fl f k ++ ([] ++ ([58, 32] ++ (t 0 ++ ([59, 32] ++ t 1)))))))) := by
          show Z ++ bs [58, 32] ++ bs (t 0) ++ bs [59, 32] ++ bs (t 1) = _
          rw [HZ.out]
          simp only [bs_app, List.append_assoc, List.nil_append]
        subst hz
        have hg : ¬ (0 : Int) < ((0 : Nat) : Int) := by omega
        generalize bs (t 0) = Y0 at *
        generalize bs (t 1) = Y1 at *
        have g0 : ¬ 9223372036854775807 < Z.size + 2 := by omega
        have g1 : ¬ 9223372036854775807 < Z.size + 2 + Y0.size := by omega
        have g2 : ¬ 9223372036854775807 < Z.size + 2 + Y0.size + 2 := by omega
        have g3 : ¬ 9223372036854775807 < Z.size + 2 + Y0.size + 2 + Y1.size := by omega
        obtain ⟨x0, x1, x2, x3, x4, x5, x6, x7, x8, x9⟩ := nd_cells HX2.out.a
        obtain ⟨k0_0, k0_1, k0_2, k0_3, k0_4, k0_5, k0_6, k0_7, k0_8, k0_9⟩ := HC0.out _ HX2.out.below
        obtain ⟨k1_0, k1_1, k1_2, k1_3, k1_4, k1_5, k1_6, k1_7, k1_8, k1_9⟩ := HC1.out _ HX2.out.below
        go_wp2_with fail
        have R_x0 := fun d os => cell_regrown x0 d os
        have R_x1 := fun d os => cell_regrown x1 d os
        have R_x2 := fun d os => cell_regrown x2 d os
        have R_x3 := fun d os => cell_regrown x3 d os
        have R_x4 := fun d os => cell_regrown x4 d os
        have R_x5 := fun d os => cell_regrown x5 d os
        have R_x6 := fun d os => cell_regrown x6 d os
        have R_x7 := fun d os => cell_regrown x7 d os
        have R_x8 := fun d os => cell_regrown x8 d os
        have R_x9 := fun d os => cell_regrown x9 d os
        have R_k0_0 := fun d os => cell_regrown k0_0 d os
        have R_k0_1 := fun d os => cell_regrown k0_1 d os
        have R_k0_2 := fun d os => cell_regrown k0_2 d os
        have R_k0_3 := fun d os => cell_regrown k0_3 d os
        have R_k0_4 := fun d os => cell_regrown k0_4 d os
        have R_k0_5 := fun d os => cell_regrown k0_5 d os
        have R_k0_6 := fun d os => cell_regrown k0_6 d os
        have R_k0_7 := fun d os => cell_regrown k0_7 d os
        have R_k0_8 := fun d os => cell_regrown k0_8 d os
        have R_k0_9 := fun d os => cell_regrown k0_9 d os
        have R_k1_0 := fun d os => cell_regrown k1_0 d os
        have R_k1_1 := fun d os => cell_regrown k1_1 d os
        have R_k1_2 := fun d os => cell_regrown k1_2 d os
        have R_k1_3 := fun d os => cell_regrown k1_3 d os
        have R_k1_4 := fun d os => cell_regrown k1_4 d os
        have R_k1_5 := fun d os => cell_regrown k1_5 d os
        have R_k1_6 := fun d os => cell_regrown k1_6 d os
        have R_k1_7 := fun d os => cell_regrown k1_7 d os
        have R_k1_8 := fun d os => cell_regrown k1_8 d os
        have R_k1_9 := fun d os => cell_regrown k1_9 d os
        have G0 := Hid.mk (fun (d : Nat) (os : Array Obj) => HK0.out (grow (redrawn wr d) os) (HX2.out.below.trans ((below_regrown wr d os).mono HX2.out.below.size)))
        have G1 := Hid.mk (fun (d : Nat) (os : Array Obj) => HK1.out (grow (redrawn wr d) os) (HX2.out.below.trans ((below_regrown wr d os).mono HX2.out.below.size)))
        refine wp_region_quiet_below (by kernel_rfl) (by kernel_rfl) ?_
        iterate 7 (go_big_quiet_step (exact Calls.regrown_of (G0.out _ _)))
        iterate 7 (go_big_quiet_step (exact Calls.regrown_of (G1.out _ _)))
        repeat (go_big_quiet_step (fail))
        refine wpQuiet_nil ?_
        intro w3 hw'
        have HX3 := Hid.mk (by obtain ⟨⟨dq, osq⟩, rfl⟩ := hw'; exact HX2.out.keep (below_regrown wr dq osq) : B1 w _ _ w3)
        clear hw' R_x0 R_x1 R_x2 R_x3 R_x4 R_x5 R_x6 R_x7 R_x8 R_x9 R_k0_0 R_k0_1 R_k0_2 R_k0_3 R_k0_4 R_k0_5 R_k0_6 R_k0_7 R_k0_8 R_k0_9 R_k1_0 R_k1_1 R_k1_2 R_k1_3 R_k1_4 R_k1_5 R_k1_6 R_k1_7 R_k1_8 R_k1_9 G0 G1
        clear x0 x1 x2 x3 x4 x5 x6 x7 x8 x9 k0_0 k0_1 k0_2 k0_3 k0_4 k0_5 k0_6 k0_7 k0_8 k0_9 k1_0 k1_1 k1_2 k1_3 k1_4 k1_5 k1_6 k1_7 k1_8 k1_9
        go_wp2_with fail
        go_ret
        exact ⟨congrArg (fun z => Ending.returned (.string z)) HE.out, HX3.out.below⟩
      · skip
        have HE : Hid (Z ++ ⟨#[41]⟩ ++ ⟨#[58, 32]⟩ ++ bs (t 0) ++ ⟨#[59, 32]⟩ ++ bs (t 1) = bs ([100, 101, 102, 32] ++ (atx.data.toList ++ (fl f k ++ ([41] ++ ([58, 32] ++ (t 0 ++ ([59, 32] ++ t 1)))))))) := by
          show Z ++ bs [41] ++ bs [58, 32] ++ bs (t 0) ++ bs [59, 32] ++ bs (t 1) = _
          rw [HZ.out]
          simp only [bs_app, List.append_assoc, List.nil_append]
        have hg : (0 : Int) < (k : Int) := by omega
        generalize bs (t 0) = Y0 at *
        generalize bs (t 1) = Y1 at *
        have g0 : ¬ 9223372036854775807 < Z.size + 1 := by omega
        have g1 : ¬ 9223372036854775807 < Z.size + 1 + 2 := by omega
        have g2 : ¬ 9223372036854775807 < Z.size + 1 + 2 + Y0.size := by omega
        have g3 : ¬ 9223372036854775807 < Z.size + 1 + 2 + Y0.size + 2 := by omega
        have g4 : ¬ 9223372036854775807 < Z.size + 1 + 2 + Y0.size + 2 + Y1.size := by omega
        obtain ⟨x0, x1, x2, x3, x4, x5, x6, x7, x8, x9⟩ := nd_cells HX2.out.a
        obtain ⟨k0_0, k0_1, k0_2, k0_3, k0_4, k0_5, k0_6, k0_7, k0_8, k0_9⟩ := HC0.out _ HX2.out.below
        obtain ⟨k1_0, k1_1, k1_2, k1_3, k1_4, k1_5, k1_6, k1_7, k1_8, k1_9⟩ := HC1.out _ HX2.out.below
        go_wp2_with fail
        have R_x0 := fun d os => cell_regrown x0 d os
        have R_x1 := fun d os => cell_regrown x1 d os
        have R_x2 := fun d os => cell_regrown x2 d os
        have R_x3 := fun d os => cell_regrown x3 d os
        have R_x4 := fun d os => cell_regrown x4 d os
        have R_x5 := fun d os => cell_regrown x5 d os
        have R_x6 := fun d os => cell_regrown x6 d os
        have R_x7 := fun d os => cell_regrown x7 d os
        have R_x8 := fun d os => cell_regrown x8 d os
        have R_x9 := fun d os => cell_regrown x9 d os
        have R_k0_0 := fun d os => cell_regrown k0_0 d os
        have R_k0_1 := fun d os => cell_regrown k0_1 d os
        have R_k0_2 := fun d os => cell_regrown k0_2 d os
        have R_k0_3 := fun d os => cell_regrown k0_3 d os
        have R_k0_4 := fun d os => cell_regrown k0_4 d os
        have R_k0_5 := fun d os => cell_regrown k0_5 d os
        have R_k0_6 := fun d os => cell_regrown k0_6 d os
        have R_k0_7 := fun d os => cell_regrown k0_7 d os
        have R_k0_8 := fun d os => cell_regrown k0_8 d os
        have R_k0_9 := fun d os => cell_regrown k0_9 d os
        have R_k1_0 := fun d os => cell_regrown k1_0 d os
        have R_k1_1 := fun d os => cell_regrown k1_1 d os
        have R_k1_2 := fun d os => cell_regrown k1_2 d os
        have R_k1_3 := fun d os => cell_regrown k1_3 d os
        have R_k1_4 := fun d os => cell_regrown k1_4 d os
        have R_k1_5 := fun d os => cell_regrown k1_5 d os
        have R_k1_6 := fun d os => cell_regrown k1_6 d os
        have R_k1_7 := fun d os => cell_regrown k1_7 d os
        have R_k1_8 := fun d os => cell_regrown k1_8 d os
        have R_k1_9 := fun d os => cell_regrown k1_9 d os
        have G0 := Hid.mk (fun (d : Nat) (os : Array Obj) => HK0.out (grow (redrawn wr d) os) (HX2.out.below.trans ((below_regrown wr d os).mono HX2.out.below.size)))
        have G1 := Hid.mk (fun (d : Nat) (os : Array Obj) => HK1.out (grow (redrawn wr d) os) (HX2.out.below.trans ((below_regrown wr d os).mono HX2.out.below.size)))
        refine wp_region_quiet_below (by kernel_rfl) (by kernel_rfl) ?_
        iterate 7 (go_big_quiet_step (exact Calls.regrown_of (G0.out _ _)))
        iterate 7 (go_big_quiet_step (exact Calls.regrown_of (G1.out _ _)))
        repeat (go_big_quiet_step (fail))
        refine wpQuiet_nil ?_
        intro w3 hw'
        have HX3 := Hid.mk (by obtain ⟨⟨dq, osq⟩, rfl⟩ := hw'; exact HX2.out.keep (below_regrown wr dq osq) : B1 w _ _ w3)
        clear hw' R_x0 R_x1 R_x2 R_x3 R_x4 R_x5 R_x6 R_x7 R_x8 R_x9 R_k0_0 R_k0_1 R_k0_2 R_k0_3 R_k0_4 R_k0_5 R_k0_6 R_k0_7 R_k0_8 R_k0_9 R_k1_0 R_k1_1 R_k1_2 R_k1_3 R_k1_4 R_k1_5 R_k1_6 R_k1_7 R_k1_8 R_k1_9 G0 G1
        clear x0 x1 x2 x3 x4 x5 x6 x7 x8 x9 k0_0 k0_1 k0_2 k0_3 k0_4 k0_5 k0_6 k0_7 k0_8 k0_9 k1_0 k1_1 k1_2 k1_3 k1_4 k1_5 k1_6 k1_7 k1_8 k1_9
        go_wp2_with fail
        go_ret
        exact ⟨congrArg (fun z => Ending.returned (.string z)) HE.out, HX3.out.below⟩
end Go.Proofs.YtcadknhedfnaoaaGreatDoor
namespace Go.Proofs.YtcadknhedfnaoaaGreatDoor
open Go.RowKit Go.Shelf Go.Sort
set_option linter.unusedVariables false
set_option linter.unusedSimpArgs false
attribute [local go_sem] Oper.semAt_some

set_option maxRecDepth 100000 in
set_option maxHeartbeats 3200000 in
theorem w_rpSelf (w : World) (aat avk : Int) (atx avn avx : ByteArray) (aio ayo ano ako : Option Addr) (avi aic avy ayc ann anc N kc : Nat)  : Calls Tryz.prog 13 #[.agg #[.int .i64 1, .int .i64 aat, .string atx, .int .i64 avk, .string avn, .string avx, .slice aio avi aic, .slice ayo avy ayc, .slice ano ann anc, .slice ako N kc]] w fun e w' => e = .returned (.string (bs ([46]))) ∧ Below w.heap.size w w' := by
  have HSg : Hid (∀ u, Calls Tryz.prog 31 #[.int .i64 1] u fun e w' => e = .returned (.tuple #[.string (bs (pRow 1).1), .int .i64 ((pRow 1).2.2.1 : Int), .int .i64 ((pRow 1).2.2.2 : Int)]) ∧ w' = u) := fun u => w_psign 1 u
  have HSg : Hid (∀ u, Calls Tryz.prog 31 #[.int .i64 1] u fun e w' => e = .returned (.tuple #[.string ⟨#[]⟩, .int .i64 0, .int .i64 0]) ∧ w' = u) := HSg.out
  obtain ⟨W1, hW1⟩ : ∃ W1, w.alloc (.cells #[.int .i64 1, .int .i64 aat, .string atx, .int .i64 avk, .string avn, .string avx, .slice aio avi aic, .slice ayo avy ayc, .slice ano ann anc, .slice ako N kc] 28) = W1 := ⟨_, rfl⟩
  have HX1 := Hid.mk (B1.new hW1)
  go_enter Tryz.func13, Tryz.ntmps13
  obtain ⟨x0, x1, x2, x3, x4, x5, x6, x7, x8, x9⟩ := nd_cells HX1.out.a
  go_wp2_with fail
  refine (HSg.out _).mono ?_
  rintro e wx ⟨rfl, hwx⟩
  obtain rfl := hwx.symm
  clear x0 x1 x2 x3 x4 x5 x6 x7 x8 x9
  obtain ⟨x0, x1, x2, x3, x4, x5, x6, x7, x8, x9⟩ := nd_cells HX1.out.a
  go_wp2_with fail
  go_ret
  exact ⟨rfl, HX1.out.below⟩

set_option maxRecDepth 100000 in
set_option maxHeartbeats 3200000 in
theorem w_rpConst (w : World) (aat avk : Int) (atx avn avx : ByteArray) (aio ayo ano ako : Option Addr) (avi aic avy ayc ann anc N kc : Nat) (X : List UInt8) (hc : ∀ u, Below w.heap.size w u → Calls Tryz.prog 33 #[.agg #[.int .i64 avk, .string avn, .string avx, .slice aio avi aic, .slice ayo avy ayc]] u fun e w' => e = .returned (.string (bs X)) ∧ Below u.heap.size u w') : Calls Tryz.prog 13 #[.agg #[.int .i64 2, .int .i64 aat, .string atx, .int .i64 avk, .string avn, .string avx, .slice aio avi aic, .slice ayo avy ayc, .slice ano ann anc, .slice ako N kc]] w fun e w' => e = .returned (.string (bs (X))) ∧ Below w.heap.size w w' := by
  have HSg : Hid (∀ u, Calls Tryz.prog 31 #[.int .i64 2] u fun e w' => e = .returned (.tuple #[.string (bs (pRow 2).1), .int .i64 ((pRow 2).2.2.1 : Int), .int .i64 ((pRow 2).2.2.2 : Int)]) ∧ w' = u) := fun u => w_psign 2 u
  have HSg : Hid (∀ u, Calls Tryz.prog 31 #[.int .i64 2] u fun e w' => e = .returned (.tuple #[.string ⟨#[]⟩, .int .i64 0, .int .i64 0]) ∧ w' = u) := HSg.out
  have HC := Hid.mk hc
  obtain ⟨W1, hW1⟩ : ∃ W1, w.alloc (.cells #[.int .i64 2, .int .i64 aat, .string atx, .int .i64 avk, .string avn, .string avx, .slice aio avi aic, .slice ayo avy ayc, .slice ano ann anc, .slice ako N kc] 28) = W1 := ⟨_, rfl⟩
  have HX1 := Hid.mk (B1.new hW1)
  clear hc
  generalize bs X = Y at *
  go_enter Tryz.func13, Tryz.ntmps13
  obtain ⟨x0, x1, x2, x3, x4, x5, x6, x7, x8, x9⟩ := nd_cells HX1.out.a
  go_wp2_with fail
  refine (HSg.out _).mono ?_
  rintro e wx ⟨rfl, hwx⟩
  obtain rfl := hwx.symm
  clear x0 x1 x2 x3 x4 x5 x6 x7 x8 x9
  obtain ⟨x0, x1, x2, x3, x4, x5, x6, x7, x8, x9⟩ := nd_cells HX1.out.a
  go_wp2_with fail
  refine (HC.out _ HX1.out.below).mono ?_
  rintro e w2 ⟨rfl, hb⟩
  have HX2 := Hid.mk (HX1.out.keep hb)
  clear hb hW1
  clear x0 x1 x2 x3 x4 x5 x6 x7 x8 x9
  go_wp2_with fail
  go_ret
  exact ⟨rfl, HX2.out.below⟩

set_option maxRecDepth 100000 in
set_option maxHeartbeats 3200000 in
theorem w_rpJoin (w : World) (aat avk : Int) (atx avn avx : ByteArray) (aio ayo ano ako : Option Addr) (avi aic avy ayc ann anc N kc : Nat) (X : List UInt8) (hc : ∀ u, Below w.heap.size w u → Calls Tryz.prog 34 #[.agg #[.int .i64 3, .int .i64 aat, .string atx, .int .i64 avk, .string avn, .string avx, .slice aio avi aic, .slice ayo avy ayc, .slice ano ann anc, .slice ako N kc]] u fun e w' => e = .returned (.string (bs X)) ∧ Below u.heap.size u w') : Calls Tryz.prog 13 #[.agg #[.int .i64 3, .int .i64 aat, .string atx, .int .i64 avk, .string avn, .string avx, .slice aio avi aic, .slice ayo avy ayc, .slice ano ann anc, .slice ako N kc]] w fun e w' => e = .returned (.string (bs (X))) ∧ Below w.heap.size w w' := by
  have HSg : Hid (∀ u, Calls Tryz.prog 31 #[.int .i64 3] u fun e w' => e = .returned (.tuple #[.string (bs (pRow 3).1), .int .i64 ((pRow 3).2.2.1 : Int), .int .i64 ((pRow 3).2.2.2 : Int)]) ∧ w' = u) := fun u => w_psign 3 u
  have HSg : Hid (∀ u, Calls Tryz.prog 31 #[.int .i64 3] u fun e w' => e = .returned (.tuple #[.string ⟨#[]⟩, .int .i64 0, .int .i64 0]) ∧ w' = u) := HSg.out
  have HC := Hid.mk hc
  obtain ⟨W1, hW1⟩ : ∃ W1, w.alloc (.cells #[.int .i64 3, .int .i64 aat, .string atx, .int .i64 avk, .string avn, .string avx, .slice aio avi aic, .slice ayo avy ayc, .slice ano ann anc, .slice ako N kc] 28) = W1 := ⟨_, rfl⟩
  have HX1 := Hid.mk (B1.new hW1)
  clear hc
  generalize bs X = Y at *
  go_enter Tryz.func13, Tryz.ntmps13
  obtain ⟨x0, x1, x2, x3, x4, x5, x6, x7, x8, x9⟩ := nd_cells HX1.out.a
  go_wp2_with fail
  refine (HSg.out _).mono ?_
  rintro e wx ⟨rfl, hwx⟩
  obtain rfl := hwx.symm
  clear x0 x1 x2 x3 x4 x5 x6 x7 x8 x9
  obtain ⟨x0, x1, x2, x3, x4, x5, x6, x7, x8, x9⟩ := nd_cells HX1.out.a
  go_wp2_with fail
  refine (HC.out _ HX1.out.below).mono ?_
  rintro e w2 ⟨rfl, hb⟩
  have HX2 := Hid.mk (HX1.out.keep hb)
  clear hb hW1
  clear x0 x1 x2 x3 x4 x5 x6 x7 x8 x9
  go_wp2_with fail
  go_ret
  exact ⟨rfl, HX2.out.below⟩

set_option maxRecDepth 100000 in
set_option maxHeartbeats 3200000 in
theorem w_rpList (w : World) (aat avk : Int) (atx avn avx : ByteArray) (aio ayo ano ako : Option Addr) (avi aic avy ayc ann anc N kc : Nat) (t : Nat → List UInt8) (hr : RwK w ako N kc (pRw t N)) (hl : (sList t N).length ≤ 140737488355328) : Calls Tryz.prog 13 #[.agg #[.int .i64 4, .int .i64 aat, .string atx, .int .i64 avk, .string avn, .string avx, .slice aio avi aic, .slice ayo avy ayc, .slice ano ann anc, .slice ako N kc]] w fun e w' => e = .returned (.string (bs (sList t N))) ∧ Below w.heap.size w w' := by
  have HSg : Hid (∀ u, Calls Tryz.prog 31 #[.int .i64 4] u fun e w' => e = .returned (.tuple #[.string (bs (pRow 4).1), .int .i64 ((pRow 4).2.2.1 : Int), .int .i64 ((pRow 4).2.2.2 : Int)]) ∧ w' = u) := fun u => w_psign 4 u
  have HSg : Hid (∀ u, Calls Tryz.prog 31 #[.int .i64 4] u fun e w' => e = .returned (.tuple #[.string ⟨#[]⟩, .int .i64 0, .int .i64 0]) ∧ w' = u) := HSg.out
  have HR := Hid.mk hr
  obtain ⟨W1, hW1⟩ : ∃ W1, w.alloc (.cells #[.int .i64 4, .int .i64 aat, .string atx, .int .i64 avk, .string avn, .string avx, .slice aio avi aic, .slice ayo avy ayc, .slice ano ann anc, .slice ako N kc] 28) = W1 := ⟨_, rfl⟩
  have HX1 := Hid.mk (B1.new hW1)
  unfold RwK at HR
  have s_A : (bs (pRw t N)).size ≤ 140737488355328 := by rw [bs_size]; have := hl; simp [sList] at this; omega
  have HE : Hid ((⟨#[91]⟩ : ByteArray) ++ bs (pRw t N) ++ ⟨#[93]⟩ = bs (sList t N)) := by
    show bs [91] ++ bs (pRw t N) ++ bs [93] = _
    simp only [bs_app]
    exact congrArg bs (by simp [sList])
  clear hr hl
  generalize bs (pRw t N) = Y0 at *
  have f0 : ¬ 9223372036854775807 < 1 + Y0.size := by omega
  have f1 : ¬ 9223372036854775807 < 1 + Y0.size + 1 := by omega
  go_enter Tryz.func13, Tryz.ntmps13
  obtain ⟨x0, x1, x2, x3, x4, x5, x6, x7, x8, x9⟩ := nd_cells HX1.out.a
  go_wp2_with fail
  refine (HSg.out _).mono ?_
  rintro e wx ⟨rfl, hwx⟩
  obtain rfl := hwx.symm
  clear x0 x1 x2 x3 x4 x5 x6 x7 x8 x9
  obtain ⟨x0, x1, x2, x3, x4, x5, x6, x7, x8, x9⟩ := nd_cells HX1.out.a
  go_wp2_with fail
  refine (HR.out _ HX1.out.below).mono ?_
  rintro e w2 ⟨rfl, hb⟩
  have HX2 := Hid.mk (HX1.out.keep hb)
  clear hb hW1
  clear x0 x1 x2 x3 x4 x5 x6 x7 x8 x9
  go_wp2_with fail
  go_ret
  exact ⟨congrArg (fun z => Ending.returned (.string z)) HE.out, HX2.out.below⟩

set_option maxRecDepth 100000 in
set_option maxHeartbeats 3200000 in
theorem w_rpRecord (w : World) (aat avk : Int) (atx avn avx : ByteArray) (aio ayo ano ako : Option Addr) (avi aic avy ayc ann anc N kc : Nat) (X : List UInt8) (hc : ∀ u, Below w.heap.size w u → Calls Tryz.prog 36 #[.agg #[.int .i64 5, .int .i64 aat, .string atx, .int .i64 avk, .string avn, .string avx, .slice aio avi aic, .slice ayo avy ayc, .slice ano ann anc, .slice ako N kc]] u fun e w' => e = .returned (.string (bs X)) ∧ Below u.heap.size u w') : Calls Tryz.prog 13 #[.agg #[.int .i64 5, .int .i64 aat, .string atx, .int .i64 avk, .string avn, .string avx, .slice aio avi aic, .slice ayo avy ayc, .slice ano ann anc, .slice ako N kc]] w fun e w' => e = .returned (.string (bs (X))) ∧ Below w.heap.size w w' := by
  have HSg : Hid (∀ u, Calls Tryz.prog 31 #[.int .i64 5] u fun e w' => e = .returned (.tuple #[.string (bs (pRow 5).1), .int .i64 ((pRow 5).2.2.1 : Int), .int .i64 ((pRow 5).2.2.2 : Int)]) ∧ w' = u) := fun u => w_psign 5 u
  have HSg : Hid (∀ u, Calls Tryz.prog 31 #[.int .i64 5] u fun e w' => e = .returned (.tuple #[.string ⟨#[]⟩, .int .i64 0, .int .i64 0]) ∧ w' = u) := HSg.out
  have HC := Hid.mk hc
  obtain ⟨W1, hW1⟩ : ∃ W1, w.alloc (.cells #[.int .i64 5, .int .i64 aat, .string atx, .int .i64 avk, .string avn, .string avx, .slice aio avi aic, .slice ayo avy ayc, .slice ano ann anc, .slice ako N kc] 28) = W1 := ⟨_, rfl⟩
  have HX1 := Hid.mk (B1.new hW1)
  clear hc
  generalize bs X = Y at *
  go_enter Tryz.func13, Tryz.ntmps13
  obtain ⟨x0, x1, x2, x3, x4, x5, x6, x7, x8, x9⟩ := nd_cells HX1.out.a
  go_wp2_with fail
  refine (HSg.out _).mono ?_
  rintro e wx ⟨rfl, hwx⟩
  obtain rfl := hwx.symm
  clear x0 x1 x2 x3 x4 x5 x6 x7 x8 x9
  obtain ⟨x0, x1, x2, x3, x4, x5, x6, x7, x8, x9⟩ := nd_cells HX1.out.a
  go_wp2_with fail
  refine (HC.out _ HX1.out.below).mono ?_
  rintro e w2 ⟨rfl, hb⟩
  have HX2 := Hid.mk (HX1.out.keep hb)
  clear hb hW1
  clear x0 x1 x2 x3 x4 x5 x6 x7 x8 x9
  go_wp2_with fail
  go_ret
  exact ⟨rfl, HX2.out.below⟩

set_option maxRecDepth 100000 in
set_option maxHeartbeats 3200000 in
theorem w_rpVar6 (w : World) (aat avk : Int) (atx avn avx : ByteArray) (aio ayo ano ako : Option Addr) (avi aic avy ayc ann anc N kc : Nat) (htx : atx.size ≤ 140737488355328) : Calls Tryz.prog 13 #[.agg #[.int .i64 6, .int .i64 aat, .string atx, .int .i64 avk, .string avn, .string avx, .slice aio avi aic, .slice ayo avy ayc, .slice ano ann anc, .slice ako N kc]] w fun e w' => e = .returned (.string (bs (sVar 6 atx))) ∧ Below w.heap.size w w' := by
  have HSg : Hid (∀ u, Calls Tryz.prog 31 #[.int .i64 6] u fun e w' => e = .returned (.tuple #[.string (bs (pRow 6).1), .int .i64 ((pRow 6).2.2.1 : Int), .int .i64 ((pRow 6).2.2.2 : Int)]) ∧ w' = u) := fun u => w_psign 6 u
  have HSg : Hid (∀ u, Calls Tryz.prog 31 #[.int .i64 6] u fun e w' => e = .returned (.tuple #[.string ⟨#[]⟩, .int .i64 0, .int .i64 0]) ∧ w' = u) := HSg.out
  obtain ⟨W1, hW1⟩ : ∃ W1, w.alloc (.cells #[.int .i64 6, .int .i64 aat, .string atx, .int .i64 avk, .string avn, .string avx, .slice aio avi aic, .slice ayo avy ayc, .slice ano ann anc, .slice ako N kc] 28) = W1 := ⟨_, rfl⟩
  have HX1 := Hid.mk (B1.new hW1)
  have HE : Hid ((⟨#[36]⟩ : ByteArray) ++ atx = bs (sVar 6 atx)) := by
    show bs [36] ++ bs atx.data.toList = _
    rw [bs_app]
    rfl
  have f0 : ¬ 9223372036854775807 < 1 + atx.size := by omega
  go_enter Tryz.func13, Tryz.ntmps13
  obtain ⟨x0, x1, x2, x3, x4, x5, x6, x7, x8, x9⟩ := nd_cells HX1.out.a
  go_wp2_with fail
  refine (HSg.out _).mono ?_
  rintro e wx ⟨rfl, hwx⟩
  obtain rfl := hwx.symm
  clear x0 x1 x2 x3 x4 x5 x6 x7 x8 x9
  obtain ⟨x0, x1, x2, x3, x4, x5, x6, x7, x8, x9⟩ := nd_cells HX1.out.a
  go_wp2_with fail
  go_ret
  exact ⟨congrArg (fun z => Ending.returned (.string z)) HE.out, HX1.out.below⟩

set_option maxRecDepth 100000 in
set_option maxHeartbeats 3200000 in
theorem w_rpVar35 (w : World) (aat avk : Int) (atx avn avx : ByteArray) (aio ayo ano ako : Option Addr) (avi aic avy ayc ann anc N kc : Nat) (htx : atx.size ≤ 140737488355328) : Calls Tryz.prog 13 #[.agg #[.int .i64 35, .int .i64 aat, .string atx, .int .i64 avk, .string avn, .string avx, .slice aio avi aic, .slice ayo avy ayc, .slice ano ann anc, .slice ako N kc]] w fun e w' => e = .returned (.string (bs (sVar 35 atx))) ∧ Below w.heap.size w w' := by
  have HSg : Hid (∀ u, Calls Tryz.prog 31 #[.int .i64 35] u fun e w' => e = .returned (.tuple #[.string (bs (pRow 35).1), .int .i64 ((pRow 35).2.2.1 : Int), .int .i64 ((pRow 35).2.2.2 : Int)]) ∧ w' = u) := fun u => w_psign 35 u
  have HSg : Hid (∀ u, Calls Tryz.prog 31 #[.int .i64 35] u fun e w' => e = .returned (.tuple #[.string ⟨#[]⟩, .int .i64 0, .int .i64 0]) ∧ w' = u) := HSg.out
  obtain ⟨W1, hW1⟩ : ∃ W1, w.alloc (.cells #[.int .i64 35, .int .i64 aat, .string atx, .int .i64 avk, .string avn, .string avx, .slice aio avi aic, .slice ayo avy ayc, .slice ano ann anc, .slice ako N kc] 28) = W1 := ⟨_, rfl⟩
  have HX1 := Hid.mk (B1.new hW1)
  have HE : Hid ((⟨#[98, 114, 101, 97, 107, 32, 36]⟩ : ByteArray) ++ atx = bs (sVar 35 atx)) := by
    show bs [98, 114, 101, 97, 107, 32, 36] ++ bs atx.data.toList = _
    rw [bs_app]
    rfl
  have f0 : ¬ 9223372036854775807 < 7 + atx.size := by omega
  go_enter Tryz.func13, Tryz.ntmps13
  obtain ⟨x0, x1, x2, x3, x4, x5, x6, x7, x8, x9⟩ := nd_cells HX1.out.a
  go_wp2_with fail
  refine (HSg.out _).mono ?_
  rintro e wx ⟨rfl, hwx⟩
  obtain rfl := hwx.symm
  clear x0 x1 x2 x3 x4 x5 x6 x7 x8 x9
  obtain ⟨x0, x1, x2, x3, x4, x5, x6, x7, x8, x9⟩ := nd_cells HX1.out.a
  go_wp2_with fail
  go_ret
  exact ⟨congrArg (fun z => Ending.returned (.string z)) HE.out, HX1.out.below⟩
end Go.Proofs.YtcadknhedfnaoaaGreatDoor
