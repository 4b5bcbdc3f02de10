import Derived.Test.YtdmkfdaddacdhaaGreatDoorM27
import Derived.Recover
namespace Go.Proofs.YtdmkfdaddacdhaaGreatDoor
open Go.RowKit Go.Shelf
set_option linter.unusedVariables false
set_option linter.unusedSimpArgs false
attribute [local go_sem] Oper.semAt_some

/-- what works() asks of the first filter -/
def Kd (d : ND) (w : World) : Prop := d.op = 12 ∧ d.at_ = 2 ∧ d.kN = 2 ∧ 2 ≤ d.kc ∧ ∃ g', d.ko = some ⟨g', 0, none⟩ ∧ w.cell? ⟨g', 10, none⟩ = some (.int .i64 1)
/-- .. it stays so where small boxes are written -/
theorem Kd.keep {d : ND} {w w' : World} (h : Kd d w) (hk : ∀ k, w'.heap[k]? = w.heap[k]? ∨ w.cell? ⟨k, 10, none⟩ = none) : Kd d w' := by
  obtain ⟨h1, h2, h3, h4, g', h5, h6⟩ := h
  refine ⟨h1, h2, h3, h4, g', h5, ?_⟩
  rcases hk g' with h | h
  · exact (World.cell?_of_block (a := ⟨g', 10, none⟩) h).trans h6
  · rw [h] at h6; cases h6
theorem Kd.put {d : ND} {w w' : World} {B : Nat} {o : Obj} {cs : Array Value} {t : TypeId} (h : Kd d w) (hp : Put B o w w') (hb : w.heap[B]? = some (.cells cs t (0, 0))) (hc : cs.size ≤ 10) : Kd d w' :=
  h.keep fun k => by
    by_cases e : k = B
    · refine .inr ?_
      rw [e, cell_of_row _ _ _ _ _ _ hb]
      exact Array.getElem?_eq_none hc
    · exact .inl (hp.rest k e)
theorem Kd.low {d : ND} {w w' : World} (h : Kd d w) (hb : Below w.heap.size w w') : Kd d w' :=
  h.keep fun k => by
    by_cases e : k < w.heap.size
    · exact .inl (hb.block k e)
    · refine .inr ?_
      simp only [World.cell?]
      rw [Array.getElem?_eq_none (by show w.heap.size ≤ k; omega)]

set_option maxRecDepth 100000 in
set_option maxHeartbeats 3200000 in
theorem w_whole1 {B : Nat} {so : Option Addr} {sc : Nat} {ws : List Tok} {nb t o : Nat} {t1 o1 : Nat} (w : World) (hP : PAt w B so sc ws nb t o) (hO : OpsIn w) (ht : t1 = ws.length)
    (HL : Hid (∀ u, PAt u B so sc ws nb t o → OpsIn u → Calls Tryz.prog 96 #[.pointer (some ⟨B, 0, none⟩)] u fun e w' => ∃ d, e = .returned d.v ∧ Bt B u w' ∧ PAt w' B so sc ws nb t1 o1 ∧ Kd d w')) :
    Calls Tryz.prog 55 #[.pointer (some ⟨B, 0, none⟩)] w fun e w' => ∃ d, e = .returned d.v ∧ Bt B w w' ∧ PAt w' B so sc ws nb t1 o1 ∧ Kd d w' := by
  have hB := hP.lt
  have HP := Hid.mk hP
  have HS0 := Hid.mk (St.new hP)
  have HO0 : Hid (OpsIn (w.alloc (.cells #[.int .i64 0, .int .i64 0, .string ⟨#[]⟩, .int .i64 0, .string ⟨#[]⟩, .string ⟨#[]⟩, .slice none 0 0, .slice none 0 0, .slice none 0 0, .slice none 0 0] 28))) := hO.keep (below1 w _)
  have hlt : decide ((t1 : Int) < (ws.length : Int)) = false := by rw [decide_eq_false_iff_not]; omega
  have hlt2 : decide (t1 < ws.length) = false := by rw [decide_eq_false_iff_not]; omega
  have HT := Hid.mk ht
  clear hP hO ht
  go_enter Tryz.func55, Tryz.ntmps55
  go_wp2_with fail
  refine (HL.out _ HS0.out.pat HO0.out).mono ?_
  rintro e w1 ⟨d, rfl, hb1, hp1, hk1⟩
  have HS1 := Hid.mk (HS0.out.step hB hb1 hp1)
  have HK1 := Hid.mk hk1
  clear hb1 hp1 hk1
  obtain ⟨op, at_, vk, tx, nu, vt, io, yo, no, ko, iN, ic, yN, yc, nN, nc, kN, kc⟩ := d
  unfold ND.v
  dsimp only
  have q0 : (∀ x, (w1.alloc x).cell? ⟨B, 0, none⟩ = some (.slice so ws.length sc)) ∧ (∀ x, (w1.alloc x).cell? ⟨B, 1, none⟩ = some (.int .i64 (t1 : Int))) := ⟨fun x => (tbox_cells (HS1.out.pat.alloc x).box).1, fun x => (tbox_cells (HS1.out.pat.alloc x).box).2.1⟩
  obtain ⟨q0, q1⟩ := q0
  generalize hN : ws.length = N at q0 hlt hlt2
  have HN := Hid.mk hN
  clear hN
  go_wp2_with fail
  go_region
  all_goals
    obtain ⟨W5, hW5⟩ : ∃ W5, w1.alloc (.cells #[.int .i64 op, .int .i64 at_, .string tx, .int .i64 vk, .string nu, .string vt, .slice io iN ic, .slice yo yN yc, .slice no nN nc, .slice ko kN kc] 28) = W5 := ⟨_, rfl⟩
    have HS5 : Hid (St3 w B so sc ws nb t1 o1 w1.heap.size #[.int .i64 op, .int .i64 at_, .string tx, .int .i64 vk, .string nu, .string vt, .slice io iN ic, .slice yo yN yc, .slice no nN nc, .slice ko kN kc] W5.drew) := by rw [← hW5]; exact (St3.new HS1.out _).keep (Below.refl _ _).drew
    have HK5 : Hid (Kd ⟨op, at_, vk, tx, nu, vt, io, yo, no, ko, iN, ic, yN, yc, nN, nc, kN, kc⟩ W5.drew) := by rw [← hW5]; exact HK1.out.low (below1 w1 _).drew
    obtain ⟨b0, b1, b2, b3, b4, b5, b6, b7, b8, b9⟩ := nd_cells HS5.out.box
    obtain ⟨n0, n1, n2, n3, n4, n5, n6, n7, n8, n9⟩ := nd_cells HS5.out.st.res
    obtain ⟨f0, f1, f2, f3, f4, f5, f6, f7, f8, f9⟩ := nd_frozen HS5.out.st.res
    rw [hW5]
    clear hW5
    generalize W5.drew = W6 at *
    go_wp2_with fail
    generalize hzZ : (((((((((W6.setCell ⟨w.heap.size, 0, none⟩ (.int .i64 op)).setCell ⟨w.heap.size, 1, none⟩ (.int .i64 at_)).setCell ⟨w.heap.size, 2, none⟩ (.string tx)).setCell ⟨w.heap.size, 3, none⟩ (.int .i64 vk)).setCell ⟨w.heap.size, 4, none⟩ (.string nu)).setCell ⟨w.heap.size, 5, none⟩ (.string vt)).setCell ⟨w.heap.size, 6, none⟩ (.slice io iN ic)).setCell ⟨w.heap.size, 7, none⟩ (.slice yo yN yc)).setCell ⟨w.heap.size, 8, none⟩ (.slice no nN nc)).setCell ⟨w.heap.size, 9, none⟩ (.slice ko kN kc) = WZ
    have PZ := nd_set HS5.out.st.res hzZ
    obtain ⟨m0, m1, m2, m3, m4, m5, m6, m7, m8, m9⟩ := nd_cells PZ.new
    refine bodyPost_ret (v := .agg #[.int .i64 op, .int .i64 at_, .string tx, .int .i64 vk, .string nu, .string vt, .slice io iN ic, .slice yo yN yc, .slice no nN nc, .slice ko kN kc]) (by simp [results, Tryz.results55, go_sem, m0, m1, m2, m3, m4, m5, m6, m7, m8, m9]) rfl ?_
    obtain ⟨hbt, hpt⟩ := HS5.out.st.put HP.out PZ
    exact ⟨⟨op, at_, vk, tx, nu, vt, io, yo, no, ko, iN, ic, yN, yc, nN, nc, kN, kc⟩, rfl, hbt, hpt, HK5.out.put PZ HS5.out.st.res (by simp)⟩

set_option maxRecDepth 100000 in
set_option maxHeartbeats 3200000 in
theorem w_whole0 {B : Nat} {so : Option Addr} {sc : Nat} {ws : List Tok} {nb t o : Nat} {t1 o1 : Nat} (d : ND) (w : World) (hP : PAt w B so sc ws nb t o) (hO : OpsIn w) (ht : t1 < ws.length)
    (HL : Hid (∀ u, PAt u B so sc ws nb t o → OpsIn u → Calls Tryz.prog 96 #[.pointer (some ⟨B, 0, none⟩)] u fun e w' => NdR B so sc ws nb u t1 o1 d e w')) :
    Calls Tryz.prog 55 #[.pointer (some ⟨B, 0, none⟩)] w fun e w' => e = .panicked (fcs (ftE ws t1) (ftQ ws nb t1)) ∧ Bt B w w' := by
  have hB := hP.lt
  have HP := Hid.mk hP
  have HS0 := Hid.mk (St.new hP)
  have HO0 : Hid (OpsIn (w.alloc (.cells #[.int .i64 0, .int .i64 0, .string ⟨#[]⟩, .int .i64 0, .string ⟨#[]⟩, .string ⟨#[]⟩, .slice none 0 0, .slice none 0 0, .slice none 0 0, .slice none 0 0] 28))) := hO.keep (below1 w _)
  have hlt : decide ((t1 : Int) < (ws.length : Int)) = true := by rw [decide_eq_true_iff]; omega
  have hlt2 : decide (t1 < ws.length) = true := by rw [decide_eq_true_iff]; omega
  have HFa : Hid (∀ u, PAt u B so sc ws nb t1 o1 → Calls Tryz.prog 97 #[.pointer (some ⟨B, 0, none⟩)] u fun e w' => e = .returned (.agg #[.int .i64 (ftE ws t1 : Int), .int .i64 (ftQ ws nb t1 : Int)]) ∧ Below u.heap.size u w') := fun u hu => w_faultS u hu
  clear hP hO
  unfold NdR at HL
  unfold fcs
  generalize ftE ws t1 = er at *
  generalize ftQ ws nb t1 = q at *
  obtain ⟨op, at_, vk, tx, nu, vt, io, yo, no, ko, iN, ic, yN, yc, nN, nc, kN, kc⟩ := d
  unfold ND.v at *
  dsimp only at *
  go_enter Tryz.func55, Tryz.ntmps55
  go_wp2_with fail
  refine (HL.out _ HS0.out.pat HO0.out).mono ?_
  rintro e w1 ⟨rfl, hb1, hp1⟩
  have HS1 := Hid.mk (HS0.out.step hB hb1 hp1)
  clear hb1 hp1
  have q0 : (∀ x, (w1.alloc x).cell? ⟨B, 0, none⟩ = some (.slice so ws.length sc)) ∧ (∀ x, (w1.alloc x).cell? ⟨B, 1, none⟩ = some (.int .i64 (t1 : Int))) := ⟨fun x => (tbox_cells (HS1.out.pat.alloc x).box).1, fun x => (tbox_cells (HS1.out.pat.alloc x).box).2.1⟩
  obtain ⟨q0, q1⟩ := q0
  have HT := Hid.mk ht
  clear ht
  generalize hN : ws.length = N at q0 hlt hlt2
  have HN := Hid.mk hN
  clear hN
  go_wp2_with fail
  go_region
  all_goals
    obtain ⟨W5, hW5⟩ : ∃ W5, w1.alloc (.cells #[.int .i64 op, .int .i64 at_, .string tx, .int .i64 vk, .string nu, .string vt, .slice io iN ic, .slice yo yN yc, .slice no nN nc, .slice ko kN kc] 28) = W5 := ⟨_, rfl⟩
    have HS5 : Hid (St w B so sc ws nb t1 o1 W5.drew) := by rw [← hW5]; exact (HS1.out.alloc _).keep (Below.refl _ _).drew
    rw [hW5]
    clear hW5
    generalize W5.drew = W6 at *
    go_wp2_with fail
    refine (HFa.out _ HS5.out.pat).mono ?_
    rintro e w7 ⟨rfl, hb7⟩
    have HS7 := Hid.mk (HS5.out.keep hb7)
    clear hb7
    go_wp2_with fail
    exact ⟨rfl, rfl, HS7.out.bt⟩

theorem Tryz.assertFltS (tt : TypeId) (v : Value) (w : World) : (Instr.typeAssert (.iface 49 v) tt 49 false).run Tryz.prog w = .ok v w := by
  kernel_rfl

set_option maxRecDepth 100000 in
theorem catch_panS (F : Nat) (er q : Nat) (y0 y1 : Value) (w : World) (hF : w.heap[F]? = some (.cells #[y0, y1] 49 (0, 0))) :
    CallsD Tryz.prog 54 #[.pointer (some ⟨F, 0, none⟩)] (.panicking (fcs er q)) w fun e u' w' =>
      e = .returned (.tuple #[]) ∧ u' = .panicking [{ v := .iface 49 (.agg #[.int .i64 (er : Int), .int .i64 (q : Int)]), recovered := true }] ∧ w' = (w.setCell ⟨F, 0, none⟩ (.int .i64 (er : Int))).setCell ⟨F, 1, none⟩ (.int .i64 (q : Int)) := by
  have c0 : w.cell? ⟨F, 0, none⟩ = some y0 := by rw [cell_of_row _ _ _ _ _ _ hF]; rfl
  have c1 : w.cell? ⟨F, 1, none⟩ = some y1 := by rw [cell_of_row _ _ _ _ _ _ hF]; rfl
  have f0 : w.frozen? ⟨F, 0, none⟩ = false := frozen_rowT hF
  have f1 : w.frozen? ⟨F, 1, none⟩ = false := frozen_rowT hF
  refine callsD_of_wpS Tryz.func54 rfl fun c₀ cs hu => ?_
  unfold fcs at hu
  apply wpS_seq
  apply wpS_region
  simp [wpOpsS, go_sem, recoverD, hu, Tryz.ntmps54, Exit.thenS, Array.replicate_succ]
  refine wpS_of_wp ?_
  have hta := Tryz.assertFltS
  go_wp2_with fail
  simp [bodyPostS, results, Tryz.results54]

set_option maxRecDepth 100000 in
theorem catch_idlS (F : Nat) (w : World) :
    CallsD Tryz.prog 54 #[.pointer (some ⟨F, 0, none⟩)] .returning w fun e u' w' => e = .returned (.tuple #[]) ∧ u' = .returning ∧ w' = w := by
  refine callsD_of_wpS Tryz.func54 rfl fun c₀ cs hu => ?_
  apply wpS_seq
  apply wpS_region
  simp [wpOpsS, go_sem, recoverD, hu, Tryz.ntmps54, Exit.thenS, Array.replicate_succ]
  refine wpS_of_wp ?_
  go_wp2_with fail
  cases c₀
  simp_all [bodyPostS, results, Tryz.results54]

end Go.Proofs.YtdmkfdaddacdhaaGreatDoor
namespace Go.Proofs.YtdmkfdaddacdhaaGreatDoor
open Go.RowKit Go.Shelf
set_option linter.unusedVariables false
set_option linter.unusedSimpArgs false
attribute [local go_sem] Oper.semAt_some

/-- caught's boxes: the parser, the answer, the fault -/
structure Cg (w : World) (so : Option Addr) (sc : Nat) (ws : List Tok) (nb : Nat) (W : World) : Prop where
  below : Below w.heap.size w W
  size : W.heap.size = w.heap.size + 3
  pat : PAt W w.heap.size so sc ws nb 0 0
  res : W.heap[w.heap.size + 1]? = some (.cells #[.int .i64 0, .int .i64 0, .string ⟨#[]⟩, .int .i64 0, .string ⟨#[]⟩, .string ⟨#[]⟩, .slice none 0 0, .slice none 0 0, .slice none 0 0, .slice none 0 0] 28 (0, 0))
  flt : W.heap[w.heap.size + 2]? = some (.cells #[.int .i64 0, .int .i64 0] 49 (0, 0))
theorem cg_new {w : World} {so : Option Addr} {sc : Nat} {ws : List Tok} {nb : Nat} (hr : TRow w so ws) (hc : ws.length ≤ sc) (hf : ws.length ≤ 16777216) (ha : ∀ g off, so = some ⟨g, off, none⟩ → g < w.heap.size) {W : World}
    (hW : ((w.alloc (.cells #[.slice so ws.length sc, .int .i64 0, .int .i64 (nb : Int), .int .i64 0] 55)).alloc (.cells #[.int .i64 0, .int .i64 0, .string ⟨#[]⟩, .int .i64 0, .string ⟨#[]⟩, .string ⟨#[]⟩, .slice none 0 0, .slice none 0 0, .slice none 0 0, .slice none 0 0] 28)).alloc (.cells #[.int .i64 0, .int .i64 0] 49) = W) : Cg w so sc ws nb W := by
  have hb : Below w.heap.size w W := by rw [← hW]; exact (((below1 w _).alloc (by simp) _).alloc (by simp; omega) _)
  have e1 := heap_alloc_new w (.cells #[.slice so ws.length sc, .int .i64 0, .int .i64 (nb : Int), .int .i64 0] 55)
  have e2 := heap_alloc_new (w.alloc (.cells #[.slice so ws.length sc, .int .i64 0, .int .i64 (nb : Int), .int .i64 0] 55)) (.cells #[.int .i64 0, .int .i64 0, .string ⟨#[]⟩, .int .i64 0, .string ⟨#[]⟩, .string ⟨#[]⟩, .slice none 0 0, .slice none 0 0, .slice none 0 0, .slice none 0 0] 28)
  have e3 := heap_alloc_new ((w.alloc (.cells #[.slice so ws.length sc, .int .i64 0, .int .i64 (nb : Int), .int .i64 0] 55)).alloc (.cells #[.int .i64 0, .int .i64 0, .string ⟨#[]⟩, .int .i64 0, .string ⟨#[]⟩, .string ⟨#[]⟩, .slice none 0 0, .slice none 0 0, .slice none 0 0, .slice none 0 0] 28)) (.cells #[.int .i64 0, .int .i64 0] 49)
  rw [World.size_alloc] at e2
  rw [World.size_alloc, World.size_alloc] at e3
  refine ⟨hb, by rw [← hW]; simp, ⟨?_, hr.bt (B := w.heap.size) (fun g off e => by have := ha g off e; omega) (Bt.of hb), hc, fun g off e => by have := ha g off e; omega, hf, Nat.zero_le _, Nat.zero_le _⟩, ?_, ?_⟩
  · rw [← hW]
    exact (Below.heap_alloc _ _ _ (by simp; omega)).trans ((Below.heap_alloc _ _ _ (by simp)).trans e1)
  · rw [← hW]
    exact (Below.heap_alloc _ _ _ (by simp)).trans e2
  · rw [← hW]
    exact e3

set_option maxRecDepth 100000 in
set_option maxHeartbeats 3200000 in
theorem w_caught0 {so : Option Addr} {sc : Nat} {ws : List Tok} {nb : Nat} (er q : Nat) (w : World) (hr : TRow w so ws) (hc : ws.length ≤ sc) (hf : ws.length ≤ 16777216) (ha : ∀ g off, so = some ⟨g, off, none⟩ → g < w.heap.size) (hO : OpsIn w)
    (HRd : Hid (∀ u, PAt u w.heap.size so sc ws nb 0 0 → OpsIn u → Calls Tryz.prog 55 #[.pointer (some ⟨w.heap.size, 0, none⟩)] u fun e w' => e = .panicked (fcs er q) ∧ Bt w.heap.size u w')) :
    Calls Tryz.prog 24 #[.agg #[.slice so ws.length sc, .int .i64 0, .int .i64 (nb : Int), .int .i64 0]] w fun e w' => e = .returned (.tuple #[.agg #[.int .i64 0, .int .i64 0, .string ⟨#[]⟩, .int .i64 0, .string ⟨#[]⟩, .string ⟨#[]⟩, .slice none 0 0, .slice none 0 0, .slice none 0 0, .slice none 0 0], .agg #[.int .i64 (er : Int), .int .i64 (q : Int)]]) ∧ Below w.heap.size w w' := by
  have hmf : ∀ (fn : Fn) (first cap : Array Value) (w : World), (Instr.makeFunc fn first cap).run Tryz.prog w = .ok (.func fn first cap) w := fun _ _ _ _ => rfl
  obtain ⟨W0, hW0⟩ : ∃ W0, ((w.alloc (.cells #[.slice so ws.length sc, .int .i64 0, .int .i64 (nb : Int), .int .i64 0] 55)).alloc (.cells #[.int .i64 0, .int .i64 0, .string ⟨#[]⟩, .int .i64 0, .string ⟨#[]⟩, .string ⟨#[]⟩, .slice none 0 0, .slice none 0 0, .slice none 0 0, .slice none 0 0] 28)).alloc (.cells #[.int .i64 0, .int .i64 0] 49) = W0 := ⟨_, rfl⟩
  have HC := Hid.mk (cg_new hr hc hf ha hW0)
  have HO0 : Hid (OpsIn W0) := hO.keep HC.out.below
  clear hr hc hf ha hO
  go_enter_defers Tryz.func24, Tryz.ntmps24
  go_wp2_with fail
  refine (HRd.out _ HC.out.pat HO0.out).mono ?_
  rintro e w1 ⟨rfl, hb1⟩
  have hs := HC.out.size
  have qv := (hb1.block (w.heap.size + 1) (by omega) (by omega)).trans HC.out.res
  have qf := (hb1.block (w.heap.size + 2) (by omega) (by omega)).trans HC.out.flt
  have hbw : Below w.heap.size w w1 := HC.out.below.trans (hb1.below (by omega) (Nat.le_refl _))
  refine leaves_cons (f := 54) (args := #[.pointer (some ⟨w.heap.size + 2, 0, none⟩)]) (by simp) (by simp [go_sem]) ?_
  refine (catch_panS (w.heap.size + 2) er q _ _ w1 qf).mono ?_
  rintro e u' w2 ⟨rfl, rfl, hw2⟩
  have P2 := fb_set qf hw2.symm
  have qv2 := (P2.rest (w.heap.size + 1) (by omega)).trans qv
  have hb2 : Below w.heap.size w w2 := hbw.trans (P2.below (by omega))
  obtain ⟨d0, d1, d2, d3, d4, d5, d6, d7, d8, d9⟩ := nd_cells qv2
  obtain ⟨b0, b1, _⟩ := fb_cells P2.new
  clear hw2
  simp [Leaves, settle, results, Tryz.results24, go_sem, d0, d1, d2, d3, d4, d5, d6, d7, d8, d9, b0, b1]
  exact hb2

set_option maxRecDepth 100000 in
set_option maxHeartbeats 3200000 in
theorem w_caught1 {so : Option Addr} {sc : Nat} {ws : List Tok} {nb t1 o1 : Nat} (w : World) (hr : TRow w so ws) (hc : ws.length ≤ sc) (hf : ws.length ≤ 16777216) (ha : ∀ g off, so = some ⟨g, off, none⟩ → g < w.heap.size) (hO : OpsIn w)
    (HRd : Hid (∀ u, PAt u w.heap.size so sc ws nb 0 0 → OpsIn u → Calls Tryz.prog 55 #[.pointer (some ⟨w.heap.size, 0, none⟩)] u fun e w' => ∃ d, e = .returned d.v ∧ Bt w.heap.size u w' ∧ PAt w' w.heap.size so sc ws nb t1 o1 ∧ Kd d w')) :
    Calls Tryz.prog 24 #[.agg #[.slice so ws.length sc, .int .i64 0, .int .i64 (nb : Int), .int .i64 0]] w fun e w' => ∃ d, e = .returned (.tuple #[ND.v d, .agg #[.int .i64 0, .int .i64 0]]) ∧ Below w.heap.size w w' ∧ Kd d w' := by
  have hmf : ∀ (fn : Fn) (first cap : Array Value) (w : World), (Instr.makeFunc fn first cap).run Tryz.prog w = .ok (.func fn first cap) w := fun _ _ _ _ => rfl
  obtain ⟨W0, hW0⟩ : ∃ W0, ((w.alloc (.cells #[.slice so ws.length sc, .int .i64 0, .int .i64 (nb : Int), .int .i64 0] 55)).alloc (.cells #[.int .i64 0, .int .i64 0, .string ⟨#[]⟩, .int .i64 0, .string ⟨#[]⟩, .string ⟨#[]⟩, .slice none 0 0, .slice none 0 0, .slice none 0 0, .slice none 0 0] 28)).alloc (.cells #[.int .i64 0, .int .i64 0] 49) = W0 := ⟨_, rfl⟩
  have HC := Hid.mk (cg_new hr hc hf ha hW0)
  have HO0 : Hid (OpsIn W0) := hO.keep HC.out.below
  clear hr hc hf ha hO
  go_enter_defers Tryz.func24, Tryz.ntmps24
  go_wp2_with fail
  refine (HRd.out _ HC.out.pat HO0.out).mono ?_
  rintro e w1 ⟨d, rfl, hb1, _, hk1⟩
  have hs := HC.out.size
  have qv := (hb1.block (w.heap.size + 1) (by omega) (by omega)).trans HC.out.res
  have qf := (hb1.block (w.heap.size + 2) (by omega) (by omega)).trans HC.out.flt
  have hbw : Below w.heap.size w w1 := HC.out.below.trans (hb1.below (by omega) (Nat.le_refl _))
  have HQ := Hid.mk (And.intro qv (And.intro qf (And.intro hbw hk1)))
  obtain ⟨n0, n1, n2, n3, n4, n5, n6, n7, n8, n9⟩ := nd_cells qv
  obtain ⟨f0, f1, f2, f3, f4, f5, f6, f7, f8, f9⟩ := nd_frozen qv
  obtain ⟨g0, g1, h0, h1⟩ := fb_cells qf
  obtain ⟨op, at_, vk, tx, nu, vt, io, yo, no, ko, iN, ic, yN, yc, nN, nc, kN, kc⟩ := d
  unfold ND.v
  dsimp only
  clear qv qf hbw hk1 hb1 hs
  go_wp2_with fail
  obtain ⟨qv, qf, hbw, hk1⟩ := HQ.out
  generalize hz2 : (((((((((w1.setCell ⟨w.heap.size + 1, 0, none⟩ (.int .i64 op)).setCell ⟨w.heap.size + 1, 1, none⟩ (.int .i64 at_)).setCell ⟨w.heap.size + 1, 2, none⟩ (.string tx)).setCell ⟨w.heap.size + 1, 3, none⟩ (.int .i64 vk)).setCell ⟨w.heap.size + 1, 4, none⟩ (.string nu)).setCell ⟨w.heap.size + 1, 5, none⟩ (.string vt)).setCell ⟨w.heap.size + 1, 6, none⟩ (.slice io iN ic)).setCell ⟨w.heap.size + 1, 7, none⟩ (.slice yo yN yc)).setCell ⟨w.heap.size + 1, 8, none⟩ (.slice no nN nc)).setCell ⟨w.heap.size + 1, 9, none⟩ (.slice ko kN kc) = W2
  have P2 := nd_set qv hz2
  have qf2 := (P2.rest (w.heap.size + 2) (by omega)).trans qf
  generalize hz3 : (W2.setCell ⟨w.heap.size + 1 + 1, 0, none⟩ (.int .i64 0)).setCell ⟨w.heap.size + 1 + 1, 1, none⟩ (.int .i64 0) = W3
  have P3 := fb_set (B := w.heap.size + 2) qf2 hz3
  have qv3 := (P3.rest (w.heap.size + 1) (by omega)).trans P2.new
  have hb3 : Below w.heap.size w W3 := hbw.trans ((P2.below (by omega)).trans (P3.below (by omega)))
  have hk3 := (hk1.put P2 qv (by simp)).put P3 qf2 (by simp)
  refine leaves_cons (f := 54) (args := #[.pointer (some ⟨w.heap.size + 2, 0, none⟩)]) (by simp) (by simp [go_sem]) ?_
  refine (catch_idlS (w.heap.size + 2) W3).mono ?_
  rintro e u' w4 ⟨rfl, rfl, rfl⟩
  clear hz2 hz3
  obtain ⟨d0, d1, d2, d3, d4, d5, d6, d7, d8, d9⟩ := nd_cells qv3
  obtain ⟨r0, r1, _⟩ := fb_cells P3.new
  simp [Leaves, settle, results, Tryz.results24, go_sem, d0, d1, d2, d3, d4, d5, d6, d7, d8, d9, r0, r1]
  exact ⟨⟨op, at_, vk, tx, nu, vt, io, yo, no, ko, iN, ic, yN, yc, nN, nc, kN, kc⟩, rfl, hb3, hk3⟩

end Go.Proofs.YtdmkfdaddacdhaaGreatDoor
