import Derived.Test.YtdmkfdaddacdhaaGreatDoorM26
import Derived.ArgAppend
namespace Go.Proofs.YtdmkfdaddacdhaaGreatDoor
open Go.RowKit Go.Shelf
set_option linter.unusedVariables false
set_option linter.unusedSimpArgs false
attribute [local go_sem] Oper.semAt_some

theorem Tryz.infoNd : (Tryz.prog.info? 28).map (fun i => (i.zero, i.size, i.bytes)) = some (some (.agg #[.int .i64 0, .int .i64 0, .string ⟨#[]⟩, .int .i64 0, .string ⟨#[]⟩, .string ⟨#[]⟩, .slice none 0 0, .slice none 0 0, .slice none 0 0, .slice none 0 0]), 10, 168) := by kernel_rfl
theorem newL {w : World} {g : Nat} {t : TypeId} {cs : List Value} (h : w.heap[g]? = some (.cells cs.toArray t (0, 0))) : ∀ (j : Nat) u, cs[j]? = some u → w.cell? ((⟨g, 0, none⟩ : Addr).add j) = some u := fun j u hu => World.news_of_block (cs := cs.toArray) h j u (by simpa using hu)
/-- a part that waits for its last kid, with one kid -/
structure Wt1 (w : World) (gw g : Nat) (a : Int) (d1 : ND) : Prop where
  wl : gw < w.heap.size
  cells : w.cell? ⟨gw, 0, none⟩ = some (.int .i64 12) ∧ w.cell? ⟨gw, 1, none⟩ = some (.int .i64 a) ∧ w.cell? ⟨gw, 2, none⟩ = some (.string ⟨#[]⟩) ∧ w.cell? ⟨gw, 3, none⟩ = some (.int .i64 0) ∧ w.cell? ⟨gw, 4, none⟩ = some (.string ⟨#[]⟩) ∧ w.cell? ⟨gw, 5, none⟩ = some (.string ⟨#[]⟩) ∧ w.cell? ⟨gw, 6, none⟩ = some (.slice none 0 0) ∧ w.cell? ⟨gw, 7, none⟩ = some (.slice none 0 0) ∧ w.cell? ⟨gw, 8, none⟩ = some (.slice none 0 0) ∧ w.cell? ⟨gw, 9, none⟩ = some (.slice (some ⟨g, 0, none⟩) 1 1)
  kid : w.heap[g]? = some (.cells d1.c 28 (0, 0))
theorem Wt1.keep {w w' : World} {gw g : Nat} {a : Int} {d1 : ND} (h : Wt1 w gw g a d1) (hb : Below w.heap.size w w') : Wt1 w' gw g a d1 := by
  obtain ⟨h1, ⟨c0, c1, c2, c3, c4, c5, c6, c7, c8, c9⟩, h3⟩ := h
  have cc : ∀ o u, w.cell? ⟨gw, o, none⟩ = some u → w'.cell? ⟨gw, o, none⟩ = some u := fun o u h3 => (World.cell?_of_block (a := ⟨gw, o, none⟩) (hb.block _ h1)).trans h3
  exact ⟨Nat.lt_of_lt_of_le h1 hb.size, ⟨cc _ _ c0, cc _ _ c1, cc _ _ c2, cc _ _ c3, cc _ _ c4, cc _ _ c5, cc _ _ c6, cc _ _ c7, cc _ _ c8, cc _ _ c9⟩, (hb.block g (Array.getElem?_eq_some_iff.1 h3).1).trans h3⟩

set_option maxRecDepth 100000 in
set_option maxHeartbeats 3200000 in
theorem w_within1 (a : Int) (gw g cw : Nat) (hcw : 1 ≤ cw) (d1 d : ND) (w : World) (hW : Wt1 w gw g a d1) :
    Calls Tryz.prog 132 #[.slice (some ⟨gw, 0, none⟩) 1 cw, d.v] w fun e w' => ∃ g' c', e = .returned (.agg #[.int .i64 12, .int .i64 a, .string ⟨#[]⟩, .int .i64 0, .string ⟨#[]⟩, .string ⟨#[]⟩, .slice none 0 0, .slice none 0 0, .slice none 0 0, (.slice (some ⟨g', 0, none⟩) 2 c')]) ∧ 2 ≤ c' ∧ Below w.heap.size w w' ∧ w'.cell? ⟨g', 10, none⟩ = some (.int .i64 d.op) := by
  obtain ⟨i0, hi0, hz0, hz1, hz2⟩ := info_parts Tryz.infoNd
  obtain ⟨op1, at1, vk1, tx1, nu1, vt1, io1, yo1, no1, ko1, iN1, ic1, yN1, yc1, nN1, nc1, kN1, kc1⟩ := d1
  obtain ⟨op, at_, vk, tx, nu, vt, io, yo, no, ko, iN, ic, yN, yc, nN, nc, kN, kc⟩ := d
  unfold ND.v at *
  dsimp only at *
  obtain ⟨W2, hW2⟩ : ∃ W2, (w.alloc (.cells #[.int .i64 op, .int .i64 at_, .string tx, .int .i64 vk, .string nu, .string vt, .slice io iN ic, .slice yo yN yc, .slice no nN nc, .slice ko kN kc] 28)).alloc (.cells #[.int .i64 0, .int .i64 0, .string ⟨#[]⟩, .int .i64 0, .string ⟨#[]⟩, .string ⟨#[]⟩, .slice none 0 0, .slice none 0 0, .slice none 0 0, .slice none 0 0] 28) = W2 := ⟨_, rfl⟩
  have s2 : W2.heap.size = w.heap.size + 2 := by rw [← hW2]; simp
  have B2 : Below w.heap.size w W2 := by rw [← hW2]; exact (below1 w _).alloc (by simp) _
  have p2 : W2.heap[w.heap.size]? = some (.cells #[.int .i64 op, .int .i64 at_, .string tx, .int .i64 vk, .string nu, .string vt, .slice io iN ic, .slice yo yN yc, .slice no nN nc, .slice ko kN kc] 28 (0, 0)) := by rw [← hW2]; exact (Below.heap_alloc _ _ _ (by simp)).trans (heap_alloc_new w _)
  have r2 : W2.heap[w.heap.size + 1]? = some (.cells #[.int .i64 0, .int .i64 0, .string ⟨#[]⟩, .int .i64 0, .string ⟨#[]⟩, .string ⟨#[]⟩, .slice none 0 0, .slice none 0 0, .slice none 0 0, .slice none 0 0] 28 (0, 0)) := by
    have := heap_alloc_new (w.alloc (.cells #[.int .i64 op, .int .i64 at_, .string tx, .int .i64 vk, .string nu, .string vt, .slice io iN ic, .slice yo yN yc, .slice no nN nc, .slice ko kN kc] 28)) (.cells #[.int .i64 0, .int .i64 0, .string ⟨#[]⟩, .int .i64 0, .string ⟨#[]⟩, .string ⟨#[]⟩, .slice none 0 0, .slice none 0 0, .slice none 0 0, .slice none 0 0] 28)
    rw [World.size_alloc] at this
    rw [← hW2]; exact this
  have hWl := hW.wl
  obtain ⟨W2l, ⟨c0, c1, c2, c3, c4, c5, c6, c7, c8, c9⟩, k2⟩ : Wt1 W2 gw g a ⟨op1, at1, vk1, tx1, nu1, vt1, io1, yo1, no1, ko1, iN1, ic1, yN1, yc1, nN1, nc1, kN1, kc1⟩ := hW.keep B2
  unfold ND.c at k2
  dsimp only at k2
  obtain ⟨W3, hW3⟩ : ∃ W3, W2.alloc (.cells #[.int .i64 12, .int .i64 a, .string ⟨#[]⟩, .int .i64 0, .string ⟨#[]⟩, .string ⟨#[]⟩, .slice none 0 0, .slice none 0 0, .slice none 0 0, .slice (some ⟨g, 0, none⟩) 1 1] 28) = W3 := ⟨_, rfl⟩
  have B3 : Below W2.heap.size W2 W3 := by rw [← hW3]; exact below1 W2 _
  have s3 : W3.heap.size = w.heap.size + 3 := by rw [← hW3]; simp [s2]
  have o3 : W3.heap[W2.heap.size]? = some (.cells #[.int .i64 12, .int .i64 a, .string ⟨#[]⟩, .int .i64 0, .string ⟨#[]⟩, .string ⟨#[]⟩, .slice none 0 0, .slice none 0 0, .slice none 0 0, .slice (some ⟨g, 0, none⟩) 1 1] 28 (0, 0)) := by rw [← hW3]; exact heap_alloc_new W2 _
  have p3 := (B3.block w.heap.size (by omega)).trans p2
  have r3 := (B3.block (w.heap.size + 1) (by omega)).trans r2
  have k3 := (B3.block g (Array.getElem?_eq_some_iff.1 k2).1).trans k2
  obtain ⟨x0, x1, x2, x3, x4, x5, x6, x7, x8, x9⟩ := nd_cells o3
  obtain ⟨b0, b1, b2, b3, b4, b5, b6, b7, b8, b9⟩ := nd_cells p3
  have HF := Hid.mk (And.intro s2 (And.intro B2 (And.intro B3 (And.intro o3 (And.intro p3 (And.intro r3 k3))))))
  have s3' := Hid.mk s3
  clear hW s2 s3 B2 B3 o3 p3 r3 k3 p2 r2 k2
  go_enter Tryz.func132, Tryz.ntmps132
  go_wp2_with fail
  refine wp_loop_rounds 2 ?_
  rw [rounds_succ]
  obtain ⟨x0', x1', x2', x3', x4', x5', x6', x7', x8', x9'⟩ := nd_cellsA HF.out.2.2.2.1 (by have := s3'.out; have := HF.out.1; omega)
  go_wp2_with (at_builtin; go_loud (refine wpList_append_grows _ rfl _ _ 26 rfl 28 i0 (.agg #[.int .i64 0, .int .i64 0, .string ⟨#[]⟩, .int .i64 0, .string ⟨#[]⟩, .string ⟨#[]⟩, .slice none 0 0, .slice none 0 0, .slice none 0 0, .slice none 0 0]) 10 168 Tryz.underlying26 hi0 hz0 hz1 hz2 rfl (by decide) (some ⟨g, 0, none⟩) 1 1 [.int .i64 op1, .int .i64 at1, .string tx1, .int .i64 vk1, .string nu1, .string vt1, .slice io1 iN1 ic1, .slice yo1 yN1 yc1, .slice no1 nN1 nc1, .slice ko1 kN1 kc1] rfl (by intro h; cases h) rfl (by intro b hb; injection hb with hb; subst hb; exact newL ((Below.heap_alloc _ _ _ (Array.getElem?_eq_some_iff.1 HF.out.2.2.2.2.2.2).1).trans HF.out.2.2.2.2.2.2)) ⟨W3.heap.size, 0, none⟩ 1 1 [.int .i64 op, .int .i64 at_, .string tx, .int .i64 vk, .string nu, .string vt, .slice io iN ic, .slice yo yN yc, .slice no nN nc, .slice ko kN kc] rfl rfl (newL (heap_alloc_new W3 _)) (by intro u hu; simp at hu; rcases hu with rfl | rfl | rfl | rfl | rfl | rfl | rfl | rfl | rfl | rfl <;> rfl) (by omega) (by unfold maxLen; omega) (by omega) ?_))
  intro v' w5 hown hgrow
  obtain ⟨g', c', cur, hv', hge, hheap, hle, hml, hcs, htk⟩ : ∃ g' c' cur, v' = .slice (some ⟨g', 0, none⟩) 2 c' ∧ W3.heap.size + 1 ≤ g' ∧ w5.heap[g']? = some (.cells cur 28 (0, 0)) ∧ 2 ≤ c' ∧ c' ≤ maxLen ∧ cur.size = c' * 10 ∧ cur.toList.take 20 = _ := by
    rcases hown.2 with ⟨_, h0⟩ | ⟨g', c', cur, e1, e2, e3, e4, e5, e6, e7⟩
    · cases h0
    · exact ⟨g', c', cur, e1, e2, e3, e4, e5, e6, e7⟩
  subst hv'
  obtain ⟨s2, B2, B3, o3, p3, r3, k3⟩ := HF.out
  have s3 := s3'.out
  have B5 : Below (W3.heap.size + 1) (W3.alloc (.cells #[.int .i64 op, .int .i64 at_, .string tx, .int .i64 vk, .string nu, .string vt, .slice io iN ic, .slice yo yN yc, .slice no nN nc, .slice ko kN kc] 28)) w5 := ⟨hgrow.os, hgrow.tape, hgrow.output, by simpa using hgrow.size, fun k hk => hgrow.block k (by simp; omega) (by simp)⟩
  have B35 : Below W3.heap.size W3 w5 := (below1 W3 _).trans (B5.mono (by omega))
  have o5 := (B35.block W2.heap.size (by omega)).trans o3
  have p5 := (B35.block w.heap.size (by omega)).trans p3
  have r5 := (B35.block (w.heap.size + 1) (by omega)).trans r3
  have hop : cur.toList[10]? = some (.int .i64 op) := by
    have := congrArg (fun l => l[10]?) htk
    simpa using this
  have HB5 : Hid (Below w.heap.size w w5) := B2.trans ((B3.mono (by omega)).trans (B35.mono (by omega)))
  obtain ⟨x0, x1, x2, x3, x4, x5, x6, x7, x8, x9⟩ := nd_cells o5
  obtain ⟨z0, z1, z2, z3, z4, z5, z6, z7, z8, z9⟩ := nd_frozen o5
  obtain ⟨W6, hW6⟩ : ∃ W6, w5.setCell ⟨W2.heap.size, 9, none⟩ (.slice (some ⟨g', 0, none⟩) 2 c') = W6 := ⟨_, rfl⟩
  have P6 := nd_set9 o5 hW6
  have p6 := (P6.rest w.heap.size (by omega)).trans p5
  have r6 := (P6.rest (w.heap.size + 1) (by omega)).trans r5
  have h6 := (P6.rest g' (by omega)).trans hheap
  obtain ⟨y0, y1, y2, y3, y4, y5, y6, y7, y8, y9⟩ := nd_cells P6.new
  obtain ⟨t0, t1, t2, t3, t4, t5, t6, t7, t8, t9⟩ := nd_cells p6
  obtain ⟨u0, u1, u2, u3, u4, u5, u6, u7, u8, u9⟩ := nd_frozen p6
  have HB6 : Hid (Below w.heap.size w W6) := HB5.out.trans (P6.below (by omega))
  have HG := Hid.mk (And.intro p6 (And.intro r6 (And.intro h6 hop)))
  have HN : Hid (w.heap.size + 1 < g' ∧ 2 ≤ c') := ⟨by omega, hle⟩
  clear hown hgrow hge hheap hle hml hcs htk B2 B3 o3 p3 r3 k3 B5 B35 o5 p5 r5 hop P6 p6 r6 h6 s2 s3
  go_wp2_with fail
  generalize hW7 : (((((((((W6.setCell ⟨w.heap.size, 0, none⟩ (.int .i64 12)).setCell ⟨w.heap.size, 1, none⟩ (.int .i64 a)).setCell ⟨w.heap.size, 2, none⟩ (.string ⟨#[]⟩)).setCell ⟨w.heap.size, 3, none⟩ (.int .i64 0)).setCell ⟨w.heap.size, 4, none⟩ (.string ⟨#[]⟩)).setCell ⟨w.heap.size, 5, none⟩ (.string ⟨#[]⟩)).setCell ⟨w.heap.size, 6, none⟩ (.slice none 0 0)).setCell ⟨w.heap.size, 7, none⟩ (.slice none 0 0)).setCell ⟨w.heap.size, 8, none⟩ (.slice none 0 0)).setCell ⟨w.heap.size, 9, none⟩ ((.slice (some ⟨g', 0, none⟩) 2 c')) = W7
  have P7 := nd_set HG.out.1 hW7
  have r7 := (P7.rest (w.heap.size + 1) (by omega)).trans HG.out.2.1
  have h7 := (P7.rest g' (by have := HN.out.1; omega)).trans HG.out.2.2.1
  have HB7 : Hid (Below w.heap.size w W7) := HB6.out.trans (P7.below (Nat.le_refl _))
  clear x0 x1 x2 x3 x4 x5 x6 x7 x8 x9 y0 y1 y2 y3 y4 y5 y6 y7 y8 y9 z0 z1 z2 z3 z4 z5 z6 z7 z8 z9 t0 t1 t2 t3 t4 t5 t6 t7 t8 t9 u0 u1 u2 u3 u4 u5 u6 u7 u8 u9 hW7
  obtain ⟨x0, x1, x2, x3, x4, x5, x6, x7, x8, x9⟩ := nd_cells P7.new
  obtain ⟨y0, y1, y2, y3, y4, y5, y6, y7, y8, y9⟩ := nd_cells r7
  obtain ⟨z0, z1, z2, z3, z4, z5, z6, z7, z8, z9⟩ := nd_frozen r7
  have H7 := Hid.mk (And.intro r7 h7)
  clear P7 r7 h7
  rw [rounds_succ]
  go_wp2_with fail
  generalize hzZ : (((((((((W7.setCell ⟨w.heap.size + 1, 0, none⟩ (.int .i64 12)).setCell ⟨w.heap.size + 1, 1, none⟩ (.int .i64 a)).setCell ⟨w.heap.size + 1, 2, none⟩ (.string ⟨#[]⟩)).setCell ⟨w.heap.size + 1, 3, none⟩ (.int .i64 0)).setCell ⟨w.heap.size + 1, 4, none⟩ (.string ⟨#[]⟩)).setCell ⟨w.heap.size + 1, 5, none⟩ (.string ⟨#[]⟩)).setCell ⟨w.heap.size + 1, 6, none⟩ (.slice none 0 0)).setCell ⟨w.heap.size + 1, 7, none⟩ (.slice none 0 0)).setCell ⟨w.heap.size + 1, 8, none⟩ (.slice none 0 0)).setCell ⟨w.heap.size + 1, 9, none⟩ ((.slice (some ⟨g', 0, none⟩) 2 c')) = WZ
  have PZ := nd_set H7.out.1 hzZ
  obtain ⟨m0, m1, m2, m3, m4, m5, m6, m7, m8, m9⟩ := nd_cells PZ.new
  refine bodyPost_ret (v := .agg #[.int .i64 12, .int .i64 a, .string ⟨#[]⟩, .int .i64 0, .string ⟨#[]⟩, .string ⟨#[]⟩, .slice none 0 0, .slice none 0 0, .slice none 0 0, (.slice (some ⟨g', 0, none⟩) 2 c')]) (by simp [results, Tryz.results132, go_sem, m0, m1, m2, m3, m4, m5, m6, m7, m8, m9]) rfl ?_
  refine ⟨g', c', rfl, HN.out.2, HB7.out.trans (PZ.below (by omega)), ?_⟩
  rw [cell_of_row _ _ _ _ _ _ ((PZ.rest g' (by have := HN.out.1; omega)).trans H7.out.2), ← Array.getElem?_toList]
  exact HG.out.2.2.2

end Go.Proofs.YtdmkfdaddacdhaaGreatDoor
namespace Go.Proofs.YtdmkfdaddacdhaaGreatDoor
open Go.RowKit Go.Shelf
set_option linter.unusedVariables false
set_option linter.unusedSimpArgs false
attribute [local go_sem] Oper.semAt_some

set_option maxRecDepth 100000 in
set_option maxHeartbeats 3200000 in
theorem w_pipe0 {B : Nat} {so : Option Addr} {sc : Nat} {ws : List Tok} {nb t o : Nat} {t1 o1 : Nat} (d : ND) (w : World) (hP : PAt w B so sc ws nb t o) (hO : OpsIn w)
    (HL : Hid (∀ u, PAt u B so sc ws nb t o → OpsIn u → Calls Tryz.prog 131 #[.pointer (some ⟨B, 0, none⟩)] u fun e w' => e = .returned (.tuple #[d.v, .bool false]) ∧ Bt B u w' ∧ PAt w' B so sc ws nb t1 o1)) :
    Calls Tryz.prog 96 #[.pointer (some ⟨B, 0, none⟩)] w fun e w' => NdR B so sc ws nb w t1 o1 d e w' := by
  have hB := hP.lt
  have HP := Hid.mk hP
  have HS0 := Hid.mk (St.new hP)
  have HO0 : Hid (OpsIn (w.alloc (.cells #[.int .i64 0, .int .i64 0, .string ⟨#[]⟩, .int .i64 0, .string ⟨#[]⟩, .string ⟨#[]⟩, .slice none 0 0, .slice none 0 0, .slice none 0 0, .slice none 0 0] 28))) := hO.keep (below1 w _)
  have HW : Hid (∀ u, Calls Tryz.prog 132 #[.slice none 0 0, d.v] u fun e w' => e = .returned d.v ∧ Below u.heap.size u w') := fun u => w_within0 d u
  clear hP hO
  unfold NdR at *
  obtain ⟨op, at_, vk, tx, nu, vt, io, yo, no, ko, iN, ic, yN, yc, nN, nc, kN, kc⟩ := d
  unfold ND.v at *
  dsimp only at *
  go_enter Tryz.func96, Tryz.ntmps96
  go_wp2_with fail
  refine wp_loop_rounds 1 ?_
  rw [rounds_succ]
  go_wp2_with fail
  refine (HL.out _ HS0.out.pat HO0.out).mono ?_
  rintro e w1 ⟨rfl, hb1, hp1⟩
  have HS1 := Hid.mk (HS0.out.step hB hb1 hp1)
  clear hb1 hp1
  obtain ⟨W5, hW5⟩ : ∃ W5, w1.alloc (.cells #[.int .i64 op, .int .i64 at_, .string tx, .int .i64 vk, .string nu, .string vt, .slice io iN ic, .slice yo yN yc, .slice no nN nc, .slice ko kN kc] 28) = W5 := ⟨_, rfl⟩
  have HS5 : Hid (St3 w B so sc ws nb t1 o1 w1.heap.size #[.int .i64 op, .int .i64 at_, .string tx, .int .i64 vk, .string nu, .string vt, .slice io iN ic, .slice yo yN yc, .slice no nN nc, .slice ko kN kc] W5) := by rw [← hW5]; exact St3.new HS1.out _
  obtain ⟨b0, b1, b2, b3, b4, b5, b6, b7, b8, b9⟩ := nd_cells HS5.out.box
  go_wp2_with fail
  refine (HW.out _).mono ?_
  rintro e w3 ⟨rfl, hb3⟩
  have HS3 := Hid.mk (HS5.out.st.keep hb3)
  clear hb3
  obtain ⟨n0, n1, n2, n3, n4, n5, n6, n7, n8, n9⟩ := nd_cells HS3.out.res
  obtain ⟨f0, f1, f2, f3, f4, f5, f6, f7, f8, f9⟩ := nd_frozen HS3.out.res
  go_wp2_with fail
  generalize hzZ : (((((((((w3.setCell ⟨w.heap.size, 0, none⟩ (.int .i64 op)).setCell ⟨w.heap.size, 1, none⟩ (.int .i64 at_)).setCell ⟨w.heap.size, 2, none⟩ (.string tx)).setCell ⟨w.heap.size, 3, none⟩ (.int .i64 vk)).setCell ⟨w.heap.size, 4, none⟩ (.string nu)).setCell ⟨w.heap.size, 5, none⟩ (.string vt)).setCell ⟨w.heap.size, 6, none⟩ (.slice io iN ic)).setCell ⟨w.heap.size, 7, none⟩ (.slice yo yN yc)).setCell ⟨w.heap.size, 8, none⟩ (.slice no nN nc)).setCell ⟨w.heap.size, 9, none⟩ (.slice ko kN kc) = WZ
  have PZ := nd_set HS3.out.res hzZ
  obtain ⟨m0, m1, m2, m3, m4, m5, m6, m7, m8, m9⟩ := nd_cells PZ.new
  refine bodyPost_ret (v := .agg #[.int .i64 op, .int .i64 at_, .string tx, .int .i64 vk, .string nu, .string vt, .slice io iN ic, .slice yo yN yc, .slice no nN nc, .slice ko kN kc]) (by simp [results, Tryz.results96, go_sem, m0, m1, m2, m3, m4, m5, m6, m7, m8, m9]) rfl ?_
  exact ⟨rfl, HS3.out.put HP.out PZ⟩

set_option maxRecDepth 100000 in
set_option maxHeartbeats 3200000 in
theorem w_pipe1 {B : Nat} {so : Option Addr} {sc : Nat} {ws : List Tok} {nb t o : Nat} {t1 o1 t2 o2 : Nat} (a : Int) (d1 d : ND) (w : World) (hP : PAt w B so sc ws nb t o) (hO : OpsIn w) (hBG : B ≠ 0)
    (HL1 : Hid (∀ u, PAt u B so sc ws nb t o → OpsIn u → Calls Tryz.prog 131 #[.pointer (some ⟨B, 0, none⟩)] u fun e w' => ∃ g, e = .returned (.tuple #[(pipD a g).v, .bool true]) ∧ Bt B u w' ∧ PAt w' B so sc ws nb t1 o1 ∧ u.heap.size ≤ g ∧ w'.heap[g]? = some (.cells d1.c 28 (0, 0))))
    (HL2 : Hid (∀ u, PAt u B so sc ws nb t1 o1 → OpsIn u → Calls Tryz.prog 131 #[.pointer (some ⟨B, 0, none⟩)] u fun e w' => e = .returned (.tuple #[d.v, .bool false]) ∧ Bt B u w' ∧ PAt w' B so sc ws nb t2 o2)) :
    Calls Tryz.prog 96 #[.pointer (some ⟨B, 0, none⟩)] w fun e w' => ∃ g' c', e = .returned (.agg #[.int .i64 12, .int .i64 a, .string ⟨#[]⟩, .int .i64 0, .string ⟨#[]⟩, .string ⟨#[]⟩, .slice none 0 0, .slice none 0 0, .slice none 0 0, (.slice (some ⟨g', 0, none⟩) 2 c')]) ∧ 2 ≤ c' ∧ Bt B w w' ∧ PAt w' B so sc ws nb t2 o2 ∧ w'.cell? ⟨g', 10, none⟩ = some (.int .i64 d.op) := by
  have hB := hP.lt
  have HP := Hid.mk hP
  have HS0 := Hid.mk (St.new hP)
  obtain ⟨i0, hi0, hz0, hz1, hz2⟩ := info_parts Tryz.infoNd
  have HO0 : Hid (∀ u, Bt B w u → OpsIn u) := fun u hb => hO.bt hb hBG
  have HW : Hid (∀ gw g cw u, 1 ≤ cw → Wt1 u gw g a d1 → Calls Tryz.prog 132 #[.slice (some ⟨gw, 0, none⟩) 1 cw, d.v] u fun e w' => ∃ g' c', e = .returned (.agg #[.int .i64 12, .int .i64 a, .string ⟨#[]⟩, .int .i64 0, .string ⟨#[]⟩, .string ⟨#[]⟩, .slice none 0 0, .slice none 0 0, .slice none 0 0, (.slice (some ⟨g', 0, none⟩) 2 c')]) ∧ 2 ≤ c' ∧ Below u.heap.size u w' ∧ w'.cell? ⟨g', 10, none⟩ = some (.int .i64 d.op)) := fun gw g cw u h1 h2 => w_within1 a gw g cw h1 d1 d u h2
  clear hP hO
  unfold pipD at HL1
  obtain ⟨op, at_, vk, tx, nu, vt, io, yo, no, ko, iN, ic, yN, yc, nN, nc, kN, kc⟩ := d
  unfold ND.v at *
  dsimp only at *
  go_enter Tryz.func96, Tryz.ntmps96
  go_wp2_with fail
  refine wp_loop_rounds 2 ?_
  rw [rounds_succ]
  go_wp2_with fail
  refine (HL1.out _ HS0.out.pat (HO0.out _ HS0.out.bt)).mono ?_
  rintro e w1 ⟨g, rfl, hb1, hp1, hg1, hk1⟩
  have HS1 := Hid.mk (HS0.out.step hB hb1 hp1)
  have HK1 := Hid.mk hk1
  have hgs : w.heap.size < g := by simp at hg1; omega
  clear hb1 hp1 hg1 hk1
  obtain ⟨W5, hW5⟩ : ∃ W5, w1.alloc (.cells #[.int .i64 12, .int .i64 a, .string ⟨#[]⟩, .int .i64 0, .string ⟨#[]⟩, .string ⟨#[]⟩, .slice none 0 0, .slice none 0 0, .slice none 0 0, .slice (some ⟨g, 0, none⟩) 1 1] 28) = W5 := ⟨_, rfl⟩
  have HS5 : Hid (St3 w B so sc ws nb t1 o1 w1.heap.size #[.int .i64 12, .int .i64 a, .string ⟨#[]⟩, .int .i64 0, .string ⟨#[]⟩, .string ⟨#[]⟩, .slice none 0 0, .slice none 0 0, .slice none 0 0, .slice (some ⟨g, 0, none⟩) 1 1] W5) := by rw [← hW5]; exact St3.new HS1.out _
  have HK5 : Hid (W5.heap[g]? = some (.cells d1.c 28 (0, 0))) := by
    show _ = _
    rw [← hW5]
    exact (Below.heap_alloc _ _ _ (Array.getElem?_eq_some_iff.1 HK1.out).1).trans HK1.out
  obtain ⟨b0, b1, b2, b3, b4, b5, b6, b7, b8, b9⟩ := nd_cells HS5.out.box
  go_wp2_with (at_builtin; go_loud (refine wpList_append_grows _ rfl _ _ 26 rfl 28 i0 (.agg #[.int .i64 0, .int .i64 0, .string ⟨#[]⟩, .int .i64 0, .string ⟨#[]⟩, .string ⟨#[]⟩, .slice none 0 0, .slice none 0 0, .slice none 0 0, .slice none 0 0]) 10 168 Tryz.underlying26 hi0 hz0 hz1 hz2 rfl (by decide) none 0 0 [] rfl (by intro _; exact ⟨rfl, rfl⟩) rfl (by intro b hb; cases hb) ⟨W5.heap.size, 0, none⟩ 1 1 [.int .i64 12, .int .i64 a, .string ⟨#[]⟩, .int .i64 0, .string ⟨#[]⟩, .string ⟨#[]⟩, .slice none 0 0, .slice none 0 0, .slice none 0 0, .slice (some ⟨g, 0, none⟩) 1 1] rfl rfl (newL (heap_alloc_new W5 _)) (by intro u hu; simp at hu; rcases hu with rfl | rfl | rfl | rfl | rfl | rfl | rfl | rfl | rfl | rfl <;> rfl) (by omega) (by unfold maxLen; omega) (by omega) ?_))
  intro v' w6 hown hgrow
  obtain ⟨gw, cw, cur, hv', hge, hheap, hle, hml, hcs, htk⟩ : ∃ g' c' cur, v' = .slice (some ⟨g', 0, none⟩) 1 c' ∧ W5.heap.size + 1 ≤ g' ∧ w6.heap[g']? = some (.cells cur 28 (0, 0)) ∧ 1 ≤ c' ∧ c' ≤ maxLen ∧ cur.size = c' * 10 ∧ cur.toList.take 10 = [.int .i64 12, .int .i64 a, .string ⟨#[]⟩, .int .i64 0, .string ⟨#[]⟩, .string ⟨#[]⟩, .slice none 0 0, .slice none 0 0, .slice none 0 0, .slice (some ⟨g, 0, none⟩) 1 1] := by
    rcases hown.2 with ⟨_, h0⟩ | ⟨g', c', cur, e1, e2, e3, e4, e5, e6, e7⟩
    · cases h0
    · exact ⟨g', c', cur, e1, (by simpa using e2), e3, e4, e5, e6, (by simpa using e7)⟩
  subst hv'
  have B6 : Below (W5.heap.size + 1) (W5.alloc (.cells #[.int .i64 12, .int .i64 a, .string ⟨#[]⟩, .int .i64 0, .string ⟨#[]⟩, .string ⟨#[]⟩, .slice none 0 0, .slice none 0 0, .slice none 0 0, .slice (some ⟨g, 0, none⟩) 1 1] 28)) w6 := ⟨hgrow.os, hgrow.tape, hgrow.output, by simpa using hgrow.size, fun k hk => hgrow.block k (by simp; omega) (by simp)⟩
  have B56 : Below W5.heap.size W5 w6 := (below1 W5 _).trans (B6.mono (by omega))
  have HS6 := Hid.mk (HS5.out.st.keep B56)
  have HW6 : Hid (Wt1 w6 gw g a d1) := by
    refine ⟨(Array.getElem?_eq_some_iff.1 hheap).1, ?_, (B56.block g (Array.getElem?_eq_some_iff.1 HK5.out).1).trans HK5.out⟩
    have hc : ∀ j, j < 10 → w6.cell? ⟨gw, j, none⟩ = ([.int .i64 12, .int .i64 a, .string ⟨#[]⟩, .int .i64 0, .string ⟨#[]⟩, .string ⟨#[]⟩, .slice none 0 0, .slice none 0 0, .slice none 0 0, .slice (some ⟨g, 0, none⟩) 1 1] : List Value)[j]? := fun j hj => by
      rw [cell_of_row _ _ _ _ _ _ hheap, ← Array.getElem?_toList, ← htk, List.getElem?_take_of_lt hj]
    exact ⟨hc 0 (by decide), hc 1 (by decide), hc 2 (by decide), hc 3 (by decide), hc 4 (by decide), hc 5 (by decide), hc 6 (by decide), hc 7 (by decide), hc 8 (by decide), hc 9 (by decide)⟩
  have hcw := Hid.mk hle
  have hgw : w.heap.size < gw := by have := HS5.out.st.lt; omega
  clear hown hgrow hge hheap hle hml hcs htk B6 B56 b0 b1 b2 b3 b4 b5 b6 b7 b8 b9 hW5
  go_wp2_with fail
  rw [rounds_succ]
  go_wp2_with fail
  refine (HL2.out _ HS6.out.pat (HO0.out _ HS6.out.bt)).mono ?_
  rintro e w7 ⟨rfl, hb7, hp7⟩
  have HS7 := Hid.mk (HS6.out.step hB hb7 hp7)
  have HW7 : Hid (Wt1 w7 gw g a d1) := by
    obtain ⟨h1, ⟨c0, c1, c2, c3, c4, c5, c6, c7, c8, c9⟩, h3⟩ := HW6.out
    have cc : ∀ o u, w6.cell? ⟨gw, o, none⟩ = some u → w7.cell? ⟨gw, o, none⟩ = some u := fun o u h3 => (World.cell?_of_block (a := ⟨gw, o, none⟩) (hb7.block gw h1 (by omega))).trans h3
    exact ⟨Nat.lt_of_lt_of_le h1 hb7.size, ⟨cc _ _ c0, cc _ _ c1, cc _ _ c2, cc _ _ c3, cc _ _ c4, cc _ _ c5, cc _ _ c6, cc _ _ c7, cc _ _ c8, cc _ _ c9⟩, (hb7.block g (Array.getElem?_eq_some_iff.1 h3).1 (by omega)).trans h3⟩
  clear hb7 hp7
  obtain ⟨W8, hW8⟩ : ∃ W8, w7.alloc (.cells #[.int .i64 op, .int .i64 at_, .string tx, .int .i64 vk, .string nu, .string vt, .slice io iN ic, .slice yo yN yc, .slice no nN nc, .slice ko kN kc] 28) = W8 := ⟨_, rfl⟩
  have HS8 : Hid (St3 w B so sc ws nb t2 o2 w7.heap.size #[.int .i64 op, .int .i64 at_, .string tx, .int .i64 vk, .string nu, .string vt, .slice io iN ic, .slice yo yN yc, .slice no nN nc, .slice ko kN kc] W8) := by rw [← hW8]; exact St3.new HS7.out _
  have HW8 : Hid (Wt1 W8 gw g a d1) := by rw [← hW8]; exact HW7.out.keep (below1 w7 _)
  obtain ⟨b0, b1, b2, b3, b4, b5, b6, b7, b8, b9⟩ := nd_cells HS8.out.box
  go_wp2_with fail
  refine (HW.out gw g cw _ hcw.out HW8.out).mono ?_
  rintro e w9 ⟨g', c', rfl, hc', hb9, hc10⟩
  have HS9 := Hid.mk (HS8.out.st.keep hb9)
  have HC := Hid.mk (And.intro hc' hc10)
  clear hb9 hc' hc10
  obtain ⟨n0, n1, n2, n3, n4, n5, n6, n7, n8, n9⟩ := nd_cells HS9.out.res
  obtain ⟨f0, f1, f2, f3, f4, f5, f6, f7, f8, f9⟩ := nd_frozen HS9.out.res
  go_wp2_with fail
  generalize hzZ : (((((((((w9.setCell ⟨w.heap.size, 0, none⟩ (.int .i64 12)).setCell ⟨w.heap.size, 1, none⟩ (.int .i64 a)).setCell ⟨w.heap.size, 2, none⟩ (.string ⟨#[]⟩)).setCell ⟨w.heap.size, 3, none⟩ (.int .i64 0)).setCell ⟨w.heap.size, 4, none⟩ (.string ⟨#[]⟩)).setCell ⟨w.heap.size, 5, none⟩ (.string ⟨#[]⟩)).setCell ⟨w.heap.size, 6, none⟩ (.slice none 0 0)).setCell ⟨w.heap.size, 7, none⟩ (.slice none 0 0)).setCell ⟨w.heap.size, 8, none⟩ (.slice none 0 0)).setCell ⟨w.heap.size, 9, none⟩ ((.slice (some ⟨g', 0, none⟩) 2 c')) = WZ
  have PZ := nd_set HS9.out.res hzZ
  obtain ⟨m0, m1, m2, m3, m4, m5, m6, m7, m8, m9⟩ := nd_cells PZ.new
  refine bodyPost_ret (v := .agg #[.int .i64 12, .int .i64 a, .string ⟨#[]⟩, .int .i64 0, .string ⟨#[]⟩, .string ⟨#[]⟩, .slice none 0 0, .slice none 0 0, .slice none 0 0, (.slice (some ⟨g', 0, none⟩) 2 c')]) (by simp [results, Tryz.results96, go_sem, m0, m1, m2, m3, m4, m5, m6, m7, m8, m9]) rfl ?_
  obtain ⟨hbt, hpt⟩ := HS9.out.put HP.out PZ
  refine ⟨g', c', rfl, HC.out.1, hbt, hpt, ?_⟩
  by_cases hgR : g' = w.heap.size
  · exfalso
    have h1 := HC.out.2
    rw [hgR, cell_of_row _ _ _ _ _ _ HS9.out.res] at h1
    simp at h1
  · exact (World.cell?_of_block (a := ⟨g', 10, none⟩) (PZ.rest g' hgR)).trans HC.out.2

end Go.Proofs.YtdmkfdaddacdhaaGreatDoor
