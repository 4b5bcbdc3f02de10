import Derived.Test.YtdmkfdaddacdhaaGreatDoorM25
namespace Go.Proofs.YtdmkfdaddacdhaaGreatDoor
open Go.RowKit Go.Shelf
set_option linter.unusedVariables false
set_option linter.unusedSimpArgs false
attribute [local go_sem] Oper.semAt_some

set_option maxRecDepth 100000 in
set_option maxHeartbeats 3200000 in
theorem w_behind0 {B : Nat} {so : Option Addr} {sc : Nat} {ws : List Tok} {nb t o : Nat} (d : ND) (w : World) (hP : PAt w B so sc ws nb t o) (hO : OpsIn w)
    (HO : Hid (∀ u, PAt u B so sc ws nb t o → OpsIn u → Calls Tryz.prog 182 #[.pointer (some ⟨B, 0, none⟩)] u fun e w' => e = .returned (opVl ([], 0, 0, 0)) ∧ Below u.heap.size u w')) :
    Calls Tryz.prog 165 #[.pointer (some ⟨B, 0, none⟩), d.v, .int .i64 1] w fun e w' => NdR B so sc ws nb w t o d e w' := by
  have HW : Hid (∀ u, Calls Tryz.prog 132 #[.slice none 0 0, d.v] u fun e w' => e = .returned d.v ∧ Below u.heap.size u w') := fun u => w_within0 d u
  have HP := Hid.mk hP
  unfold NdR
  unfold opVl at HO
  obtain ⟨op, at_, vk, tx, nu, vt, io, yo, no, ko, iN, ic, yN, yc, nN, nc, kN, kc⟩ := d
  unfold ND.v at *
  dsimp only at *
  have HS0 := Hid.mk (St2.new hP #[.int .i64 op, .int .i64 at_, .string tx, .int .i64 vk, .string nu, .string vt, .slice io iN ic, .slice yo yN yc, .slice no nN nc, .slice ko kN kc])
  have HO1 : Hid (OpsIn ((w.alloc (.cells #[.int .i64 op, .int .i64 at_, .string tx, .int .i64 vk, .string nu, .string vt, .slice io iN ic, .slice yo yN yc, .slice no nN nc, .slice ko kN kc] 28)).alloc (.cells #[.int .i64 0, .int .i64 0, .string ⟨#[]⟩, .int .i64 0, .string ⟨#[]⟩, .string ⟨#[]⟩, .slice none 0 0, .slice none 0 0, .slice none 0 0, .slice none 0 0] 28))) := hO.keep ((below1 w _).alloc (by simp) _)
  clear hP hO
  go_enter Tryz.func165, Tryz.ntmps165
  go_wp2_with fail
  refine wp_loop_rounds 1 ?_
  rw [rounds_succ]
  go_wp2_with fail
  refine (HO.out _ HS0.out.pat HO1.out).mono ?_
  rintro e w1 ⟨rfl, hb1⟩
  have HS1 := Hid.mk (HS0.out.keep hb1)
  clear hb1
  have HS2 : ∀ x, Hid (St2 w B so sc ws nb t o #[.int .i64 op, .int .i64 at_, .string tx, .int .i64 vk, .string nu, .string vt, .slice io iN ic, .slice yo yN yc, .slice no nN nc, .slice ko kN kc] (w1.alloc x)) := fun x => HS1.out.keep (below1 w1 _)
  have a0 : (∀ x, (w1.alloc x).cell? ⟨w.heap.size, 0, none⟩ = some (.int .i64 op)) ∧ (∀ x, (w1.alloc x).cell? ⟨w.heap.size, 1, none⟩ = some (.int .i64 at_)) ∧ (∀ x, (w1.alloc x).cell? ⟨w.heap.size, 2, none⟩ = some (.string tx)) ∧ (∀ x, (w1.alloc x).cell? ⟨w.heap.size, 3, none⟩ = some (.int .i64 vk)) ∧ (∀ x, (w1.alloc x).cell? ⟨w.heap.size, 4, none⟩ = some (.string nu)) ∧ (∀ x, (w1.alloc x).cell? ⟨w.heap.size, 5, none⟩ = some (.string vt)) ∧ (∀ x, (w1.alloc x).cell? ⟨w.heap.size, 6, none⟩ = some (.slice io iN ic)) ∧ (∀ x, (w1.alloc x).cell? ⟨w.heap.size, 7, none⟩ = some (.slice yo yN yc)) ∧ (∀ x, (w1.alloc x).cell? ⟨w.heap.size, 8, none⟩ = some (.slice no nN nc)) ∧ (∀ x, (w1.alloc x).cell? ⟨w.heap.size, 9, none⟩ = some (.slice ko kN kc)) := ⟨fun x => (nd_cells (HS2 x).out.box).1, fun x => (nd_cells (HS2 x).out.box).2.1, fun x => (nd_cells (HS2 x).out.box).2.2.1, fun x => (nd_cells (HS2 x).out.box).2.2.2.1, fun x => (nd_cells (HS2 x).out.box).2.2.2.2.1, fun x => (nd_cells (HS2 x).out.box).2.2.2.2.2.1, fun x => (nd_cells (HS2 x).out.box).2.2.2.2.2.2.1, fun x => (nd_cells (HS2 x).out.box).2.2.2.2.2.2.2.1, fun x => (nd_cells (HS2 x).out.box).2.2.2.2.2.2.2.2.1, fun x => (nd_cells (HS2 x).out.box).2.2.2.2.2.2.2.2.2⟩
  obtain ⟨b0, b1, b2, b3, b4, b5, b6, b7, b8, b9⟩ := a0
  go_wp2_with fail
  refine (HW.out _).mono ?_
  rintro e w3 ⟨rfl, hb3⟩
  have HS3 := Hid.mk ((HS2 _).out.keep hb3)
  clear hb3 HS2
  obtain ⟨n0, n1, n2, n3, n4, n5, n6, n7, n8, n9⟩ := nd_cells HS3.out.res
  obtain ⟨f0, f1, f2, f3, f4, f5, f6, f7, f8, f9⟩ := nd_frozen HS3.out.res
  go_wp2_with fail
  generalize hzZ : (((((((((w3.setCell ⟨w.heap.size + 1, 0, none⟩ (.int .i64 op)).setCell ⟨w.heap.size + 1, 1, none⟩ (.int .i64 at_)).setCell ⟨w.heap.size + 1, 2, none⟩ (.string tx)).setCell ⟨w.heap.size + 1, 3, none⟩ (.int .i64 vk)).setCell ⟨w.heap.size + 1, 4, none⟩ (.string nu)).setCell ⟨w.heap.size + 1, 5, none⟩ (.string vt)).setCell ⟨w.heap.size + 1, 6, none⟩ (.slice io iN ic)).setCell ⟨w.heap.size + 1, 7, none⟩ (.slice yo yN yc)).setCell ⟨w.heap.size + 1, 8, none⟩ (.slice no nN nc)).setCell ⟨w.heap.size + 1, 9, none⟩ (.slice ko kN kc) = WZ
  have PZ := nd_set HS3.out.res hzZ
  obtain ⟨m0, m1, m2, m3, m4, m5, m6, m7, m8, m9⟩ := nd_cells PZ.new
  refine bodyPost_ret (v := .agg #[.int .i64 op, .int .i64 at_, .string tx, .int .i64 vk, .string nu, .string vt, .slice io iN ic, .slice yo yN yc, .slice no nN nc, .slice ko kN kc]) (by simp [results, Tryz.results165, go_sem, m0, m1, m2, m3, m4, m5, m6, m7, m8, m9]) rfl ?_
  exact ⟨rfl, HS3.out.put HP.out PZ⟩

theorem nd_cellsA {w : World} {B : Nat} {t : TypeId} {y0 y1 y2 y3 y4 y5 y6 y7 y8 y9 : Value} (h : w.heap[B]? = some (.cells #[y0, y1, y2, y3, y4, y5, y6, y7, y8, y9] t (0, 0))) (hl : B < w.heap.size) :
    (∀ x, (w.alloc x).cell? ⟨B, 0, none⟩ = some y0) ∧ (∀ x, (w.alloc x).cell? ⟨B, 1, none⟩ = some y1) ∧ (∀ x, (w.alloc x).cell? ⟨B, 2, none⟩ = some y2) ∧ (∀ x, (w.alloc x).cell? ⟨B, 3, none⟩ = some y3) ∧ (∀ x, (w.alloc x).cell? ⟨B, 4, none⟩ = some y4) ∧ (∀ x, (w.alloc x).cell? ⟨B, 5, none⟩ = some y5) ∧ (∀ x, (w.alloc x).cell? ⟨B, 6, none⟩ = some y6) ∧ (∀ x, (w.alloc x).cell? ⟨B, 7, none⟩ = some y7) ∧ (∀ x, (w.alloc x).cell? ⟨B, 8, none⟩ = some y8) ∧ (∀ x, (w.alloc x).cell? ⟨B, 9, none⟩ = some y9) := by
  have h2 : ∀ x, (w.alloc x).heap[B]? = some (.cells #[y0, y1, y2, y3, y4, y5, y6, y7, y8, y9] t (0, 0)) := fun x => (Below.heap_alloc _ _ _ hl).trans h
  exact ⟨fun x => (nd_cells (h2 x)).1, fun x => (nd_cells (h2 x)).2.1, fun x => (nd_cells (h2 x)).2.2.1, fun x => (nd_cells (h2 x)).2.2.2.1, fun x => (nd_cells (h2 x)).2.2.2.2.1, fun x => (nd_cells (h2 x)).2.2.2.2.2.1, fun x => (nd_cells (h2 x)).2.2.2.2.2.2.1, fun x => (nd_cells (h2 x)).2.2.2.2.2.2.2.1, fun x => (nd_cells (h2 x)).2.2.2.2.2.2.2.2.1, fun x => (nd_cells (h2 x)).2.2.2.2.2.2.2.2.2⟩
theorem nd_frozenA {w : World} {B : Nat} {t : TypeId} {cs : Array Value} (h : w.heap[B]? = some (.cells cs t (0, 0))) (hl : B < w.heap.size) :
    (∀ x, (w.alloc x).frozen? ⟨B, 0, none⟩ = false) ∧ (∀ x, (w.alloc x).frozen? ⟨B, 1, none⟩ = false) ∧ (∀ x, (w.alloc x).frozen? ⟨B, 2, none⟩ = false) ∧ (∀ x, (w.alloc x).frozen? ⟨B, 3, none⟩ = false) ∧ (∀ x, (w.alloc x).frozen? ⟨B, 4, none⟩ = false) ∧ (∀ x, (w.alloc x).frozen? ⟨B, 5, none⟩ = false) ∧ (∀ x, (w.alloc x).frozen? ⟨B, 6, none⟩ = false) ∧ (∀ x, (w.alloc x).frozen? ⟨B, 7, none⟩ = false) ∧ (∀ x, (w.alloc x).frozen? ⟨B, 8, none⟩ = false) ∧ (∀ x, (w.alloc x).frozen? ⟨B, 9, none⟩ = false) := by
  have h2 : ∀ x, (w.alloc x).heap[B]? = some (.cells cs t (0, 0)) := fun x => (Below.heap_alloc _ _ _ hl).trans h
  exact ⟨fun x => frozen_rowT (h2 x), fun x => frozen_rowT (h2 x), fun x => frozen_rowT (h2 x), fun x => frozen_rowT (h2 x), fun x => frozen_rowT (h2 x), fun x => frozen_rowT (h2 x), fun x => frozen_rowT (h2 x), fun x => frozen_rowT (h2 x), fun x => frozen_rowT (h2 x), fun x => frozen_rowT (h2 x)⟩

theorem PAt.drew {W : World} {B : Nat} {so : Option Addr} {sc : Nat} {ws : List Tok} {nb t o : Nat} (h : PAt W B so sc ws nb t o) : PAt W.drew B so sc ws nb t o := h.keep (Below.refl _ _).drew
/-- a Pipe that waits for its right side -/
def pipD (a : Int) (g : Nat) : ND := ⟨12, a, 0, ⟨#[]⟩, ⟨#[]⟩, ⟨#[]⟩, none, none, none, some ⟨g, 0, none⟩, 0, 0, 0, 0, 0, 0, 1, 1⟩
def ND.c (d : ND) : Array Value := #[.int .i64 d.op, .int .i64 d.at_, .string d.tx, .int .i64 d.vk, .string d.nu, .string d.vt, .slice d.io d.iN d.ic, .slice d.yo d.yN d.yc, .slice d.no d.nN d.nc, .slice d.ko d.kN d.kc]
/-- .. with a box for the left side -/
structure St3 (w : World) (B : Nat) (so : Option Addr) (sc : Nat) (ws : List Tok) (nb t o : Nat) (L : Nat) (cs : Array Value) (W : World) : Prop where
  st : St w B so sc ws nb t o W
  ll : w.heap.size < L
  lt : L < W.heap.size
  box : W.heap[L]? = some (.cells cs 28 (0, 0))
theorem St3.new {w W : World} {B : Nat} {so : Option Addr} {sc : Nat} {ws : List Tok} {nb t o : Nat} (h : St w B so sc ws nb t o W) (cs : Array Value) : St3 w B so sc ws nb t o W.heap.size cs (W.alloc (.cells cs 28)) := ⟨h.alloc _, h.lt, by simp, heap_alloc_new W _⟩
theorem St3.keep {w W W' : World} {B : Nat} {so : Option Addr} {sc : Nat} {ws : List Tok} {nb t o : Nat} {L : Nat} {cs : Array Value} (h : St3 w B so sc ws nb t o L cs W) (hb : Below W.heap.size W W') : St3 w B so sc ws nb t o L cs W' := ⟨h.st.keep hb, h.ll, Nat.lt_of_lt_of_le h.lt hb.size, (hb.block _ h.lt).trans h.box⟩
theorem St3.step {w W W' : World} {B : Nat} {so : Option Addr} {sc : Nat} {ws : List Tok} {nb t o : Nat} {L : Nat} {cs : Array Value} {t' o' : Nat} (h : St3 w B so sc ws nb t o L cs W) (hB : B < w.heap.size) (hb : Bt B W W') (hp : PAt W' B so sc ws nb t' o') : St3 w B so sc ws nb t' o' L cs W' := ⟨h.st.step hB hb hp, h.ll, Nat.lt_of_lt_of_le h.lt hb.size, (hb.block _ h.lt (by have := h.ll; omega)).trans h.box⟩

set_option maxRecDepth 100000 in
set_option maxHeartbeats 3200000 in
theorem w_link0 {B : Nat} {so : Option Addr} {sc : Nat} {ws : List Tok} {nb t o : Nat} {t1 o1 : Nat} (d : ND) (w : World) (hP : PAt w B so sc ws nb t o) (hO : OpsIn w) (hBG : B ≠ 0) (h5 : syP ws t1 [124] = false) (h1 : syP ws t [100, 101, 102] = false) (h2 : syP ws t [108, 97, 98, 101, 108] = false) (h3 : syP ws t [45] = false) (h4 : syP ws t1 [97, 115] = false)
    (HU : Hid (∀ u, PAt u B so sc ws nb t o → Calls Tryz.prog 163 #[.pointer (some ⟨B, 0, none⟩)] u fun e w' => NdR B so sc ws nb u t1 o1 d e w'))
    (HO : Hid (∀ u, PAt u B so sc ws nb t1 o1 → OpsIn u → Calls Tryz.prog 182 #[.pointer (some ⟨B, 0, none⟩)] u fun e w' => e = .returned (opVl ([], 0, 0, 0)) ∧ Below u.heap.size u w')) :
    Calls Tryz.prog 131 #[.pointer (some ⟨B, 0, none⟩)] w fun e w' => e = .returned (.tuple #[d.v, .bool false]) ∧ Bt B w w' ∧ PAt w' B so sc ws nb t1 o1 := by
  have H1 : Hid (∀ u, PAt u B so sc ws nb (t) o → Calls Tryz.prog 160 #[.pointer (some ⟨B, 0, none⟩), .string ⟨#[100, 101, 102]⟩] u fun e w' => e = .returned (.bool false) ∧ Below u.heap.size u w') := fun u hu => by
    have := w_says [100, 101, 102] u hu
    rwa [h1] at this
  have H2 : Hid (∀ u, PAt u B so sc ws nb (t) o → Calls Tryz.prog 160 #[.pointer (some ⟨B, 0, none⟩), .string ⟨#[108, 97, 98, 101, 108]⟩] u fun e w' => e = .returned (.bool false) ∧ Below u.heap.size u w') := fun u hu => by
    have := w_says [108, 97, 98, 101, 108] u hu
    rwa [h2] at this
  have H3 : Hid (∀ u, PAt u B so sc ws nb (t) o → Calls Tryz.prog 160 #[.pointer (some ⟨B, 0, none⟩), .string ⟨#[45]⟩] u fun e w' => e = .returned (.bool false) ∧ Below u.heap.size u w') := fun u hu => by
    have := w_says [45] u hu
    rwa [h3] at this
  have H4 : Hid (∀ u, PAt u B so sc ws nb (t1) o1 → Calls Tryz.prog 160 #[.pointer (some ⟨B, 0, none⟩), .string ⟨#[97, 115]⟩] u fun e w' => e = .returned (.bool false) ∧ Below u.heap.size u w') := fun u hu => by
    have := w_says [97, 115] u hu
    rwa [h4] at this
  have H5 : Hid (∀ u, PAt u B so sc ws nb (t1) o1 → Calls Tryz.prog 160 #[.pointer (some ⟨B, 0, none⟩), .string ⟨#[124]⟩] u fun e w' => e = .returned (.bool false) ∧ Below u.heap.size u w') := fun u hu => by
    have := w_says [124] u hu
    rwa [h5] at this
  have hB := hP.lt
  have HP := Hid.mk hP
  have HS0 := Hid.mk (St.new hP)
  have hOl := hO.lt
  have HBe : Hid (∀ u, PAt u B so sc ws nb t1 o1 → OpsIn u → Calls Tryz.prog 165 #[.pointer (some ⟨B, 0, none⟩), d.v, .int .i64 1] u fun e w' => NdR B so sc ws nb u t1 o1 d e w') := fun u hu ho => w_behind0 d u hu ho HO
  have HOw : Hid (∀ u, Bt B w u → OpsIn u) := fun u hb => hO.bt hb hBG
  clear hP h1 h2 h3 h4 h5 hO HO
  unfold NdR at *
  obtain ⟨op, at_, vk, tx, nu, vt, io, yo, no, ko, iN, ic, yN, yc, nN, nc, kN, kc⟩ := d
  unfold ND.v at *
  dsimp only at *
  go_enter Tryz.func131, Tryz.ntmps131
  go_wp2_with fail
  refine (H1.out _ HS0.out.pat).mono ?_
  rintro e w1 ⟨rfl, hb1⟩
  have HS1 := Hid.mk (HS0.out.keep hb1)
  clear hb1
  go_wp2_with fail
  refine (H2.out _ HS1.out.pat).mono ?_
  rintro e w2 ⟨rfl, hb2⟩
  have HS2 := Hid.mk (HS1.out.keep hb2)
  clear hb2
  go_wp2_with fail
  refine (H3.out _ HS2.out.pat).mono ?_
  rintro e w3 ⟨rfl, hb3⟩
  have HS3 := Hid.mk (HS2.out.keep hb3)
  clear hb3
  go_wp2_with fail
  refine (HU.out _ HS3.out.pat).mono ?_
  rintro e w4 ⟨rfl, hb4, hp4⟩
  have HS4 := Hid.mk (HS3.out.step hB hb4 hp4)
  clear hb4 hp4
  obtain ⟨W5, hW5⟩ : ∃ W5, w4.alloc (.cells #[.int .i64 op, .int .i64 at_, .string tx, .int .i64 vk, .string nu, .string vt, .slice io iN ic, .slice yo yN yc, .slice no nN nc, .slice ko kN kc] 28) = W5 := ⟨_, rfl⟩
  have HS5 : Hid (St3 w B so sc ws nb t1 o1 w4.heap.size #[.int .i64 op, .int .i64 at_, .string tx, .int .i64 vk, .string nu, .string vt, .slice io iN ic, .slice yo yN yc, .slice no nN nc, .slice ko kN kc] W5) := by rw [← hW5]; exact St3.new HS4.out _
  go_wp2_with fail
  refine (H4.out _ HS5.out.st.pat).mono ?_
  rintro e w6 ⟨rfl, hb6⟩
  have HS6 := Hid.mk (HS5.out.keep hb6)
  clear hb6 hW5
  obtain ⟨b0, b1, b2, b3, b4, b5, b6, b7, b8, b9⟩ := nd_cells HS6.out.box
  go_wp2_with fail
  refine (HBe.out _ HS6.out.st.pat (HOw.out _ HS6.out.st.bt)).mono ?_
  rintro e w7 ⟨rfl, hb7, hp7⟩
  have HS7 := Hid.mk (HS6.out.st.step hB hb7 hp7)
  clear hb7 hp7 b0 b1 b2 b3 b4 b5 b6 b7 b8 b9
  obtain ⟨W8, hW8⟩ : ∃ W8, w7.alloc (.cells #[.int .i64 op, .int .i64 at_, .string tx, .int .i64 vk, .string nu, .string vt, .slice io iN ic, .slice yo yN yc, .slice no nN nc, .slice ko kN kc] 28) = W8 := ⟨_, rfl⟩
  have HS8 : Hid (St3 w B so sc ws nb t1 o1 w7.heap.size #[.int .i64 op, .int .i64 at_, .string tx, .int .i64 vk, .string nu, .string vt, .slice io iN ic, .slice yo yN yc, .slice no nN nc, .slice ko kN kc] W8) := by rw [← hW8]; exact St3.new HS7.out _
  go_wp2_with fail
  refine (H5.out _ HS8.out.st.pat).mono ?_
  rintro e w9 ⟨rfl, hb9⟩
  have HS9 := Hid.mk (HS8.out.keep hb9)
  clear hb9 hW8
  obtain ⟨b0, b1, b2, b3, b4, b5, b6, b7, b8, b9⟩ := nd_cells HS9.out.box
  obtain ⟨n0, n1, n2, n3, n4, n5, n6, n7, n8, n9⟩ := nd_cells HS9.out.st.res
  obtain ⟨f0, f1, f2, f3, f4, f5, f6, f7, f8, f9⟩ := nd_frozen HS9.out.st.res
  go_wp2_with fail
  generalize hzZ : (((((((((w9.setCell ⟨w.heap.size, 0, none⟩ (.int .i64 op)).setCell ⟨w.heap.size, 1, none⟩ (.int .i64 at_)).setCell ⟨w.heap.size, 2, none⟩ (.string tx)).setCell ⟨w.heap.size, 3, none⟩ (.int .i64 vk)).setCell ⟨w.heap.size, 4, none⟩ (.string nu)).setCell ⟨w.heap.size, 5, none⟩ (.string vt)).setCell ⟨w.heap.size, 6, none⟩ (.slice io iN ic)).setCell ⟨w.heap.size, 7, none⟩ (.slice yo yN yc)).setCell ⟨w.heap.size, 8, none⟩ (.slice no nN nc)).setCell ⟨w.heap.size, 9, none⟩ (.slice ko kN kc) = WZ
  have PZ := nd_set HS9.out.st.res hzZ
  obtain ⟨m0, m1, m2, m3, m4, m5, m6, m7, m8, m9⟩ := nd_cells PZ.new
  refine bodyPost_ret (v := .tuple #[.agg #[.int .i64 op, .int .i64 at_, .string tx, .int .i64 vk, .string nu, .string vt, .slice io iN ic, .slice yo yN yc, .slice no nN nc, .slice ko kN kc], .bool false]) (by simp [results, Tryz.results131, go_sem, m0, m1, m2, m3, m4, m5, m6, m7, m8, m9]) rfl ?_
  exact ⟨rfl, HS9.out.st.put HP.out PZ⟩

set_option maxRecDepth 100000 in
set_option maxHeartbeats 3200000 in
theorem w_link1 {B : Nat} {so : Option Addr} {sc : Nat} {ws : List Tok} {nb t o : Nat} {t1 o1 : Nat} (d : ND) (w : World) (hP : PAt w B so sc ws nb t o) (hO : OpsIn w) (hBG : B ≠ 0) (h5 : syP ws t1 [124] = true) (ht1 : t1 < ws.length) (h1 : syP ws t [100, 101, 102] = false) (h2 : syP ws t [108, 97, 98, 101, 108] = false) (h3 : syP ws t [45] = false) (h4 : syP ws t1 [97, 115] = false)
    (HU : Hid (∀ u, PAt u B so sc ws nb t o → Calls Tryz.prog 163 #[.pointer (some ⟨B, 0, none⟩)] u fun e w' => NdR B so sc ws nb u t1 o1 d e w'))
    (HO : Hid (∀ u, PAt u B so sc ws nb t1 o1 → OpsIn u → Calls Tryz.prog 182 #[.pointer (some ⟨B, 0, none⟩)] u fun e w' => e = .returned (opVl ([], 0, 0, 0)) ∧ Below u.heap.size u w')) :
    Calls Tryz.prog 131 #[.pointer (some ⟨B, 0, none⟩)] w fun e w' => ∃ g, e = .returned (.tuple #[(pipD ((hrP ws t1).at_ : Int) g).v, .bool true]) ∧ Bt B w w' ∧ PAt w' B so sc ws nb (t1 + 1) o1 ∧ w.heap.size ≤ g ∧ w'.heap[g]? = some (.cells d.c 28 (0, 0)) := by
  have HT : Hid (∀ u, PAt u B so sc ws nb t1 o1 → Calls Tryz.prog 166 #[.pointer (some ⟨B, 0, none⟩)] u fun e w' => e = .returned (tokV (hrP ws t1)) ∧ Bt B u w' ∧ PAt w' B so sc ws nb (t1 + 1) o1) := fun u hu => w_take u hu ht1
  have hfl := Tryz.fldT1
  have H1 : Hid (∀ u, PAt u B so sc ws nb (t) o → Calls Tryz.prog 160 #[.pointer (some ⟨B, 0, none⟩), .string ⟨#[100, 101, 102]⟩] u fun e w' => e = .returned (.bool false) ∧ Below u.heap.size u w') := fun u hu => by
    have := w_says [100, 101, 102] u hu
    rwa [h1] at this
  have H2 : Hid (∀ u, PAt u B so sc ws nb (t) o → Calls Tryz.prog 160 #[.pointer (some ⟨B, 0, none⟩), .string ⟨#[108, 97, 98, 101, 108]⟩] u fun e w' => e = .returned (.bool false) ∧ Below u.heap.size u w') := fun u hu => by
    have := w_says [108, 97, 98, 101, 108] u hu
    rwa [h2] at this
  have H3 : Hid (∀ u, PAt u B so sc ws nb (t) o → Calls Tryz.prog 160 #[.pointer (some ⟨B, 0, none⟩), .string ⟨#[45]⟩] u fun e w' => e = .returned (.bool false) ∧ Below u.heap.size u w') := fun u hu => by
    have := w_says [45] u hu
    rwa [h3] at this
  have H4 : Hid (∀ u, PAt u B so sc ws nb (t1) o1 → Calls Tryz.prog 160 #[.pointer (some ⟨B, 0, none⟩), .string ⟨#[97, 115]⟩] u fun e w' => e = .returned (.bool false) ∧ Below u.heap.size u w') := fun u hu => by
    have := w_says [97, 115] u hu
    rwa [h4] at this
  have H5 : Hid (∀ u, PAt u B so sc ws nb (t1) o1 → Calls Tryz.prog 160 #[.pointer (some ⟨B, 0, none⟩), .string ⟨#[124]⟩] u fun e w' => e = .returned (.bool true) ∧ Below u.heap.size u w') := fun u hu => by
    have := w_says [124] u hu
    rwa [h5] at this
  have hB := hP.lt
  have HP := Hid.mk hP
  have HS0 := Hid.mk (St.new hP)
  have hOl := hO.lt
  have HBe : Hid (∀ u, PAt u B so sc ws nb t1 o1 → OpsIn u → Calls Tryz.prog 165 #[.pointer (some ⟨B, 0, none⟩), d.v, .int .i64 1] u fun e w' => NdR B so sc ws nb u t1 o1 d e w') := fun u hu ho => w_behind0 d u hu ho HO
  have HOw : Hid (∀ u, Bt B w u → OpsIn u) := fun u hb => hO.bt hb hBG
  clear hP h1 h2 h3 h4 h5 hO HO
  unfold NdR at *
  unfold ND.c pipD
  obtain ⟨op, at_, vk, tx, nu, vt, io, yo, no, ko, iN, ic, yN, yc, nN, nc, kN, kc⟩ := d
  unfold ND.v at *
  dsimp only at *
  generalize hrP ws t1 = T at *
  obtain ⟨kd, pa, fi, tx', er⟩ := T
  unfold tokV at HT
  dsimp only at *
  go_enter Tryz.func131, Tryz.ntmps131
  go_wp2_with fail
  refine (H1.out _ HS0.out.pat).mono ?_
  rintro e w1 ⟨rfl, hb1⟩
  have HS1 := Hid.mk (HS0.out.keep hb1)
  clear hb1
  go_wp2_with fail
  refine (H2.out _ HS1.out.pat).mono ?_
  rintro e w2 ⟨rfl, hb2⟩
  have HS2 := Hid.mk (HS1.out.keep hb2)
  clear hb2
  go_wp2_with fail
  refine (H3.out _ HS2.out.pat).mono ?_
  rintro e w3 ⟨rfl, hb3⟩
  have HS3 := Hid.mk (HS2.out.keep hb3)
  clear hb3
  go_wp2_with fail
  refine (HU.out _ HS3.out.pat).mono ?_
  rintro e w4 ⟨rfl, hb4, hp4⟩
  have HS4 := Hid.mk (HS3.out.step hB hb4 hp4)
  clear hb4 hp4
  obtain ⟨W5, hW5⟩ : ∃ W5, w4.alloc (.cells #[.int .i64 op, .int .i64 at_, .string tx, .int .i64 vk, .string nu, .string vt, .slice io iN ic, .slice yo yN yc, .slice no nN nc, .slice ko kN kc] 28) = W5 := ⟨_, rfl⟩
  have HS5 : Hid (St3 w B so sc ws nb t1 o1 w4.heap.size #[.int .i64 op, .int .i64 at_, .string tx, .int .i64 vk, .string nu, .string vt, .slice io iN ic, .slice yo yN yc, .slice no nN nc, .slice ko kN kc] W5) := by rw [← hW5]; exact St3.new HS4.out _
  go_wp2_with fail
  refine (H4.out _ HS5.out.st.pat).mono ?_
  rintro e w6 ⟨rfl, hb6⟩
  have HS6 := Hid.mk (HS5.out.keep hb6)
  clear hb6 hW5
  obtain ⟨b0, b1, b2, b3, b4, b5, b6, b7, b8, b9⟩ := nd_cells HS6.out.box
  go_wp2_with fail
  refine (HBe.out _ HS6.out.st.pat (HOw.out _ HS6.out.st.bt)).mono ?_
  rintro e w7 ⟨rfl, hb7, hp7⟩
  have HS7 := Hid.mk (HS6.out.st.step hB hb7 hp7)
  clear hb7 hp7 b0 b1 b2 b3 b4 b5 b6 b7 b8 b9
  obtain ⟨W8, hW8⟩ : ∃ W8, w7.alloc (.cells #[.int .i64 op, .int .i64 at_, .string tx, .int .i64 vk, .string nu, .string vt, .slice io iN ic, .slice yo yN yc, .slice no nN nc, .slice ko kN kc] 28) = W8 := ⟨_, rfl⟩
  have HS8 : Hid (St3 w B so sc ws nb t1 o1 w7.heap.size #[.int .i64 op, .int .i64 at_, .string tx, .int .i64 vk, .string nu, .string vt, .slice io iN ic, .slice yo yN yc, .slice no nN nc, .slice ko kN kc] W8) := by rw [← hW8]; exact St3.new HS7.out _
  go_wp2_with fail
  refine (H5.out _ HS8.out.st.pat).mono ?_
  rintro e w9 ⟨rfl, hb9⟩
  have HS9 := Hid.mk (HS8.out.keep hb9)
  clear hb9 hW8
  obtain ⟨b0, b1, b2, b3, b4, b5, b6, b7, b8, b9⟩ := nd_cells HS9.out.box
  have HD : Hid (St3 w B so sc ws nb t1 o1 w7.heap.size #[.int .i64 op, .int .i64 at_, .string tx, .int .i64 vk, .string nu, .string vt, .slice io iN ic, .slice yo yN yc, .slice no nN nc, .slice ko kN kc] w9.drew) := HS9.out.keep (Below.refl _ _).drew
  have HA : ∀ x, Hid (St3 w B so sc ws nb t1 o1 w7.heap.size #[.int .i64 op, .int .i64 at_, .string tx, .int .i64 vk, .string nu, .string vt, .slice io iN ic, .slice yo yN yc, .slice no nN nc, .slice ko kN kc] (w9.alloc x).drew) := fun x => HS9.out.keep (below1 w9 _).drew
  go_wp2_with fail
  go_region_with (go_at_call 166; refine (HT.out _ (by first | exact HD.out.st.pat | exact (HA _).out.st.pat)).mono ?_; rintro e w10 ⟨rfl, hb10, hp10⟩; have HS10 : Hid (St3 w B so sc ws nb (t1 + 1) o1 w7.heap.size #[.int .i64 op, .int .i64 at_, .string tx, .int .i64 vk, .string nu, .string vt, .slice io iN ic, .slice yo yN yc, .slice no nN nc, .slice ko kN kc] w10) := (by first | exact HD.out.step hB hb10 hp10 | exact (HA _).out.step hB hb10 hp10); have HB10 := Hid.mk hb10; clear hb10 hp10; obtain ⟨l0, l1, l2, l3, l4, l5, l6, l7, l8, l9⟩ := nd_cells HS10.out.box; obtain ⟨n0, n1, n2, n3, n4, n5, n6, n7, n8, n9⟩ := nd_cells HS10.out.st.res; obtain ⟨f0, f1, f2, f3, f4, f5, f6, f7, f8, f9⟩ := nd_frozen HS10.out.st.res; obtain ⟨i0, i1, i2, i3, i4, i5, i6, i7, i8, i9⟩ := nd_cellsA HS10.out.st.res HS10.out.st.lt; obtain ⟨j0, j1, j2, j3, j4, j5, j6, j7, j8, j9⟩ := nd_frozenA HS10.out.st.res HS10.out.st.lt)
  all_goals go_wp2_with fail
  rotate_left 2
  · generalize hzZ : (((((((((w10.setCell ⟨w.heap.size, 0, none⟩ (.int .i64 12)).setCell ⟨w.heap.size, 1, none⟩ (.int .i64 (pa : Int))).setCell ⟨w.heap.size, 2, none⟩ (.string ⟨#[]⟩)).setCell ⟨w.heap.size, 3, none⟩ (.int .i64 0)).setCell ⟨w.heap.size, 4, none⟩ (.string ⟨#[]⟩)).setCell ⟨w.heap.size, 5, none⟩ (.string ⟨#[]⟩)).setCell ⟨w.heap.size, 6, none⟩ (.slice none 0 0)).setCell ⟨w.heap.size, 7, none⟩ (.slice none 0 0)).setCell ⟨w.heap.size, 8, none⟩ (.slice none 0 0)).setCell ⟨w.heap.size, 9, none⟩ (.slice (some ⟨w9.heap.size, 0, none⟩) 1 1) = WZ
    have PZ := nd_set HS10.out.st.res hzZ
    obtain ⟨m0, m1, m2, m3, m4, m5, m6, m7, m8, m9⟩ := nd_cells PZ.new
    refine bodyPost_ret (v := .tuple #[.agg #[.int .i64 12, .int .i64 (pa : Int), .string ⟨#[]⟩, .int .i64 0, .string ⟨#[]⟩, .string ⟨#[]⟩, .slice none 0 0, .slice none 0 0, .slice none 0 0, .slice (some ⟨w9.heap.size, 0, none⟩) 1 1], .bool true]) (by simp [results, Tryz.results131, go_sem, m0, m1, m2, m3, m4, m5, m6, m7, m8, m9]) rfl ?_
    have hgl := HS9.out.st.lt
    have hgf : w10.heap[w9.heap.size]? = some (.cells #[.int .i64 op, .int .i64 at_, .string tx, .int .i64 vk, .string nu, .string vt, .slice io iN ic, .slice yo yN yc, .slice no nN nc, .slice ko kN kc] 28 (0, 0)) := (HB10.out.block w9.heap.size (by simp) (by have := HS9.out.st.bt.size; omega)).trans (heap_alloc_new w9 _)
    obtain ⟨hbt, hpt⟩ := HS10.out.st.put HP.out PZ
    exact ⟨w9.heap.size, rfl, hbt, hpt, Nat.le_of_lt hgl, (PZ.rest _ (by omega)).trans hgf⟩
  all_goals
    generalize hW11 : w10.alloc _ = W11
    have HS11 : Hid (St3 w B so sc ws nb (t1 + 1) o1 w7.heap.size #[.int .i64 op, .int .i64 at_, .string tx, .int .i64 vk, .string nu, .string vt, .slice io iN ic, .slice yo yN yc, .slice no nN nc, .slice ko kN kc] W11) := by rw [← hW11]; exact HS10.out.keep (below1 w10 _)
    have hg11 : W11.heap[w10.heap.size]? = some (.cells #[.int .i64 op, .int .i64 at_, .string tx, .int .i64 vk, .string nu, .string vt, .slice io iN ic, .slice yo yN yc, .slice no nN nc, .slice ko kN kc] 28 (0, 0)) := by rw [← hW11]; exact heap_alloc_new w10 _
    generalize hzZ : (((((((((W11.setCell ⟨w.heap.size, 0, none⟩ (.int .i64 12)).setCell ⟨w.heap.size, 1, none⟩ (.int .i64 (pa : Int))).setCell ⟨w.heap.size, 2, none⟩ (.string ⟨#[]⟩)).setCell ⟨w.heap.size, 3, none⟩ (.int .i64 0)).setCell ⟨w.heap.size, 4, none⟩ (.string ⟨#[]⟩)).setCell ⟨w.heap.size, 5, none⟩ (.string ⟨#[]⟩)).setCell ⟨w.heap.size, 6, none⟩ (.slice none 0 0)).setCell ⟨w.heap.size, 7, none⟩ (.slice none 0 0)).setCell ⟨w.heap.size, 8, none⟩ (.slice none 0 0)).setCell ⟨w.heap.size, 9, none⟩ (.slice (some ⟨w10.heap.size, 0, none⟩) 1 1) = WZ
    have PZ := nd_set HS11.out.st.res hzZ
    obtain ⟨m0, m1, m2, m3, m4, m5, m6, m7, m8, m9⟩ := nd_cells PZ.new
    refine bodyPost_ret (v := .tuple #[.agg #[.int .i64 12, .int .i64 (pa : Int), .string ⟨#[]⟩, .int .i64 0, .string ⟨#[]⟩, .string ⟨#[]⟩, .slice none 0 0, .slice none 0 0, .slice none 0 0, .slice (some ⟨w10.heap.size, 0, none⟩) 1 1], .bool true]) (by simp [results, Tryz.results131, go_sem, m0, m1, m2, m3, m4, m5, m6, m7, m8, m9]) rfl ?_
    have hgl := HS10.out.st.lt
    have hgf : W11.heap[w10.heap.size]? = some (.cells #[.int .i64 op, .int .i64 at_, .string tx, .int .i64 vk, .string nu, .string vt, .slice io iN ic, .slice yo yN yc, .slice no nN nc, .slice ko kN kc] 28 (0, 0)) := hg11
    obtain ⟨hbt, hpt⟩ := HS11.out.st.put HP.out PZ
    exact ⟨w10.heap.size, rfl, hbt, hpt, Nat.le_of_lt hgl, (PZ.rest _ (by omega)).trans hgf⟩


end Go.Proofs.YtdmkfdaddacdhaaGreatDoor
