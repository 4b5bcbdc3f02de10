import Derived.Test.YtdmkfdaddacdhaaGreatDoorM24
import Derived.LoopN
namespace Go.Proofs.YtdmkfdaddacdhaaGreatDoor
open Go.RowKit Go.Shelf
set_option linter.unusedVariables false
set_option linter.unusedSimpArgs false
attribute [local go_sem] Oper.semAt_some

theorem Tryz.fldT3 (x0 x1 x2 x3 : Value) (w : World) : (Instr.field 42 (.agg #[x0, x1, x2, x3]) 3).run Tryz.prog w = .ok x3 w := by kernel_rfl
set_option maxRecDepth 100000 in
set_option maxHeartbeats 3200000 in
theorem w_marked1 {B : Nat} {so : Option Addr} {sc : Nat} {ws : List Tok} {nb t o : Nat} {t1 o1 : Nat} (d : ND) (w : World) (hP : PAt w B so sc ws nb t o) (hx : (hrP ws t).text = [46])
    (HC : Hid (∀ u, PAt u B so sc ws nb t o → Calls Tryz.prog 226 #[.pointer (some ⟨B, 0, none⟩)] u fun e w' => NdR B so sc ws nb u t1 o1 d e w')) :
    Calls Tryz.prog 211 #[.pointer (some ⟨B, 0, none⟩)] w fun e w' => NdR B so sc ws nb w t1 o1 d e w' := by
  have hB := hP.lt
  have HP := Hid.mk hP
  have HS0 := Hid.mk (St.new hP)
  have HH : Hid (∀ u, PAt u B so sc ws nb t o → Calls Tryz.prog 133 #[.pointer (some ⟨B, 0, none⟩)] u fun e w' => e = .returned (tokV (hrP ws t)) ∧ Below u.heap.size u w') := fun u hu => w_here u hu
  have hfl := Tryz.fldT3
  clear hP
  generalize hrP ws t = T at *
  obtain ⟨kd, pa, fi, tx', er⟩ := T
  unfold tokV at HH
  dsimp only at *
  subst hx
  go_enter Tryz.func211, Tryz.ntmps211
  go_wp2_with fail
  refine (HH.out _ HS0.out.pat).mono ?_
  rintro e w1 ⟨rfl, hb1⟩
  have HS1 := Hid.mk (HS0.out.keep hb1)
  clear hb1
  go_wp2_with fail
  refine (HC.out _ HS1.out.pat).mono ?_
  rintro e w2 ⟨rfl, hb2, hp2⟩
  have HS2 := Hid.mk (HS1.out.step hB hb2 hp2)
  clear hb2 hp2
  obtain ⟨n0, n1, n2, n3, n4, n5, n6, n7, n8, n9⟩ := nd_cells HS2.out.res
  obtain ⟨f0, f1, f2, f3, f4, f5, f6, f7, f8, f9⟩ := nd_frozen HS2.out.res
  obtain ⟨op, at_, vk, tx, nu, vt, io, yo, no, ko, iN, ic, yN, yc, nN, nc, kN, kc⟩ := d
  unfold ND.v
  dsimp only
  go_wp2_with fail
  generalize hzZ : (((((((((w2.setCell ⟨w.heap.size, 0, none⟩ (.int .i64 op)).setCell ⟨w.heap.size, 1, none⟩ (.int .i64 at_)).setCell ⟨w.heap.size, 2, none⟩ (.string tx)).setCell ⟨w.heap.size, 3, none⟩ (.int .i64 vk)).setCell ⟨w.heap.size, 4, none⟩ (.string nu)).setCell ⟨w.heap.size, 5, none⟩ (.string vt)).setCell ⟨w.heap.size, 6, none⟩ (.slice io iN ic)).setCell ⟨w.heap.size, 7, none⟩ (.slice yo yN yc)).setCell ⟨w.heap.size, 8, none⟩ (.slice no nN nc)).setCell ⟨w.heap.size, 9, none⟩ (.slice ko kN kc) = WZ
  have PZ := nd_set HS2.out.res hzZ
  obtain ⟨m0, m1, m2, m3, m4, m5, m6, m7, m8, m9⟩ := nd_cells PZ.new
  refine bodyPost_ret (v := .agg #[.int .i64 op, .int .i64 at_, .string tx, .int .i64 vk, .string nu, .string vt, .slice io iN ic, .slice yo yN yc, .slice no nN nc, .slice ko kN kc]) (by simp [results, Tryz.results211, go_sem, m0, m1, m2, m3, m4, m5, m6, m7, m8, m9]) rfl ?_
  exact ⟨rfl, HS2.out.put HP.out PZ⟩

set_option maxRecDepth 100000 in
set_option maxHeartbeats 3200000 in
theorem w_term10 {B : Nat} {so : Option Addr} {sc : Nat} {ws : List Tok} {nb t o : Nat} {t1 o1 : Nat} (d : ND) (w : World) (hP : PAt w B so sc ws nb t o) (hk : (hrP ws t).kind = 10)
    (HC : Hid (∀ u, PAt u B so sc ws nb t o → Calls Tryz.prog 211 #[.pointer (some ⟨B, 0, none⟩)] u fun e w' => NdR B so sc ws nb u t1 o1 d e w')) :
    Calls Tryz.prog 199 #[.pointer (some ⟨B, 0, none⟩)] w fun e w' => NdR B so sc ws nb w t1 o1 d e w' := by
  have hB := hP.lt
  have HP := Hid.mk hP
  have HS0 := Hid.mk (St.new hP)
  have HH : Hid (∀ u, PAt u B so sc ws nb t o → Calls Tryz.prog 133 #[.pointer (some ⟨B, 0, none⟩)] u fun e w' => e = .returned (tokV (hrP ws t)) ∧ Below u.heap.size u w') := fun u hu => w_here u hu
  have hfl := Tryz.fldT0
  clear hP
  generalize hrP ws t = T at *
  obtain ⟨kd, pa, fi, tx', er⟩ := T
  unfold tokV at HH
  dsimp only at *
  subst hk
  go_enter Tryz.func199, Tryz.ntmps199
  go_wp2_with fail
  refine (HH.out _ HS0.out.pat).mono ?_
  rintro e w1 ⟨rfl, hb1⟩
  have HS1 := Hid.mk (HS0.out.keep hb1)
  clear hb1
  go_wp2_with fail
  refine (HC.out _ HS1.out.pat).mono ?_
  rintro e w2 ⟨rfl, hb2, hp2⟩
  have HS2 := Hid.mk (HS1.out.step hB hb2 hp2)
  clear hb2 hp2
  obtain ⟨n0, n1, n2, n3, n4, n5, n6, n7, n8, n9⟩ := nd_cells HS2.out.res
  obtain ⟨f0, f1, f2, f3, f4, f5, f6, f7, f8, f9⟩ := nd_frozen HS2.out.res
  obtain ⟨op, at_, vk, tx, nu, vt, io, yo, no, ko, iN, ic, yN, yc, nN, nc, kN, kc⟩ := d
  unfold ND.v
  dsimp only
  go_wp2_with fail
  generalize hzZ : (((((((((w2.setCell ⟨w.heap.size, 0, none⟩ (.int .i64 op)).setCell ⟨w.heap.size, 1, none⟩ (.int .i64 at_)).setCell ⟨w.heap.size, 2, none⟩ (.string tx)).setCell ⟨w.heap.size, 3, none⟩ (.int .i64 vk)).setCell ⟨w.heap.size, 4, none⟩ (.string nu)).setCell ⟨w.heap.size, 5, none⟩ (.string vt)).setCell ⟨w.heap.size, 6, none⟩ (.slice io iN ic)).setCell ⟨w.heap.size, 7, none⟩ (.slice yo yN yc)).setCell ⟨w.heap.size, 8, none⟩ (.slice no nN nc)).setCell ⟨w.heap.size, 9, none⟩ (.slice ko kN kc) = WZ
  have PZ := nd_set HS2.out.res hzZ
  obtain ⟨m0, m1, m2, m3, m4, m5, m6, m7, m8, m9⟩ := nd_cells PZ.new
  refine bodyPost_ret (v := .agg #[.int .i64 op, .int .i64 at_, .string tx, .int .i64 vk, .string nu, .string vt, .slice io iN ic, .slice yo yN yc, .slice no nN nc, .slice ko kN kc]) (by simp [results, Tryz.results199, go_sem, m0, m1, m2, m3, m4, m5, m6, m7, m8, m9]) rfl ?_
  exact ⟨rfl, HS2.out.put HP.out PZ⟩

set_option maxRecDepth 100000 in
set_option maxHeartbeats 3200000 in
theorem w_term5 {B : Nat} {so : Option Addr} {sc : Nat} {ws : List Tok} {nb t o : Nat} (w : World) (hP : PAt w B so sc ws nb t o) (ht : t < ws.length) (hk : (hrP ws t).kind = 5) :
    Calls Tryz.prog 199 #[.pointer (some ⟨B, 0, none⟩)] w fun e w' => NdR B so sc ws nb w (t + 1) o (fvD 2 ((hrP ws t).at_ : Int) 3 ⟨(hrP ws t).text.toArray⟩) e w' := by
  have hB := hP.lt
  have HP := Hid.mk hP
  have HS0 := Hid.mk (St.new hP)
  have HH : Hid (∀ u, PAt u B so sc ws nb t o → Calls Tryz.prog 133 #[.pointer (some ⟨B, 0, none⟩)] u fun e w' => e = .returned (tokV (hrP ws t)) ∧ Below u.heap.size u w') := fun u hu => w_here u hu
  have HT : Hid (∀ u, PAt u B so sc ws nb t o → Calls Tryz.prog 166 #[.pointer (some ⟨B, 0, none⟩)] u fun e w' => e = .returned (tokV (hrP ws t)) ∧ Bt B u w' ∧ PAt w' B so sc ws nb (t + 1) o) := fun u hu => w_take u hu ht
  have hfl := Tryz.fldT0
  clear hP
  generalize hrP ws t = T at *
  obtain ⟨kd, pa, fi, tx', er⟩ := T
  unfold tokV at HH HT
  dsimp only at *
  subst hk
  go_enter Tryz.func199, Tryz.ntmps199
  go_wp2_with fail
  refine (HH.out _ HS0.out.pat).mono ?_
  rintro e w1 ⟨rfl, hb1⟩
  have HS1 := Hid.mk (HS0.out.keep hb1)
  clear hb1
  go_wp2_with fail
  refine (HT.out _ HS1.out.pat).mono ?_
  rintro e w2 ⟨rfl, hb2, hp2⟩
  have HS2 := Hid.mk (HS1.out.step hB hb2 hp2)
  clear hb2 hp2
  go_wp2_with fail
  refine (w_constN (pa : Int) ⟨tx'.toArray⟩ _).mono ?_
  rintro e w3 ⟨rfl, hb3⟩
  have HS3 := Hid.mk ((HS2.out.alloc _).keep hb3)
  clear hb3
  obtain ⟨n0, n1, n2, n3, n4, n5, n6, n7, n8, n9⟩ := nd_cells HS3.out.res
  obtain ⟨f0, f1, f2, f3, f4, f5, f6, f7, f8, f9⟩ := nd_frozen HS3.out.res
  unfold ND.v fvD
  dsimp only
  go_wp2_with fail
  generalize hzZ : (((((((((w3.setCell ⟨w.heap.size, 0, none⟩ (.int .i64 2)).setCell ⟨w.heap.size, 1, none⟩ (.int .i64 (pa : Int))).setCell ⟨w.heap.size, 2, none⟩ (.string ⟨#[]⟩)).setCell ⟨w.heap.size, 3, none⟩ (.int .i64 3)).setCell ⟨w.heap.size, 4, none⟩ (.string ⟨tx'.toArray⟩)).setCell ⟨w.heap.size, 5, none⟩ (.string ⟨#[]⟩)).setCell ⟨w.heap.size, 6, none⟩ (.slice none 0 0)).setCell ⟨w.heap.size, 7, none⟩ (.slice none 0 0)).setCell ⟨w.heap.size, 8, none⟩ (.slice none 0 0)).setCell ⟨w.heap.size, 9, none⟩ (.slice none 0 0) = WZ
  have PZ := nd_set HS3.out.res hzZ
  obtain ⟨m0, m1, m2, m3, m4, m5, m6, m7, m8, m9⟩ := nd_cells PZ.new
  refine bodyPost_ret (v := .agg #[.int .i64 2, .int .i64 (pa : Int), .string ⟨#[]⟩, .int .i64 3, .string ⟨tx'.toArray⟩, .string ⟨#[]⟩, .slice none 0 0, .slice none 0 0, .slice none 0 0, .slice none 0 0]) (by simp [results, Tryz.results199, go_sem, m0, m1, m2, m3, m4, m5, m6, m7, m8, m9]) rfl ?_
  exact ⟨rfl, HS3.out.put HP.out PZ⟩

end Go.Proofs.YtdmkfdaddacdhaaGreatDoor
namespace Go.Proofs.YtdmkfdaddacdhaaGreatDoor
open Go.RowKit Go.Shelf
set_option linter.unusedVariables false
set_option linter.unusedSimpArgs false
attribute [local go_sem] Oper.semAt_some

def opTab : List (List UInt8 × Nat × Nat × Nat) := [([44], 13, 1, 0), ([61], 36, 2, 2), ([124, 61], 37, 2, 2), ([43, 61], 38, 2, 2), ([45, 61], 39, 2, 2), ([42, 61], 40, 2, 2), ([47, 61], 41, 2, 2), ([37, 61], 42, 2, 2), ([47, 47, 61], 43, 2, 2), ([47, 47], 27, 3, 1), ([111, 114], 26, 4, 0), ([97, 110, 100], 25, 5, 0), ([61, 61], 19, 6, 2), ([33, 61], 20, 6, 2), ([60], 21, 6, 2), ([60, 61], 22, 6, 2), ([62], 23, 6, 2), ([62, 61], 24, 6, 2), ([43], 14, 7, 0), ([45], 15, 7, 0), ([42], 16, 8, 0), ([47], 17, 8, 0), ([37], 18, 8, 0)]
/-- the operation that a word stands for -/
def opOf (x : Tok) : List UInt8 × Nat × Nat × Nat := if x.kind = 10 ∨ x.kind = 2 then (opTab.find? (fun r => r.1 == x.text)).getD ([], 0, 0, 0) else ([], 0, 0, 0)
def opVl (r : List UInt8 × Nat × Nat × Nat) : Value := .agg #[.string ⟨r.1.toArray⟩, .int .i64 (r.2.1 : Int), .int .i64 (r.2.2.1 : Int), .int .i64 (r.2.2.2 : Int)]
/-- the table as it is laid -/
def opsA : Array Value := (opTab.flatMap fun r => [.string ⟨r.1.toArray⟩, .int .i64 (r.2.1 : Int), .int .i64 (r.2.2.1 : Int), .int .i64 (r.2.2.2 : Int)]).toArray
def OpsIn (w : World) : Prop := ∃ t, w.heap[(0 : Nat)]? = some (.cells opsA t (0, 0))
theorem OpsIn.lt {w : World} (h : OpsIn w) : 0 < w.heap.size := by
  obtain ⟨t, h⟩ := h
  exact (Array.getElem?_eq_some_iff.1 h).1
theorem OpsIn.keep {w w' : World} (h : OpsIn w) (hb : Below w.heap.size w w') : OpsIn w' := by
  have hl := h.lt
  obtain ⟨t, h⟩ := h
  exact ⟨t, (hb.block _ hl).trans h⟩
theorem OpsIn.bt {B : Nat} {w w' : World} (h : OpsIn w) (hb : Bt B w w') (hB : B ≠ 0) : OpsIn w' := by
  have hl := h.lt
  obtain ⟨t, h⟩ := h
  exact ⟨t, (hb.block _ hl (fun e => hB e.symm)).trans h⟩
theorem opsSize : (Tryz.prog.info? 162).map (·.size) = some opsA.size := by kernel_rfl
theorem Tryz.opsAt0 (u : World) : (Instr.index 162 (.agg opsA) (.int .i64 0)).run Tryz.prog u = .ok (.agg #[.string ⟨#[44]⟩, .int .i64 13, .int .i64 1, .int .i64 0]) u := by kernel_rfl
theorem Tryz.opsAt1 (u : World) : (Instr.index 162 (.agg opsA) (.int .i64 1)).run Tryz.prog u = .ok (.agg #[.string ⟨#[61]⟩, .int .i64 36, .int .i64 2, .int .i64 2]) u := by kernel_rfl
theorem Tryz.opsAt2 (u : World) : (Instr.index 162 (.agg opsA) (.int .i64 2)).run Tryz.prog u = .ok (.agg #[.string ⟨#[124, 61]⟩, .int .i64 37, .int .i64 2, .int .i64 2]) u := by kernel_rfl
theorem Tryz.opsAt3 (u : World) : (Instr.index 162 (.agg opsA) (.int .i64 3)).run Tryz.prog u = .ok (.agg #[.string ⟨#[43, 61]⟩, .int .i64 38, .int .i64 2, .int .i64 2]) u := by kernel_rfl
theorem Tryz.opsAt4 (u : World) : (Instr.index 162 (.agg opsA) (.int .i64 4)).run Tryz.prog u = .ok (.agg #[.string ⟨#[45, 61]⟩, .int .i64 39, .int .i64 2, .int .i64 2]) u := by kernel_rfl
theorem Tryz.opsAt5 (u : World) : (Instr.index 162 (.agg opsA) (.int .i64 5)).run Tryz.prog u = .ok (.agg #[.string ⟨#[42, 61]⟩, .int .i64 40, .int .i64 2, .int .i64 2]) u := by kernel_rfl
theorem Tryz.opsAt6 (u : World) : (Instr.index 162 (.agg opsA) (.int .i64 6)).run Tryz.prog u = .ok (.agg #[.string ⟨#[47, 61]⟩, .int .i64 41, .int .i64 2, .int .i64 2]) u := by kernel_rfl
theorem Tryz.opsAt7 (u : World) : (Instr.index 162 (.agg opsA) (.int .i64 7)).run Tryz.prog u = .ok (.agg #[.string ⟨#[37, 61]⟩, .int .i64 42, .int .i64 2, .int .i64 2]) u := by kernel_rfl
theorem Tryz.opsAt8 (u : World) : (Instr.index 162 (.agg opsA) (.int .i64 8)).run Tryz.prog u = .ok (.agg #[.string ⟨#[47, 47, 61]⟩, .int .i64 43, .int .i64 2, .int .i64 2]) u := by kernel_rfl
theorem Tryz.opsAt9 (u : World) : (Instr.index 162 (.agg opsA) (.int .i64 9)).run Tryz.prog u = .ok (.agg #[.string ⟨#[47, 47]⟩, .int .i64 27, .int .i64 3, .int .i64 1]) u := by kernel_rfl
theorem Tryz.opsAt10 (u : World) : (Instr.index 162 (.agg opsA) (.int .i64 10)).run Tryz.prog u = .ok (.agg #[.string ⟨#[111, 114]⟩, .int .i64 26, .int .i64 4, .int .i64 0]) u := by kernel_rfl
theorem Tryz.opsAt11 (u : World) : (Instr.index 162 (.agg opsA) (.int .i64 11)).run Tryz.prog u = .ok (.agg #[.string ⟨#[97, 110, 100]⟩, .int .i64 25, .int .i64 5, .int .i64 0]) u := by kernel_rfl
theorem Tryz.opsAt12 (u : World) : (Instr.index 162 (.agg opsA) (.int .i64 12)).run Tryz.prog u = .ok (.agg #[.string ⟨#[61, 61]⟩, .int .i64 19, .int .i64 6, .int .i64 2]) u := by kernel_rfl
theorem Tryz.opsAt13 (u : World) : (Instr.index 162 (.agg opsA) (.int .i64 13)).run Tryz.prog u = .ok (.agg #[.string ⟨#[33, 61]⟩, .int .i64 20, .int .i64 6, .int .i64 2]) u := by kernel_rfl
theorem Tryz.opsAt14 (u : World) : (Instr.index 162 (.agg opsA) (.int .i64 14)).run Tryz.prog u = .ok (.agg #[.string ⟨#[60]⟩, .int .i64 21, .int .i64 6, .int .i64 2]) u := by kernel_rfl
theorem Tryz.opsAt15 (u : World) : (Instr.index 162 (.agg opsA) (.int .i64 15)).run Tryz.prog u = .ok (.agg #[.string ⟨#[60, 61]⟩, .int .i64 22, .int .i64 6, .int .i64 2]) u := by kernel_rfl
theorem Tryz.opsAt16 (u : World) : (Instr.index 162 (.agg opsA) (.int .i64 16)).run Tryz.prog u = .ok (.agg #[.string ⟨#[62]⟩, .int .i64 23, .int .i64 6, .int .i64 2]) u := by kernel_rfl
theorem Tryz.opsAt17 (u : World) : (Instr.index 162 (.agg opsA) (.int .i64 17)).run Tryz.prog u = .ok (.agg #[.string ⟨#[62, 61]⟩, .int .i64 24, .int .i64 6, .int .i64 2]) u := by kernel_rfl
theorem Tryz.opsAt18 (u : World) : (Instr.index 162 (.agg opsA) (.int .i64 18)).run Tryz.prog u = .ok (.agg #[.string ⟨#[43]⟩, .int .i64 14, .int .i64 7, .int .i64 0]) u := by kernel_rfl
theorem Tryz.opsAt19 (u : World) : (Instr.index 162 (.agg opsA) (.int .i64 19)).run Tryz.prog u = .ok (.agg #[.string ⟨#[45]⟩, .int .i64 15, .int .i64 7, .int .i64 0]) u := by kernel_rfl
theorem Tryz.opsAt20 (u : World) : (Instr.index 162 (.agg opsA) (.int .i64 20)).run Tryz.prog u = .ok (.agg #[.string ⟨#[42]⟩, .int .i64 16, .int .i64 8, .int .i64 0]) u := by kernel_rfl
theorem Tryz.opsAt21 (u : World) : (Instr.index 162 (.agg opsA) (.int .i64 21)).run Tryz.prog u = .ok (.agg #[.string ⟨#[47]⟩, .int .i64 17, .int .i64 8, .int .i64 0]) u := by kernel_rfl
theorem Tryz.opsAt22 (u : World) : (Instr.index 162 (.agg opsA) (.int .i64 22)).run Tryz.prog u = .ok (.agg #[.string ⟨#[37]⟩, .int .i64 18, .int .i64 8, .int .i64 0]) u := by kernel_rfl

/-- the world on its way through the table -/
structure OpS (w : World) (X : Nat) (kd pa fi : Nat) (tx : List UInt8) (W : World) : Prop where
  below : Below w.heap.size w W
  lt : w.heap.size < X
  xl : X < W.heap.size
  res : W.heap[w.heap.size]? = some (.cells #[.string ⟨#[]⟩, .int .i64 0, .int .i64 0, .int .i64 0] 152 (0, 0))
  box : W.heap[X]? = some (.cells #[.int .i64 (kd : Int), .int .i64 (pa : Int), .int .i64 (fi : Int), .string ⟨tx.toArray⟩] 42 (0, 0))
theorem OpS.alloc {w : World} {X kd pa fi : Nat} {tx : List UInt8} {W : World} (h : OpS w X kd pa fi tx W) (o : Obj) : OpS w X kd pa fi tx (W.alloc o) := by
  have h1 := h.below.size
  have h2 := h.xl
  have h3 := h.lt
  exact ⟨h.below.alloc h1 o, h.lt, by simp; omega, (Below.heap_alloc _ _ _ (by omega)).trans h.res, (Below.heap_alloc _ _ _ h2).trans h.box⟩

set_option maxRecDepth 100000 in
set_option maxHeartbeats 3200000 in
theorem w_opNo {B : Nat} {so : Option Addr} {sc : Nat} {ws : List Tok} {nb t o : Nat} (w : World) (hP : PAt w B so sc ws nb t o) (h1 : (hrP ws t).kind ≠ 10) (h2 : (hrP ws t).kind ≠ 2) :
    Calls Tryz.prog 182 #[.pointer (some ⟨B, 0, none⟩)] w fun e w' => e = .returned (opVl (opOf (hrP ws t))) ∧ Below w.heap.size w w' := by
  have hB := hP.lt
  have HH : Hid (∀ u, Below w.heap.size w u → Calls Tryz.prog 133 #[.pointer (some ⟨B, 0, none⟩)] u fun e w' => e = .returned (tokV (hrP ws t)) ∧ Below u.heap.size u w') := hereC hP
  have hr : opOf (hrP ws t) = ([], 0, 0, 0) := by unfold opOf; rw [if_neg (by omega)]
  rw [hr]
  clear hP hr
  generalize hrP ws t = T at *
  obtain ⟨kd, pa, fi, tx, er⟩ := T
  unfold tokV at HH
  dsimp only at *
  have g1 : ((kd : Int) == 10) = false := by rw [beq_eq_false_iff_ne]; omega
  have g2 : ((kd : Int) == 2) = false := by rw [beq_eq_false_iff_ne]; omega
  go_enter Tryz.func182, Tryz.ntmps182
  go_wp2_with fail
  refine (HH.out _ (below1 w _)).mono ?_
  rintro e w1 ⟨rfl, hb⟩
  have hb1 : Below (w.heap.size + 1) (w.alloc (.cells #[.string ⟨#[]⟩, .int .i64 0, .int .i64 0, .int .i64 0] 152)) w1 := by simpa using hb
  have q1 := (hb1.block w.heap.size (by omega)).trans (heap_alloc_new w _)
  have s1 : w.heap.size + 1 ≤ w1.heap.size := by simpa using hb1.size
  obtain ⟨W2, hW2⟩ : ∃ W2, w1.alloc (.cells #[.int .i64 (kd : Int), .int .i64 (pa : Int), .int .i64 (fi : Int), .string ⟨tx.toArray⟩] 42) = W2 := ⟨_, rfl⟩
  have HO : Hid (OpS w w1.heap.size kd pa fi tx W2) := by
    rw [← hW2]
    exact ⟨((below1 w _).trans (hb1.mono (by omega))).alloc (by omega) _, by omega, by simp, (Below.heap_alloc _ _ _ (by omega)).trans q1, heap_alloc_new w1 _⟩
  obtain ⟨x0, x1, x2, x3, _⟩ := tbox_cells HO.out.box
  obtain ⟨c0, c1, c2, c3, d0, d1, d2, d3⟩ := tbox_cells HO.out.res
  clear hb hb1 q1 s1
  go_wp2_with fail
  generalize hz : (((W2.setCell ⟨w.heap.size, 0, none⟩ (.string ⟨#[]⟩)).setCell ⟨w.heap.size, 1, none⟩ (.int .i64 0)).setCell ⟨w.heap.size, 2, none⟩ (.int .i64 0)).setCell ⟨w.heap.size, 3, none⟩ (.int .i64 0) = WZ
  have PZ := tk_set HO.out.res hz
  obtain ⟨m0, m1, m2, m3, _⟩ := tbox_cells PZ.new
  refine bodyPost_ret (v := opVl ([], 0, 0, 0)) (by simp [opVl, results, Tryz.results182, go_sem, m0, m1, m2, m3]) rfl ⟨rfl, HO.out.below.trans (PZ.below (Nat.le_refl _))⟩

/-- no operation says so -/
structure NoOp (tx : List UInt8) : Prop where
  n0 : ¬ tx = [44]
  n1 : ¬ tx = [61]
  n2 : ¬ tx = [124, 61]
  n3 : ¬ tx = [43, 61]
  n4 : ¬ tx = [45, 61]
  n5 : ¬ tx = [42, 61]
  n6 : ¬ tx = [47, 61]
  n7 : ¬ tx = [37, 61]
  n8 : ¬ tx = [47, 47, 61]
  n9 : ¬ tx = [47, 47]
  n10 : ¬ tx = [111, 114]
  n11 : ¬ tx = [97, 110, 100]
  n12 : ¬ tx = [61, 61]
  n13 : ¬ tx = [33, 61]
  n14 : ¬ tx = [60]
  n15 : ¬ tx = [60, 61]
  n16 : ¬ tx = [62]
  n17 : ¬ tx = [62, 61]
  n18 : ¬ tx = [43]
  n19 : ¬ tx = [45]
  n20 : ¬ tx = [42]
  n21 : ¬ tx = [47]
  n22 : ¬ tx = [37]
theorem op_none {tx : List UInt8} (h : NoOp tx) : opTab.find? (fun r => r.1 == tx) = none := by
  rw [List.find?_eq_none]
  intro x hx
  simp only [opTab, List.mem_cons, List.not_mem_nil, or_false] at hx
  rcases hx with rfl | rfl | rfl | rfl | rfl | rfl | rfl | rfl | rfl | rfl | rfl | rfl | rfl | rfl | rfl | rfl | rfl | rfl | rfl | rfl | rfl | rfl | rfl
  · exact fun e => h.n0 (eq_of_beq e).symm
  · exact fun e => h.n1 (eq_of_beq e).symm
  · exact fun e => h.n2 (eq_of_beq e).symm
  · exact fun e => h.n3 (eq_of_beq e).symm
  · exact fun e => h.n4 (eq_of_beq e).symm
  · exact fun e => h.n5 (eq_of_beq e).symm
  · exact fun e => h.n6 (eq_of_beq e).symm
  · exact fun e => h.n7 (eq_of_beq e).symm
  · exact fun e => h.n8 (eq_of_beq e).symm
  · exact fun e => h.n9 (eq_of_beq e).symm
  · exact fun e => h.n10 (eq_of_beq e).symm
  · exact fun e => h.n11 (eq_of_beq e).symm
  · exact fun e => h.n12 (eq_of_beq e).symm
  · exact fun e => h.n13 (eq_of_beq e).symm
  · exact fun e => h.n14 (eq_of_beq e).symm
  · exact fun e => h.n15 (eq_of_beq e).symm
  · exact fun e => h.n16 (eq_of_beq e).symm
  · exact fun e => h.n17 (eq_of_beq e).symm
  · exact fun e => h.n18 (eq_of_beq e).symm
  · exact fun e => h.n19 (eq_of_beq e).symm
  · exact fun e => h.n20 (eq_of_beq e).symm
  · exact fun e => h.n21 (eq_of_beq e).symm
  · exact fun e => h.n22 (eq_of_beq e).symm

set_option maxRecDepth 100000 in
set_option maxHeartbeats 3200000 in
theorem w_opMiss {B : Nat} {so : Option Addr} {sc : Nat} {ws : List Tok} {nb t o : Nat} (w : World) (hP : PAt w B so sc ws nb t o) (hO : OpsIn w) (h1 : (hrP ws t).kind = 10 ∨ (hrP ws t).kind = 2) (hN : NoOp (hrP ws t).text) :
    Calls Tryz.prog 182 #[.pointer (some ⟨B, 0, none⟩)] w fun e w' => e = .returned (opVl (opOf (hrP ws t))) ∧ Below w.heap.size w w' := by
  have hB := hP.lt
  have HH : Hid (∀ u, Below w.heap.size w u → Calls Tryz.prog 133 #[.pointer (some ⟨B, 0, none⟩)] u fun e w' => e = .returned (tokV (hrP ws t)) ∧ Below u.heap.size u w') := hereC hP
  obtain ⟨r, hr⟩ : ∃ r, r = opOf (hrP ws t) := ⟨_, rfl⟩
  rw [← hr]
  unfold opOf at hr
  rw [if_pos h1] at hr
  have HOp := Hid.mk hO
  have HN := Hid.mk hN
  clear hP hO hN
  generalize hrP ws t = T at *
  obtain ⟨kd, pa, fi, tx, er⟩ := T
  unfold tokV at HH
  dsimp only at *
  have HR0 := Hid.mk hr
  clear hr
  have g1 : ((kd : Int) == 10) = true ∨ (((kd : Int) == 10) = false ∧ ((kd : Int) == 2) = true) := by
    rcases h1 with rfl | rfl
    · exact .inl rfl
    · exact .inr ⟨rfl, rfl⟩
  clear h1
  go_enter Tryz.func182, Tryz.ntmps182
  go_wp2_with fail
  refine (HH.out _ (below1 w _)).mono ?_
  rintro e w1 ⟨rfl, hb⟩
  have hb1 : Below (w.heap.size + 1) (w.alloc (.cells #[.string ⟨#[]⟩, .int .i64 0, .int .i64 0, .int .i64 0] 152)) w1 := by simpa using hb
  have q1 := (hb1.block w.heap.size (by omega)).trans (heap_alloc_new w _)
  have s1 : w.heap.size + 1 ≤ w1.heap.size := by simpa using hb1.size
  obtain ⟨W0, hW0⟩ : ∃ W0, w1.alloc (.cells #[.int .i64 (kd : Int), .int .i64 (pa : Int), .int .i64 (fi : Int), .string ⟨tx.toArray⟩] 42) = W0 := ⟨_, rfl⟩
  have HO0 : Hid (OpS w w1.heap.size kd pa fi tx W0) := by
    rw [← hW0]
    exact ⟨((below1 w _).trans (hb1.mono (by omega))).alloc (by omega) _, by omega, by simp, (Below.heap_alloc _ _ _ (by omega)).trans q1, heap_alloc_new w1 _⟩
  obtain ⟨tG, hG⟩ := HOp.out.keep HO0.out.below
  have HG := Hid.mk hG
  clear hG
  obtain ⟨x0, x1, x2, x3, _⟩ := tbox_cells HO0.out.box
  clear hb hb1 q1 s1
  rcases g1 with g1 | ⟨g1, g2⟩
  all_goals
    go_wp2_with (refine wpList_load_row rfl 162 (Operand.global 0) rfl 0 rfl _ opsA (0, 0) _ HG.out Tryz.underlying162 rfl opsSize ?_)
    refine wp_loop_rounds 24 ?_
    clear x0 x1 x2 x3 hW0
    rw [rounds_succ]
    have x3 : ∀ o, (W0.alloc o).cell? ⟨w1.heap.size, 3, none⟩ = some (.string ⟨tx.toArray⟩) := fun o => (tbox_cells (HO0.out.alloc o).box).2.2.2.1
    have c0 : ∀ o, (W0.alloc o).cell? ⟨w.heap.size, 0, none⟩ = some (.string ⟨#[]⟩) := fun o => (tbox_cells (HO0.out.alloc o).res).1
    have c1 : ∀ o, (W0.alloc o).cell? ⟨w.heap.size, 1, none⟩ = some (.int .i64 0) := fun o => (tbox_cells (HO0.out.alloc o).res).2.1
    have c2 : ∀ o, (W0.alloc o).cell? ⟨w.heap.size, 2, none⟩ = some (.int .i64 0) := fun o => (tbox_cells (HO0.out.alloc o).res).2.2.1
    have c3 : ∀ o, (W0.alloc o).cell? ⟨w.heap.size, 3, none⟩ = some (.int .i64 0) := fun o => (tbox_cells (HO0.out.alloc o).res).2.2.2.1
    have d0 : ∀ o j, (W0.alloc o).frozen? ⟨w.heap.size, j, none⟩ = false := fun o j => frozen_rowT (HO0.out.alloc o).res
    have hrl : w.heap.size < W0.heap.size := Nat.lt_trans HO0.out.lt HO0.out.xl
    have hix := Tryz.opsAt0
    have g3 : (([44] : List UInt8) == tx) = false := by rw [beq_eq_false_iff_ne]; exact fun e => HN.out.n0 e.symm
    have g4 : (tx == ([44] : List UInt8)) = false := by rw [beq_eq_false_iff_ne]; exact HN.out.n0
    go_wp2_with fail
    generalize hW1 : W0.alloc _ = W1
    have HO1 : Hid (OpS w w1.heap.size kd pa fi tx W1) := by rw [← hW1]; exact HO0.out.alloc _
    clear x3 c0 c1 c2 c3 d0 hrl hix g3 g4 hW1
    rw [rounds_succ]
    have x3 : ∀ o, (W1.alloc o).cell? ⟨w1.heap.size, 3, none⟩ = some (.string ⟨tx.toArray⟩) := fun o => (tbox_cells (HO1.out.alloc o).box).2.2.2.1
    have c0 : ∀ o, (W1.alloc o).cell? ⟨w.heap.size, 0, none⟩ = some (.string ⟨#[]⟩) := fun o => (tbox_cells (HO1.out.alloc o).res).1
    have c1 : ∀ o, (W1.alloc o).cell? ⟨w.heap.size, 1, none⟩ = some (.int .i64 0) := fun o => (tbox_cells (HO1.out.alloc o).res).2.1
    have c2 : ∀ o, (W1.alloc o).cell? ⟨w.heap.size, 2, none⟩ = some (.int .i64 0) := fun o => (tbox_cells (HO1.out.alloc o).res).2.2.1
    have c3 : ∀ o, (W1.alloc o).cell? ⟨w.heap.size, 3, none⟩ = some (.int .i64 0) := fun o => (tbox_cells (HO1.out.alloc o).res).2.2.2.1
    have d0 : ∀ o j, (W1.alloc o).frozen? ⟨w.heap.size, j, none⟩ = false := fun o j => frozen_rowT (HO1.out.alloc o).res
    have hrl : w.heap.size < W1.heap.size := Nat.lt_trans HO1.out.lt HO1.out.xl
    have hix := Tryz.opsAt1
    have g3 : (([61] : List UInt8) == tx) = false := by rw [beq_eq_false_iff_ne]; exact fun e => HN.out.n1 e.symm
    have g4 : (tx == ([61] : List UInt8)) = false := by rw [beq_eq_false_iff_ne]; exact HN.out.n1
    go_wp2_with fail
    generalize hW2 : W1.alloc _ = W2
    have HO2 : Hid (OpS w w1.heap.size kd pa fi tx W2) := by rw [← hW2]; exact HO1.out.alloc _
    clear x3 c0 c1 c2 c3 d0 hrl hix g3 g4 hW2
    rw [rounds_succ]
    have x3 : ∀ o, (W2.alloc o).cell? ⟨w1.heap.size, 3, none⟩ = some (.string ⟨tx.toArray⟩) := fun o => (tbox_cells (HO2.out.alloc o).box).2.2.2.1
    have c0 : ∀ o, (W2.alloc o).cell? ⟨w.heap.size, 0, none⟩ = some (.string ⟨#[]⟩) := fun o => (tbox_cells (HO2.out.alloc o).res).1
    have c1 : ∀ o, (W2.alloc o).cell? ⟨w.heap.size, 1, none⟩ = some (.int .i64 0) := fun o => (tbox_cells (HO2.out.alloc o).res).2.1
    have c2 : ∀ o, (W2.alloc o).cell? ⟨w.heap.size, 2, none⟩ = some (.int .i64 0) := fun o => (tbox_cells (HO2.out.alloc o).res).2.2.1
    have c3 : ∀ o, (W2.alloc o).cell? ⟨w.heap.size, 3, none⟩ = some (.int .i64 0) := fun o => (tbox_cells (HO2.out.alloc o).res).2.2.2.1
    have d0 : ∀ o j, (W2.alloc o).frozen? ⟨w.heap.size, j, none⟩ = false := fun o j => frozen_rowT (HO2.out.alloc o).res
    have hrl : w.heap.size < W2.heap.size := Nat.lt_trans HO2.out.lt HO2.out.xl
    have hix := Tryz.opsAt2
    have g3 : (([124, 61] : List UInt8) == tx) = false := by rw [beq_eq_false_iff_ne]; exact fun e => HN.out.n2 e.symm
    have g4 : (tx == ([124, 61] : List UInt8)) = false := by rw [beq_eq_false_iff_ne]; exact HN.out.n2
    go_wp2_with fail
    generalize hW3 : W2.alloc _ = W3
    have HO3 : Hid (OpS w w1.heap.size kd pa fi tx W3) := by rw [← hW3]; exact HO2.out.alloc _
    clear x3 c0 c1 c2 c3 d0 hrl hix g3 g4 hW3
    rw [rounds_succ]
    have x3 : ∀ o, (W3.alloc o).cell? ⟨w1.heap.size, 3, none⟩ = some (.string ⟨tx.toArray⟩) := fun o => (tbox_cells (HO3.out.alloc o).box).2.2.2.1
    have c0 : ∀ o, (W3.alloc o).cell? ⟨w.heap.size, 0, none⟩ = some (.string ⟨#[]⟩) := fun o => (tbox_cells (HO3.out.alloc o).res).1
    have c1 : ∀ o, (W3.alloc o).cell? ⟨w.heap.size, 1, none⟩ = some (.int .i64 0) := fun o => (tbox_cells (HO3.out.alloc o).res).2.1
    have c2 : ∀ o, (W3.alloc o).cell? ⟨w.heap.size, 2, none⟩ = some (.int .i64 0) := fun o => (tbox_cells (HO3.out.alloc o).res).2.2.1
    have c3 : ∀ o, (W3.alloc o).cell? ⟨w.heap.size, 3, none⟩ = some (.int .i64 0) := fun o => (tbox_cells (HO3.out.alloc o).res).2.2.2.1
    have d0 : ∀ o j, (W3.alloc o).frozen? ⟨w.heap.size, j, none⟩ = false := fun o j => frozen_rowT (HO3.out.alloc o).res
    have hrl : w.heap.size < W3.heap.size := Nat.lt_trans HO3.out.lt HO3.out.xl
    have hix := Tryz.opsAt3
    have g3 : (([43, 61] : List UInt8) == tx) = false := by rw [beq_eq_false_iff_ne]; exact fun e => HN.out.n3 e.symm
    have g4 : (tx == ([43, 61] : List UInt8)) = false := by rw [beq_eq_false_iff_ne]; exact HN.out.n3
    go_wp2_with fail
    generalize hW4 : W3.alloc _ = W4
    have HO4 : Hid (OpS w w1.heap.size kd pa fi tx W4) := by rw [← hW4]; exact HO3.out.alloc _
    clear x3 c0 c1 c2 c3 d0 hrl hix g3 g4 hW4
    rw [rounds_succ]
    have x3 : ∀ o, (W4.alloc o).cell? ⟨w1.heap.size, 3, none⟩ = some (.string ⟨tx.toArray⟩) := fun o => (tbox_cells (HO4.out.alloc o).box).2.2.2.1
    have c0 : ∀ o, (W4.alloc o).cell? ⟨w.heap.size, 0, none⟩ = some (.string ⟨#[]⟩) := fun o => (tbox_cells (HO4.out.alloc o).res).1
    have c1 : ∀ o, (W4.alloc o).cell? ⟨w.heap.size, 1, none⟩ = some (.int .i64 0) := fun o => (tbox_cells (HO4.out.alloc o).res).2.1
    have c2 : ∀ o, (W4.alloc o).cell? ⟨w.heap.size, 2, none⟩ = some (.int .i64 0) := fun o => (tbox_cells (HO4.out.alloc o).res).2.2.1
    have c3 : ∀ o, (W4.alloc o).cell? ⟨w.heap.size, 3, none⟩ = some (.int .i64 0) := fun o => (tbox_cells (HO4.out.alloc o).res).2.2.2.1
    have d0 : ∀ o j, (W4.alloc o).frozen? ⟨w.heap.size, j, none⟩ = false := fun o j => frozen_rowT (HO4.out.alloc o).res
    have hrl : w.heap.size < W4.heap.size := Nat.lt_trans HO4.out.lt HO4.out.xl
    have hix := Tryz.opsAt4
    have g3 : (([45, 61] : List UInt8) == tx) = false := by rw [beq_eq_false_iff_ne]; exact fun e => HN.out.n4 e.symm
    have g4 : (tx == ([45, 61] : List UInt8)) = false := by rw [beq_eq_false_iff_ne]; exact HN.out.n4
    go_wp2_with fail
    generalize hW5 : W4.alloc _ = W5
    have HO5 : Hid (OpS w w1.heap.size kd pa fi tx W5) := by rw [← hW5]; exact HO4.out.alloc _
    clear x3 c0 c1 c2 c3 d0 hrl hix g3 g4 hW5
    rw [rounds_succ]
    have x3 : ∀ o, (W5.alloc o).cell? ⟨w1.heap.size, 3, none⟩ = some (.string ⟨tx.toArray⟩) := fun o => (tbox_cells (HO5.out.alloc o).box).2.2.2.1
    have c0 : ∀ o, (W5.alloc o).cell? ⟨w.heap.size, 0, none⟩ = some (.string ⟨#[]⟩) := fun o => (tbox_cells (HO5.out.alloc o).res).1
    have c1 : ∀ o, (W5.alloc o).cell? ⟨w.heap.size, 1, none⟩ = some (.int .i64 0) := fun o => (tbox_cells (HO5.out.alloc o).res).2.1
    have c2 : ∀ o, (W5.alloc o).cell? ⟨w.heap.size, 2, none⟩ = some (.int .i64 0) := fun o => (tbox_cells (HO5.out.alloc o).res).2.2.1
    have c3 : ∀ o, (W5.alloc o).cell? ⟨w.heap.size, 3, none⟩ = some (.int .i64 0) := fun o => (tbox_cells (HO5.out.alloc o).res).2.2.2.1
    have d0 : ∀ o j, (W5.alloc o).frozen? ⟨w.heap.size, j, none⟩ = false := fun o j => frozen_rowT (HO5.out.alloc o).res
    have hrl : w.heap.size < W5.heap.size := Nat.lt_trans HO5.out.lt HO5.out.xl
    have hix := Tryz.opsAt5
    have g3 : (([42, 61] : List UInt8) == tx) = false := by rw [beq_eq_false_iff_ne]; exact fun e => HN.out.n5 e.symm
    have g4 : (tx == ([42, 61] : List UInt8)) = false := by rw [beq_eq_false_iff_ne]; exact HN.out.n5
    go_wp2_with fail
    generalize hW6 : W5.alloc _ = W6
    have HO6 : Hid (OpS w w1.heap.size kd pa fi tx W6) := by rw [← hW6]; exact HO5.out.alloc _
    clear x3 c0 c1 c2 c3 d0 hrl hix g3 g4 hW6
    rw [rounds_succ]
    have x3 : ∀ o, (W6.alloc o).cell? ⟨w1.heap.size, 3, none⟩ = some (.string ⟨tx.toArray⟩) := fun o => (tbox_cells (HO6.out.alloc o).box).2.2.2.1
    have c0 : ∀ o, (W6.alloc o).cell? ⟨w.heap.size, 0, none⟩ = some (.string ⟨#[]⟩) := fun o => (tbox_cells (HO6.out.alloc o).res).1
    have c1 : ∀ o, (W6.alloc o).cell? ⟨w.heap.size, 1, none⟩ = some (.int .i64 0) := fun o => (tbox_cells (HO6.out.alloc o).res).2.1
    have c2 : ∀ o, (W6.alloc o).cell? ⟨w.heap.size, 2, none⟩ = some (.int .i64 0) := fun o => (tbox_cells (HO6.out.alloc o).res).2.2.1
    have c3 : ∀ o, (W6.alloc o).cell? ⟨w.heap.size, 3, none⟩ = some (.int .i64 0) := fun o => (tbox_cells (HO6.out.alloc o).res).2.2.2.1
    have d0 : ∀ o j, (W6.alloc o).frozen? ⟨w.heap.size, j, none⟩ = false := fun o j => frozen_rowT (HO6.out.alloc o).res
    have hrl : w.heap.size < W6.heap.size := Nat.lt_trans HO6.out.lt HO6.out.xl
    have hix := Tryz.opsAt6
    have g3 : (([47, 61] : List UInt8) == tx) = false := by rw [beq_eq_false_iff_ne]; exact fun e => HN.out.n6 e.symm
    have g4 : (tx == ([47, 61] : List UInt8)) = false := by rw [beq_eq_false_iff_ne]; exact HN.out.n6
    go_wp2_with fail
    generalize hW7 : W6.alloc _ = W7
    have HO7 : Hid (OpS w w1.heap.size kd pa fi tx W7) := by rw [← hW7]; exact HO6.out.alloc _
    clear x3 c0 c1 c2 c3 d0 hrl hix g3 g4 hW7
    rw [rounds_succ]
    have x3 : ∀ o, (W7.alloc o).cell? ⟨w1.heap.size, 3, none⟩ = some (.string ⟨tx.toArray⟩) := fun o => (tbox_cells (HO7.out.alloc o).box).2.2.2.1
    have c0 : ∀ o, (W7.alloc o).cell? ⟨w.heap.size, 0, none⟩ = some (.string ⟨#[]⟩) := fun o => (tbox_cells (HO7.out.alloc o).res).1
    have c1 : ∀ o, (W7.alloc o).cell? ⟨w.heap.size, 1, none⟩ = some (.int .i64 0) := fun o => (tbox_cells (HO7.out.alloc o).res).2.1
    have c2 : ∀ o, (W7.alloc o).cell? ⟨w.heap.size, 2, none⟩ = some (.int .i64 0) := fun o => (tbox_cells (HO7.out.alloc o).res).2.2.1
    have c3 : ∀ o, (W7.alloc o).cell? ⟨w.heap.size, 3, none⟩ = some (.int .i64 0) := fun o => (tbox_cells (HO7.out.alloc o).res).2.2.2.1
    have d0 : ∀ o j, (W7.alloc o).frozen? ⟨w.heap.size, j, none⟩ = false := fun o j => frozen_rowT (HO7.out.alloc o).res
    have hrl : w.heap.size < W7.heap.size := Nat.lt_trans HO7.out.lt HO7.out.xl
    have hix := Tryz.opsAt7
    have g3 : (([37, 61] : List UInt8) == tx) = false := by rw [beq_eq_false_iff_ne]; exact fun e => HN.out.n7 e.symm
    have g4 : (tx == ([37, 61] : List UInt8)) = false := by rw [beq_eq_false_iff_ne]; exact HN.out.n7
    go_wp2_with fail
    generalize hW8 : W7.alloc _ = W8
    have HO8 : Hid (OpS w w1.heap.size kd pa fi tx W8) := by rw [← hW8]; exact HO7.out.alloc _
    clear x3 c0 c1 c2 c3 d0 hrl hix g3 g4 hW8
    rw [rounds_succ]
    have x3 : ∀ o, (W8.alloc o).cell? ⟨w1.heap.size, 3, none⟩ = some (.string ⟨tx.toArray⟩) := fun o => (tbox_cells (HO8.out.alloc o).box).2.2.2.1
    have c0 : ∀ o, (W8.alloc o).cell? ⟨w.heap.size, 0, none⟩ = some (.string ⟨#[]⟩) := fun o => (tbox_cells (HO8.out.alloc o).res).1
    have c1 : ∀ o, (W8.alloc o).cell? ⟨w.heap.size, 1, none⟩ = some (.int .i64 0) := fun o => (tbox_cells (HO8.out.alloc o).res).2.1
    have c2 : ∀ o, (W8.alloc o).cell? ⟨w.heap.size, 2, none⟩ = some (.int .i64 0) := fun o => (tbox_cells (HO8.out.alloc o).res).2.2.1
    have c3 : ∀ o, (W8.alloc o).cell? ⟨w.heap.size, 3, none⟩ = some (.int .i64 0) := fun o => (tbox_cells (HO8.out.alloc o).res).2.2.2.1
    have d0 : ∀ o j, (W8.alloc o).frozen? ⟨w.heap.size, j, none⟩ = false := fun o j => frozen_rowT (HO8.out.alloc o).res
    have hrl : w.heap.size < W8.heap.size := Nat.lt_trans HO8.out.lt HO8.out.xl
    have hix := Tryz.opsAt8
    have g3 : (([47, 47, 61] : List UInt8) == tx) = false := by rw [beq_eq_false_iff_ne]; exact fun e => HN.out.n8 e.symm
    have g4 : (tx == ([47, 47, 61] : List UInt8)) = false := by rw [beq_eq_false_iff_ne]; exact HN.out.n8
    go_wp2_with fail
    generalize hW9 : W8.alloc _ = W9
    have HO9 : Hid (OpS w w1.heap.size kd pa fi tx W9) := by rw [← hW9]; exact HO8.out.alloc _
    clear x3 c0 c1 c2 c3 d0 hrl hix g3 g4 hW9
    rw [rounds_succ]
    have x3 : ∀ o, (W9.alloc o).cell? ⟨w1.heap.size, 3, none⟩ = some (.string ⟨tx.toArray⟩) := fun o => (tbox_cells (HO9.out.alloc o).box).2.2.2.1
    have c0 : ∀ o, (W9.alloc o).cell? ⟨w.heap.size, 0, none⟩ = some (.string ⟨#[]⟩) := fun o => (tbox_cells (HO9.out.alloc o).res).1
    have c1 : ∀ o, (W9.alloc o).cell? ⟨w.heap.size, 1, none⟩ = some (.int .i64 0) := fun o => (tbox_cells (HO9.out.alloc o).res).2.1
    have c2 : ∀ o, (W9.alloc o).cell? ⟨w.heap.size, 2, none⟩ = some (.int .i64 0) := fun o => (tbox_cells (HO9.out.alloc o).res).2.2.1
    have c3 : ∀ o, (W9.alloc o).cell? ⟨w.heap.size, 3, none⟩ = some (.int .i64 0) := fun o => (tbox_cells (HO9.out.alloc o).res).2.2.2.1
    have d0 : ∀ o j, (W9.alloc o).frozen? ⟨w.heap.size, j, none⟩ = false := fun o j => frozen_rowT (HO9.out.alloc o).res
    have hrl : w.heap.size < W9.heap.size := Nat.lt_trans HO9.out.lt HO9.out.xl
    have hix := Tryz.opsAt9
    have g3 : (([47, 47] : List UInt8) == tx) = false := by rw [beq_eq_false_iff_ne]; exact fun e => HN.out.n9 e.symm
    have g4 : (tx == ([47, 47] : List UInt8)) = false := by rw [beq_eq_false_iff_ne]; exact HN.out.n9
    go_wp2_with fail
    generalize hW10 : W9.alloc _ = W10
    have HO10 : Hid (OpS w w1.heap.size kd pa fi tx W10) := by rw [← hW10]; exact HO9.out.alloc _
    clear x3 c0 c1 c2 c3 d0 hrl hix g3 g4 hW10
    rw [rounds_succ]
    have x3 : ∀ o, (W10.alloc o).cell? ⟨w1.heap.size, 3, none⟩ = some (.string ⟨tx.toArray⟩) := fun o => (tbox_cells (HO10.out.alloc o).box).2.2.2.1
    have c0 : ∀ o, (W10.alloc o).cell? ⟨w.heap.size, 0, none⟩ = some (.string ⟨#[]⟩) := fun o => (tbox_cells (HO10.out.alloc o).res).1
    have c1 : ∀ o, (W10.alloc o).cell? ⟨w.heap.size, 1, none⟩ = some (.int .i64 0) := fun o => (tbox_cells (HO10.out.alloc o).res).2.1
    have c2 : ∀ o, (W10.alloc o).cell? ⟨w.heap.size, 2, none⟩ = some (.int .i64 0) := fun o => (tbox_cells (HO10.out.alloc o).res).2.2.1
    have c3 : ∀ o, (W10.alloc o).cell? ⟨w.heap.size, 3, none⟩ = some (.int .i64 0) := fun o => (tbox_cells (HO10.out.alloc o).res).2.2.2.1
    have d0 : ∀ o j, (W10.alloc o).frozen? ⟨w.heap.size, j, none⟩ = false := fun o j => frozen_rowT (HO10.out.alloc o).res
    have hrl : w.heap.size < W10.heap.size := Nat.lt_trans HO10.out.lt HO10.out.xl
    have hix := Tryz.opsAt10
    have g3 : (([111, 114] : List UInt8) == tx) = false := by rw [beq_eq_false_iff_ne]; exact fun e => HN.out.n10 e.symm
    have g4 : (tx == ([111, 114] : List UInt8)) = false := by rw [beq_eq_false_iff_ne]; exact HN.out.n10
    go_wp2_with fail
    generalize hW11 : W10.alloc _ = W11
    have HO11 : Hid (OpS w w1.heap.size kd pa fi tx W11) := by rw [← hW11]; exact HO10.out.alloc _
    clear x3 c0 c1 c2 c3 d0 hrl hix g3 g4 hW11
    rw [rounds_succ]
    have x3 : ∀ o, (W11.alloc o).cell? ⟨w1.heap.size, 3, none⟩ = some (.string ⟨tx.toArray⟩) := fun o => (tbox_cells (HO11.out.alloc o).box).2.2.2.1
    have c0 : ∀ o, (W11.alloc o).cell? ⟨w.heap.size, 0, none⟩ = some (.string ⟨#[]⟩) := fun o => (tbox_cells (HO11.out.alloc o).res).1
    have c1 : ∀ o, (W11.alloc o).cell? ⟨w.heap.size, 1, none⟩ = some (.int .i64 0) := fun o => (tbox_cells (HO11.out.alloc o).res).2.1
    have c2 : ∀ o, (W11.alloc o).cell? ⟨w.heap.size, 2, none⟩ = some (.int .i64 0) := fun o => (tbox_cells (HO11.out.alloc o).res).2.2.1
    have c3 : ∀ o, (W11.alloc o).cell? ⟨w.heap.size, 3, none⟩ = some (.int .i64 0) := fun o => (tbox_cells (HO11.out.alloc o).res).2.2.2.1
    have d0 : ∀ o j, (W11.alloc o).frozen? ⟨w.heap.size, j, none⟩ = false := fun o j => frozen_rowT (HO11.out.alloc o).res
    have hrl : w.heap.size < W11.heap.size := Nat.lt_trans HO11.out.lt HO11.out.xl
    have hix := Tryz.opsAt11
    have g3 : (([97, 110, 100] : List UInt8) == tx) = false := by rw [beq_eq_false_iff_ne]; exact fun e => HN.out.n11 e.symm
    have g4 : (tx == ([97, 110, 100] : List UInt8)) = false := by rw [beq_eq_false_iff_ne]; exact HN.out.n11
    go_wp2_with fail
    generalize hW12 : W11.alloc _ = W12
    have HO12 : Hid (OpS w w1.heap.size kd pa fi tx W12) := by rw [← hW12]; exact HO11.out.alloc _
    clear x3 c0 c1 c2 c3 d0 hrl hix g3 g4 hW12
    rw [rounds_succ]
    have x3 : ∀ o, (W12.alloc o).cell? ⟨w1.heap.size, 3, none⟩ = some (.string ⟨tx.toArray⟩) := fun o => (tbox_cells (HO12.out.alloc o).box).2.2.2.1
    have c0 : ∀ o, (W12.alloc o).cell? ⟨w.heap.size, 0, none⟩ = some (.string ⟨#[]⟩) := fun o => (tbox_cells (HO12.out.alloc o).res).1
    have c1 : ∀ o, (W12.alloc o).cell? ⟨w.heap.size, 1, none⟩ = some (.int .i64 0) := fun o => (tbox_cells (HO12.out.alloc o).res).2.1
    have c2 : ∀ o, (W12.alloc o).cell? ⟨w.heap.size, 2, none⟩ = some (.int .i64 0) := fun o => (tbox_cells (HO12.out.alloc o).res).2.2.1
    have c3 : ∀ o, (W12.alloc o).cell? ⟨w.heap.size, 3, none⟩ = some (.int .i64 0) := fun o => (tbox_cells (HO12.out.alloc o).res).2.2.2.1
    have d0 : ∀ o j, (W12.alloc o).frozen? ⟨w.heap.size, j, none⟩ = false := fun o j => frozen_rowT (HO12.out.alloc o).res
    have hrl : w.heap.size < W12.heap.size := Nat.lt_trans HO12.out.lt HO12.out.xl
    have hix := Tryz.opsAt12
    have g3 : (([61, 61] : List UInt8) == tx) = false := by rw [beq_eq_false_iff_ne]; exact fun e => HN.out.n12 e.symm
    have g4 : (tx == ([61, 61] : List UInt8)) = false := by rw [beq_eq_false_iff_ne]; exact HN.out.n12
    go_wp2_with fail
    generalize hW13 : W12.alloc _ = W13
    have HO13 : Hid (OpS w w1.heap.size kd pa fi tx W13) := by rw [← hW13]; exact HO12.out.alloc _
    clear x3 c0 c1 c2 c3 d0 hrl hix g3 g4 hW13
    rw [rounds_succ]
    have x3 : ∀ o, (W13.alloc o).cell? ⟨w1.heap.size, 3, none⟩ = some (.string ⟨tx.toArray⟩) := fun o => (tbox_cells (HO13.out.alloc o).box).2.2.2.1
    have c0 : ∀ o, (W13.alloc o).cell? ⟨w.heap.size, 0, none⟩ = some (.string ⟨#[]⟩) := fun o => (tbox_cells (HO13.out.alloc o).res).1
    have c1 : ∀ o, (W13.alloc o).cell? ⟨w.heap.size, 1, none⟩ = some (.int .i64 0) := fun o => (tbox_cells (HO13.out.alloc o).res).2.1
    have c2 : ∀ o, (W13.alloc o).cell? ⟨w.heap.size, 2, none⟩ = some (.int .i64 0) := fun o => (tbox_cells (HO13.out.alloc o).res).2.2.1
    have c3 : ∀ o, (W13.alloc o).cell? ⟨w.heap.size, 3, none⟩ = some (.int .i64 0) := fun o => (tbox_cells (HO13.out.alloc o).res).2.2.2.1
    have d0 : ∀ o j, (W13.alloc o).frozen? ⟨w.heap.size, j, none⟩ = false := fun o j => frozen_rowT (HO13.out.alloc o).res
    have hrl : w.heap.size < W13.heap.size := Nat.lt_trans HO13.out.lt HO13.out.xl
    have hix := Tryz.opsAt13
    have g3 : (([33, 61] : List UInt8) == tx) = false := by rw [beq_eq_false_iff_ne]; exact fun e => HN.out.n13 e.symm
    have g4 : (tx == ([33, 61] : List UInt8)) = false := by rw [beq_eq_false_iff_ne]; exact HN.out.n13
    go_wp2_with fail
    generalize hW14 : W13.alloc _ = W14
    have HO14 : Hid (OpS w w1.heap.size kd pa fi tx W14) := by rw [← hW14]; exact HO13.out.alloc _
    clear x3 c0 c1 c2 c3 d0 hrl hix g3 g4 hW14
    rw [rounds_succ]
    have x3 : ∀ o, (W14.alloc o).cell? ⟨w1.heap.size, 3, none⟩ = some (.string ⟨tx.toArray⟩) := fun o => (tbox_cells (HO14.out.alloc o).box).2.2.2.1
    have c0 : ∀ o, (W14.alloc o).cell? ⟨w.heap.size, 0, none⟩ = some (.string ⟨#[]⟩) := fun o => (tbox_cells (HO14.out.alloc o).res).1
    have c1 : ∀ o, (W14.alloc o).cell? ⟨w.heap.size, 1, none⟩ = some (.int .i64 0) := fun o => (tbox_cells (HO14.out.alloc o).res).2.1
    have c2 : ∀ o, (W14.alloc o).cell? ⟨w.heap.size, 2, none⟩ = some (.int .i64 0) := fun o => (tbox_cells (HO14.out.alloc o).res).2.2.1
    have c3 : ∀ o, (W14.alloc o).cell? ⟨w.heap.size, 3, none⟩ = some (.int .i64 0) := fun o => (tbox_cells (HO14.out.alloc o).res).2.2.2.1
    have d0 : ∀ o j, (W14.alloc o).frozen? ⟨w.heap.size, j, none⟩ = false := fun o j => frozen_rowT (HO14.out.alloc o).res
    have hrl : w.heap.size < W14.heap.size := Nat.lt_trans HO14.out.lt HO14.out.xl
    have hix := Tryz.opsAt14
    have g3 : (([60] : List UInt8) == tx) = false := by rw [beq_eq_false_iff_ne]; exact fun e => HN.out.n14 e.symm
    have g4 : (tx == ([60] : List UInt8)) = false := by rw [beq_eq_false_iff_ne]; exact HN.out.n14
    go_wp2_with fail
    generalize hW15 : W14.alloc _ = W15
    have HO15 : Hid (OpS w w1.heap.size kd pa fi tx W15) := by rw [← hW15]; exact HO14.out.alloc _
    clear x3 c0 c1 c2 c3 d0 hrl hix g3 g4 hW15
    rw [rounds_succ]
    have x3 : ∀ o, (W15.alloc o).cell? ⟨w1.heap.size, 3, none⟩ = some (.string ⟨tx.toArray⟩) := fun o => (tbox_cells (HO15.out.alloc o).box).2.2.2.1
    have c0 : ∀ o, (W15.alloc o).cell? ⟨w.heap.size, 0, none⟩ = some (.string ⟨#[]⟩) := fun o => (tbox_cells (HO15.out.alloc o).res).1
    have c1 : ∀ o, (W15.alloc o).cell? ⟨w.heap.size, 1, none⟩ = some (.int .i64 0) := fun o => (tbox_cells (HO15.out.alloc o).res).2.1
    have c2 : ∀ o, (W15.alloc o).cell? ⟨w.heap.size, 2, none⟩ = some (.int .i64 0) := fun o => (tbox_cells (HO15.out.alloc o).res).2.2.1
    have c3 : ∀ o, (W15.alloc o).cell? ⟨w.heap.size, 3, none⟩ = some (.int .i64 0) := fun o => (tbox_cells (HO15.out.alloc o).res).2.2.2.1
    have d0 : ∀ o j, (W15.alloc o).frozen? ⟨w.heap.size, j, none⟩ = false := fun o j => frozen_rowT (HO15.out.alloc o).res
    have hrl : w.heap.size < W15.heap.size := Nat.lt_trans HO15.out.lt HO15.out.xl
    have hix := Tryz.opsAt15
    have g3 : (([60, 61] : List UInt8) == tx) = false := by rw [beq_eq_false_iff_ne]; exact fun e => HN.out.n15 e.symm
    have g4 : (tx == ([60, 61] : List UInt8)) = false := by rw [beq_eq_false_iff_ne]; exact HN.out.n15
    go_wp2_with fail
    generalize hW16 : W15.alloc _ = W16
    have HO16 : Hid (OpS w w1.heap.size kd pa fi tx W16) := by rw [← hW16]; exact HO15.out.alloc _
    clear x3 c0 c1 c2 c3 d0 hrl hix g3 g4 hW16
    rw [rounds_succ]
    have x3 : ∀ o, (W16.alloc o).cell? ⟨w1.heap.size, 3, none⟩ = some (.string ⟨tx.toArray⟩) := fun o => (tbox_cells (HO16.out.alloc o).box).2.2.2.1
    have c0 : ∀ o, (W16.alloc o).cell? ⟨w.heap.size, 0, none⟩ = some (.string ⟨#[]⟩) := fun o => (tbox_cells (HO16.out.alloc o).res).1
    have c1 : ∀ o, (W16.alloc o).cell? ⟨w.heap.size, 1, none⟩ = some (.int .i64 0) := fun o => (tbox_cells (HO16.out.alloc o).res).2.1
    have c2 : ∀ o, (W16.alloc o).cell? ⟨w.heap.size, 2, none⟩ = some (.int .i64 0) := fun o => (tbox_cells (HO16.out.alloc o).res).2.2.1
    have c3 : ∀ o, (W16.alloc o).cell? ⟨w.heap.size, 3, none⟩ = some (.int .i64 0) := fun o => (tbox_cells (HO16.out.alloc o).res).2.2.2.1
    have d0 : ∀ o j, (W16.alloc o).frozen? ⟨w.heap.size, j, none⟩ = false := fun o j => frozen_rowT (HO16.out.alloc o).res
    have hrl : w.heap.size < W16.heap.size := Nat.lt_trans HO16.out.lt HO16.out.xl
    have hix := Tryz.opsAt16
    have g3 : (([62] : List UInt8) == tx) = false := by rw [beq_eq_false_iff_ne]; exact fun e => HN.out.n16 e.symm
    have g4 : (tx == ([62] : List UInt8)) = false := by rw [beq_eq_false_iff_ne]; exact HN.out.n16
    go_wp2_with fail
    generalize hW17 : W16.alloc _ = W17
    have HO17 : Hid (OpS w w1.heap.size kd pa fi tx W17) := by rw [← hW17]; exact HO16.out.alloc _
    clear x3 c0 c1 c2 c3 d0 hrl hix g3 g4 hW17
    rw [rounds_succ]
    have x3 : ∀ o, (W17.alloc o).cell? ⟨w1.heap.size, 3, none⟩ = some (.string ⟨tx.toArray⟩) := fun o => (tbox_cells (HO17.out.alloc o).box).2.2.2.1
    have c0 : ∀ o, (W17.alloc o).cell? ⟨w.heap.size, 0, none⟩ = some (.string ⟨#[]⟩) := fun o => (tbox_cells (HO17.out.alloc o).res).1
    have c1 : ∀ o, (W17.alloc o).cell? ⟨w.heap.size, 1, none⟩ = some (.int .i64 0) := fun o => (tbox_cells (HO17.out.alloc o).res).2.1
    have c2 : ∀ o, (W17.alloc o).cell? ⟨w.heap.size, 2, none⟩ = some (.int .i64 0) := fun o => (tbox_cells (HO17.out.alloc o).res).2.2.1
    have c3 : ∀ o, (W17.alloc o).cell? ⟨w.heap.size, 3, none⟩ = some (.int .i64 0) := fun o => (tbox_cells (HO17.out.alloc o).res).2.2.2.1
    have d0 : ∀ o j, (W17.alloc o).frozen? ⟨w.heap.size, j, none⟩ = false := fun o j => frozen_rowT (HO17.out.alloc o).res
    have hrl : w.heap.size < W17.heap.size := Nat.lt_trans HO17.out.lt HO17.out.xl
    have hix := Tryz.opsAt17
    have g3 : (([62, 61] : List UInt8) == tx) = false := by rw [beq_eq_false_iff_ne]; exact fun e => HN.out.n17 e.symm
    have g4 : (tx == ([62, 61] : List UInt8)) = false := by rw [beq_eq_false_iff_ne]; exact HN.out.n17
    go_wp2_with fail
    generalize hW18 : W17.alloc _ = W18
    have HO18 : Hid (OpS w w1.heap.size kd pa fi tx W18) := by rw [← hW18]; exact HO17.out.alloc _
    clear x3 c0 c1 c2 c3 d0 hrl hix g3 g4 hW18
    rw [rounds_succ]
    have x3 : ∀ o, (W18.alloc o).cell? ⟨w1.heap.size, 3, none⟩ = some (.string ⟨tx.toArray⟩) := fun o => (tbox_cells (HO18.out.alloc o).box).2.2.2.1
    have c0 : ∀ o, (W18.alloc o).cell? ⟨w.heap.size, 0, none⟩ = some (.string ⟨#[]⟩) := fun o => (tbox_cells (HO18.out.alloc o).res).1
    have c1 : ∀ o, (W18.alloc o).cell? ⟨w.heap.size, 1, none⟩ = some (.int .i64 0) := fun o => (tbox_cells (HO18.out.alloc o).res).2.1
    have c2 : ∀ o, (W18.alloc o).cell? ⟨w.heap.size, 2, none⟩ = some (.int .i64 0) := fun o => (tbox_cells (HO18.out.alloc o).res).2.2.1
    have c3 : ∀ o, (W18.alloc o).cell? ⟨w.heap.size, 3, none⟩ = some (.int .i64 0) := fun o => (tbox_cells (HO18.out.alloc o).res).2.2.2.1
    have d0 : ∀ o j, (W18.alloc o).frozen? ⟨w.heap.size, j, none⟩ = false := fun o j => frozen_rowT (HO18.out.alloc o).res
    have hrl : w.heap.size < W18.heap.size := Nat.lt_trans HO18.out.lt HO18.out.xl
    have hix := Tryz.opsAt18
    have g3 : (([43] : List UInt8) == tx) = false := by rw [beq_eq_false_iff_ne]; exact fun e => HN.out.n18 e.symm
    have g4 : (tx == ([43] : List UInt8)) = false := by rw [beq_eq_false_iff_ne]; exact HN.out.n18
    go_wp2_with fail
    generalize hW19 : W18.alloc _ = W19
    have HO19 : Hid (OpS w w1.heap.size kd pa fi tx W19) := by rw [← hW19]; exact HO18.out.alloc _
    clear x3 c0 c1 c2 c3 d0 hrl hix g3 g4 hW19
    rw [rounds_succ]
    have x3 : ∀ o, (W19.alloc o).cell? ⟨w1.heap.size, 3, none⟩ = some (.string ⟨tx.toArray⟩) := fun o => (tbox_cells (HO19.out.alloc o).box).2.2.2.1
    have c0 : ∀ o, (W19.alloc o).cell? ⟨w.heap.size, 0, none⟩ = some (.string ⟨#[]⟩) := fun o => (tbox_cells (HO19.out.alloc o).res).1
    have c1 : ∀ o, (W19.alloc o).cell? ⟨w.heap.size, 1, none⟩ = some (.int .i64 0) := fun o => (tbox_cells (HO19.out.alloc o).res).2.1
    have c2 : ∀ o, (W19.alloc o).cell? ⟨w.heap.size, 2, none⟩ = some (.int .i64 0) := fun o => (tbox_cells (HO19.out.alloc o).res).2.2.1
    have c3 : ∀ o, (W19.alloc o).cell? ⟨w.heap.size, 3, none⟩ = some (.int .i64 0) := fun o => (tbox_cells (HO19.out.alloc o).res).2.2.2.1
    have d0 : ∀ o j, (W19.alloc o).frozen? ⟨w.heap.size, j, none⟩ = false := fun o j => frozen_rowT (HO19.out.alloc o).res
    have hrl : w.heap.size < W19.heap.size := Nat.lt_trans HO19.out.lt HO19.out.xl
    have hix := Tryz.opsAt19
    have g3 : (([45] : List UInt8) == tx) = false := by rw [beq_eq_false_iff_ne]; exact fun e => HN.out.n19 e.symm
    have g4 : (tx == ([45] : List UInt8)) = false := by rw [beq_eq_false_iff_ne]; exact HN.out.n19
    go_wp2_with fail
    generalize hW20 : W19.alloc _ = W20
    have HO20 : Hid (OpS w w1.heap.size kd pa fi tx W20) := by rw [← hW20]; exact HO19.out.alloc _
    clear x3 c0 c1 c2 c3 d0 hrl hix g3 g4 hW20
    rw [rounds_succ]
    have x3 : ∀ o, (W20.alloc o).cell? ⟨w1.heap.size, 3, none⟩ = some (.string ⟨tx.toArray⟩) := fun o => (tbox_cells (HO20.out.alloc o).box).2.2.2.1
    have c0 : ∀ o, (W20.alloc o).cell? ⟨w.heap.size, 0, none⟩ = some (.string ⟨#[]⟩) := fun o => (tbox_cells (HO20.out.alloc o).res).1
    have c1 : ∀ o, (W20.alloc o).cell? ⟨w.heap.size, 1, none⟩ = some (.int .i64 0) := fun o => (tbox_cells (HO20.out.alloc o).res).2.1
    have c2 : ∀ o, (W20.alloc o).cell? ⟨w.heap.size, 2, none⟩ = some (.int .i64 0) := fun o => (tbox_cells (HO20.out.alloc o).res).2.2.1
    have c3 : ∀ o, (W20.alloc o).cell? ⟨w.heap.size, 3, none⟩ = some (.int .i64 0) := fun o => (tbox_cells (HO20.out.alloc o).res).2.2.2.1
    have d0 : ∀ o j, (W20.alloc o).frozen? ⟨w.heap.size, j, none⟩ = false := fun o j => frozen_rowT (HO20.out.alloc o).res
    have hrl : w.heap.size < W20.heap.size := Nat.lt_trans HO20.out.lt HO20.out.xl
    have hix := Tryz.opsAt20
    have g3 : (([42] : List UInt8) == tx) = false := by rw [beq_eq_false_iff_ne]; exact fun e => HN.out.n20 e.symm
    have g4 : (tx == ([42] : List UInt8)) = false := by rw [beq_eq_false_iff_ne]; exact HN.out.n20
    go_wp2_with fail
    generalize hW21 : W20.alloc _ = W21
    have HO21 : Hid (OpS w w1.heap.size kd pa fi tx W21) := by rw [← hW21]; exact HO20.out.alloc _
    clear x3 c0 c1 c2 c3 d0 hrl hix g3 g4 hW21
    rw [rounds_succ]
    have x3 : ∀ o, (W21.alloc o).cell? ⟨w1.heap.size, 3, none⟩ = some (.string ⟨tx.toArray⟩) := fun o => (tbox_cells (HO21.out.alloc o).box).2.2.2.1
    have c0 : ∀ o, (W21.alloc o).cell? ⟨w.heap.size, 0, none⟩ = some (.string ⟨#[]⟩) := fun o => (tbox_cells (HO21.out.alloc o).res).1
    have c1 : ∀ o, (W21.alloc o).cell? ⟨w.heap.size, 1, none⟩ = some (.int .i64 0) := fun o => (tbox_cells (HO21.out.alloc o).res).2.1
    have c2 : ∀ o, (W21.alloc o).cell? ⟨w.heap.size, 2, none⟩ = some (.int .i64 0) := fun o => (tbox_cells (HO21.out.alloc o).res).2.2.1
    have c3 : ∀ o, (W21.alloc o).cell? ⟨w.heap.size, 3, none⟩ = some (.int .i64 0) := fun o => (tbox_cells (HO21.out.alloc o).res).2.2.2.1
    have d0 : ∀ o j, (W21.alloc o).frozen? ⟨w.heap.size, j, none⟩ = false := fun o j => frozen_rowT (HO21.out.alloc o).res
    have hrl : w.heap.size < W21.heap.size := Nat.lt_trans HO21.out.lt HO21.out.xl
    have hix := Tryz.opsAt21
    have g3 : (([47] : List UInt8) == tx) = false := by rw [beq_eq_false_iff_ne]; exact fun e => HN.out.n21 e.symm
    have g4 : (tx == ([47] : List UInt8)) = false := by rw [beq_eq_false_iff_ne]; exact HN.out.n21
    go_wp2_with fail
    generalize hW22 : W21.alloc _ = W22
    have HO22 : Hid (OpS w w1.heap.size kd pa fi tx W22) := by rw [← hW22]; exact HO21.out.alloc _
    clear x3 c0 c1 c2 c3 d0 hrl hix g3 g4 hW22
    rw [rounds_succ]
    have x3 : ∀ o, (W22.alloc o).cell? ⟨w1.heap.size, 3, none⟩ = some (.string ⟨tx.toArray⟩) := fun o => (tbox_cells (HO22.out.alloc o).box).2.2.2.1
    have c0 : ∀ o, (W22.alloc o).cell? ⟨w.heap.size, 0, none⟩ = some (.string ⟨#[]⟩) := fun o => (tbox_cells (HO22.out.alloc o).res).1
    have c1 : ∀ o, (W22.alloc o).cell? ⟨w.heap.size, 1, none⟩ = some (.int .i64 0) := fun o => (tbox_cells (HO22.out.alloc o).res).2.1
    have c2 : ∀ o, (W22.alloc o).cell? ⟨w.heap.size, 2, none⟩ = some (.int .i64 0) := fun o => (tbox_cells (HO22.out.alloc o).res).2.2.1
    have c3 : ∀ o, (W22.alloc o).cell? ⟨w.heap.size, 3, none⟩ = some (.int .i64 0) := fun o => (tbox_cells (HO22.out.alloc o).res).2.2.2.1
    have d0 : ∀ o j, (W22.alloc o).frozen? ⟨w.heap.size, j, none⟩ = false := fun o j => frozen_rowT (HO22.out.alloc o).res
    have hrl : w.heap.size < W22.heap.size := Nat.lt_trans HO22.out.lt HO22.out.xl
    have hix := Tryz.opsAt22
    have g3 : (([37] : List UInt8) == tx) = false := by rw [beq_eq_false_iff_ne]; exact fun e => HN.out.n22 e.symm
    have g4 : (tx == ([37] : List UInt8)) = false := by rw [beq_eq_false_iff_ne]; exact HN.out.n22
    go_wp2_with fail
    generalize hW23 : W22.alloc _ = W23
    have HO23 : Hid (OpS w w1.heap.size kd pa fi tx W23) := by rw [← hW23]; exact HO22.out.alloc _
    clear x3 c0 c1 c2 c3 d0 hrl hix g3 g4 hW23
    rw [rounds_succ]
    obtain ⟨c0, c1, c2, c3, d0, d1, d2, d3⟩ := tbox_cells HO23.out.res
    go_wp2_with fail
    · generalize hz : (((W23.setCell ⟨w.heap.size, 0, none⟩ (.string ⟨#[]⟩)).setCell ⟨w.heap.size, 1, none⟩ (.int .i64 0)).setCell ⟨w.heap.size, 2, none⟩ (.int .i64 0)).setCell ⟨w.heap.size, 3, none⟩ (.int .i64 0) = WZ
      have PZ := tk_set HO23.out.res hz
      obtain ⟨m0, m1, m2, m3, _⟩ := tbox_cells PZ.new
      have HR := (show r = ([], 0, 0, 0) by rw [HR0.out, op_none HN.out]; rfl)
      have hB2 := HO23.out.below.trans (PZ.below (Nat.le_refl _))
      refine bodyPost_ret (v := opVl r) ?_ rfl ⟨rfl, hB2⟩
      rw [HR]
      simp [opVl, results, Tryz.results182, go_sem, m0, m1, m2, m3]
end Go.Proofs.YtdmkfdaddacdhaaGreatDoor
namespace Go.Proofs.YtdmkfdaddacdhaaGreatDoor
open Go.RowKit Go.Shelf
set_option linter.unusedVariables false
set_option linter.unusedSimpArgs false
attribute [local go_sem] Oper.semAt_some

theorem noGoto_ret {Q : Exit → Act → World → Prop} {a : Act} {w : World} (h : Q .ret a w) : Exit.noGoto Q .ret a w := h
theorem noGoto_panic {Q : Exit → Act → World → Prop} {ch : List PanicEntry} {a : Act} {w : World} (h : Q (.panic ch) a w) : Exit.noGoto Q (.panic ch) a w := h

set_option maxRecDepth 100000 in
set_option maxHeartbeats 3200000 in
theorem w_within0 (d : ND) (w : World) : Calls Tryz.prog 132 #[.slice none 0 0, d.v] w fun e w' => e = .returned d.v ∧ Below w.heap.size w w' := by
  obtain ⟨op, at_, vk, tx, nu, vt, io, yo, no, ko, iN, ic, yN, yc, nN, nc, kN, kc⟩ := d
  unfold ND.v at *
  dsimp only at *
  go_enter Tryz.func132, Tryz.ntmps132
  go_wp2_with fail
  refine wp_loop_rounds 1 ?_
  rw [rounds_succ]
  go_wp2_with fail
  refine bodyPost_ret (v := .agg #[.int .i64 op, .int .i64 at_, .string tx, .int .i64 vk, .string nu, .string vt, .slice io iN ic, .slice yo yN yc, .slice no nN nc, .slice ko kN kc]) (by simp [results, Tryz.results132, go_sem]) rfl ⟨rfl, (below1 w _).alloc (by simp) _⟩

set_option maxRecDepth 100000 in
set_option maxHeartbeats 3200000 in
theorem w_awaits0 {B : Nat} {so : Option Addr} {sc : Nat} {ws : List Tok} {nb t o : Nat} (w : World) (hP : PAt w B so sc ws nb t o) (h1 : syP ws t [116, 114, 121] = false) (h2 : syP ws t [114, 101, 100, 117, 99, 101] = false) (h3 : syP ws t [102, 111, 114, 101, 97, 99, 104] = false) :
    Calls Tryz.prog 196 #[.pointer (some ⟨B, 0, none⟩)] w fun e w' => e = .returned (.bool false) ∧ Below w.heap.size w w' := by
  have H1 : Hid (∀ u, PAt u B so sc ws nb (t) o → Calls Tryz.prog 160 #[.pointer (some ⟨B, 0, none⟩), .string ⟨#[116, 114, 121]⟩] u fun e w' => e = .returned (.bool false) ∧ Below u.heap.size u w') := fun u hu => by
    have := w_says [116, 114, 121] u hu
    rwa [h1] at this
  have H2 : Hid (∀ u, PAt u B so sc ws nb (t) o → Calls Tryz.prog 160 #[.pointer (some ⟨B, 0, none⟩), .string ⟨#[114, 101, 100, 117, 99, 101]⟩] u fun e w' => e = .returned (.bool false) ∧ Below u.heap.size u w') := fun u hu => by
    have := w_says [114, 101, 100, 117, 99, 101] u hu
    rwa [h2] at this
  have H3 : Hid (∀ u, PAt u B so sc ws nb (t) o → Calls Tryz.prog 160 #[.pointer (some ⟨B, 0, none⟩), .string ⟨#[102, 111, 114, 101, 97, 99, 104]⟩] u fun e w' => e = .returned (.bool false) ∧ Below u.heap.size u w') := fun u hu => by
    have := w_says [102, 111, 114, 101, 97, 99, 104] u hu
    rwa [h3] at this
  have HP := Hid.mk hP
  clear hP h1 h2 h3
  go_enter Tryz.func196, Tryz.ntmps196
  go_wp2_with fail
  refine (H1.out _ HP.out).mono ?_
  rintro e w1 ⟨rfl, hb1⟩
  have HB1 := Hid.mk hb1
  have HP1 := Hid.mk (HP.out.keep hb1)
  clear hb1
  go_wp2_with fail
  refine (H2.out _ HP1.out).mono ?_
  rintro e w2 ⟨rfl, hb2⟩
  have HB2 := Hid.mk (HB1.out.trans (hb2.mono HB1.out.size))
  have HP2 := Hid.mk (HP1.out.keep hb2)
  clear hb2
  go_wp2_with fail
  refine (H3.out _ HP2.out).mono ?_
  rintro e w3 ⟨rfl, hb3⟩
  have HB3 := Hid.mk (HB2.out.trans (hb3.mono HB2.out.size))
  clear hb3
  go_wp2_with fail
  go_ret
  exact ⟨rfl, HB3.out⟩

/-- .. with a box for a part that is handed in -/
structure St2 (w : World) (B : Nat) (so : Option Addr) (sc : Nat) (ws : List Tok) (nb t o : Nat) (cs : Array Value) (W : World) : Prop where
  bt : Bt B w W
  pat : PAt W B so sc ws nb t o
  lt : w.heap.size + 1 < W.heap.size
  box : W.heap[w.heap.size]? = some (.cells cs 28 (0, 0))
  res : W.heap[w.heap.size + 1]? = some (.cells #[.int .i64 0, .int .i64 0, .string ⟨#[]⟩, .int .i64 0, .string ⟨#[]⟩, .string ⟨#[]⟩, .slice none 0 0, .slice none 0 0, .slice none 0 0, .slice none 0 0] 28 (0, 0))
theorem St2.new {w : World} {B : Nat} {so : Option Addr} {sc : Nat} {ws : List Tok} {nb t o : Nat} (h : PAt w B so sc ws nb t o) (cs : Array Value) : St2 w B so sc ws nb t o cs ((w.alloc (.cells cs 28)).alloc (.cells #[.int .i64 0, .int .i64 0, .string ⟨#[]⟩, .int .i64 0, .string ⟨#[]⟩, .string ⟨#[]⟩, .slice none 0 0, .slice none 0 0, .slice none 0 0, .slice none 0 0] 28)) := by
  refine ⟨((Bt.refl B w).alloc _).alloc _, (h.alloc _).alloc _, by simp, (Below.heap_alloc _ _ _ (by simp)).trans (heap_alloc_new w _), ?_⟩
  have := heap_alloc_new (w.alloc (.cells cs 28)) (.cells #[.int .i64 0, .int .i64 0, .string ⟨#[]⟩, .int .i64 0, .string ⟨#[]⟩, .string ⟨#[]⟩, .slice none 0 0, .slice none 0 0, .slice none 0 0, .slice none 0 0] 28)
  rwa [World.size_alloc] at this
theorem St2.keep {w W W' : World} {B : Nat} {so : Option Addr} {sc : Nat} {ws : List Tok} {nb t o : Nat} {cs : Array Value} (h : St2 w B so sc ws nb t o cs W) (hb : Below W.heap.size W W') : St2 w B so sc ws nb t o cs W' := ⟨h.bt.trans (Bt.of hb), h.pat.keep hb, Nat.lt_of_lt_of_le h.lt hb.size, (hb.block _ (Nat.lt_trans (Nat.lt_succ_self _) h.lt)).trans h.box, (hb.block _ h.lt).trans h.res⟩
theorem St2.step {w W W' : World} {B : Nat} {so : Option Addr} {sc : Nat} {ws : List Tok} {nb t o : Nat} {cs : Array Value} {t' o' : Nat} (h : St2 w B so sc ws nb t o cs W) (hB : B < w.heap.size) (hb : Bt B W W') (hp : PAt W' B so sc ws nb t' o') : St2 w B so sc ws nb t' o' cs W' := ⟨h.bt.trans hb, hp, Nat.lt_of_lt_of_le h.lt hb.size, (hb.block _ (Nat.lt_trans (Nat.lt_succ_self _) h.lt) (by omega)).trans h.box, (hb.block _ h.lt (by omega)).trans h.res⟩
theorem St2.put {w W W' : World} {B : Nat} {so : Option Addr} {sc : Nat} {ws : List Tok} {nb t o : Nat} {cs : Array Value} {t0 o0 : Nat} {x : Obj} (h : St2 w B so sc ws nb t o cs W) (h0 : PAt w B so sc ws nb t0 o0) (hp : Put (w.heap.size + 1) x W W') : Bt B w W' ∧ PAt W' B so sc ws nb t o := by
  have hB := h0.lt
  have hb : Bt B w W' := hp.bt h.bt (by omega)
  exact ⟨hb, h0.stepT t o hb h.pat.le h.pat.open_ ((hp.rest B (by omega)).trans h.pat.box)⟩

set_option maxRecDepth 100000 in
set_option maxHeartbeats 3200000 in
theorem w_suffixed0 {B : Nat} {so : Option Addr} {sc : Nat} {ws : List Tok} {nb t o : Nat} (d : ND) (w : World) (hP : PAt w B so sc ws nb t o) (h1 : (hrP ws t).kind ≠ 4) (h2 : syP ws t [46] = false) (h3 : syP ws t [91] = false) (h4 : syP ws t [63] = false) :
    Calls Tryz.prog 198 #[.pointer (some ⟨B, 0, none⟩), d.v] w fun e w' => NdR B so sc ws nb w t o d e w' := by
  have H1 : Hid (∀ u, PAt u B so sc ws nb (t) o → Calls Tryz.prog 193 #[.pointer (some ⟨B, 0, none⟩), .int .i64 4] u fun e w' => e = .returned (.bool false) ∧ Below u.heap.size u w') := fun u hu => by
    have := w_isK 4 u hu
    rwa [beq_eq_false_iff_ne.2 h1] at this
  have H2 : Hid (∀ u, PAt u B so sc ws nb (t) o → Calls Tryz.prog 160 #[.pointer (some ⟨B, 0, none⟩), .string ⟨#[46]⟩] u fun e w' => e = .returned (.bool false) ∧ Below u.heap.size u w') := fun u hu => by
    have := w_says [46] u hu
    rwa [h2] at this
  have H3 : Hid (∀ u, PAt u B so sc ws nb (t) o → Calls Tryz.prog 160 #[.pointer (some ⟨B, 0, none⟩), .string ⟨#[91]⟩] u fun e w' => e = .returned (.bool false) ∧ Below u.heap.size u w') := fun u hu => by
    have := w_says [91] u hu
    rwa [h3] at this
  have H4 : Hid (∀ u, PAt u B so sc ws nb (t) o → Calls Tryz.prog 160 #[.pointer (some ⟨B, 0, none⟩), .string ⟨#[63]⟩] u fun e w' => e = .returned (.bool false) ∧ Below u.heap.size u w') := fun u hu => by
    have := w_says [63] u hu
    rwa [h4] at this
  have HP := Hid.mk hP
  unfold NdR
  obtain ⟨op, at_, vk, tx, nu, vt, io, yo, no, ko, iN, ic, yN, yc, nN, nc, kN, kc⟩ := d
  unfold ND.v at *
  dsimp only at *
  have HS0 := Hid.mk (St2.new hP #[.int .i64 op, .int .i64 at_, .string tx, .int .i64 vk, .string nu, .string vt, .slice io iN ic, .slice yo yN yc, .slice no nN nc, .slice ko kN kc])
  clear hP h1 h2 h3 h4
  go_enter Tryz.func198, Tryz.ntmps198
  go_wp2_with fail
  refine wp_loop_rounds 1 ?_
  rw [rounds_succ]
  go_wp2_with fail
  refine (H1.out _ HS0.out.pat).mono ?_
  rintro e w1 ⟨rfl, hb1⟩
  have HS1 := Hid.mk (HS0.out.keep hb1)
  clear hb1
  go_wp2_with fail
  refine (H2.out _ HS1.out.pat).mono ?_
  rintro e w2 ⟨rfl, hb2⟩
  have HS2 := Hid.mk (HS1.out.keep hb2)
  clear hb2
  go_wp2_with fail
  refine (H3.out _ HS2.out.pat).mono ?_
  rintro e w3 ⟨rfl, hb3⟩
  have HS3 := Hid.mk (HS2.out.keep hb3)
  clear hb3
  go_wp2_with fail
  refine (H4.out _ HS3.out.pat).mono ?_
  rintro e w4 ⟨rfl, hb4⟩
  have HS4 := Hid.mk (HS3.out.keep hb4)
  clear hb4
  obtain ⟨n0, n1, n2, n3, n4, n5, n6, n7, n8, n9⟩ := nd_cells HS4.out.res
  obtain ⟨f0, f1, f2, f3, f4, f5, f6, f7, f8, f9⟩ := nd_frozen HS4.out.res
  obtain ⟨b0, b1, b2, b3, b4, b5, b6, b7, b8, b9⟩ := nd_cells HS4.out.box
  go_wp2_with fail
  generalize hzZ : (((((((((w4.setCell ⟨w.heap.size + 1, 0, none⟩ (.int .i64 op)).setCell ⟨w.heap.size + 1, 1, none⟩ (.int .i64 at_)).setCell ⟨w.heap.size + 1, 2, none⟩ (.string tx)).setCell ⟨w.heap.size + 1, 3, none⟩ (.int .i64 vk)).setCell ⟨w.heap.size + 1, 4, none⟩ (.string nu)).setCell ⟨w.heap.size + 1, 5, none⟩ (.string vt)).setCell ⟨w.heap.size + 1, 6, none⟩ (.slice io iN ic)).setCell ⟨w.heap.size + 1, 7, none⟩ (.slice yo yN yc)).setCell ⟨w.heap.size + 1, 8, none⟩ (.slice no nN nc)).setCell ⟨w.heap.size + 1, 9, none⟩ (.slice ko kN kc) = WZ
  have PZ := nd_set HS4.out.res hzZ
  obtain ⟨m0, m1, m2, m3, m4, m5, m6, m7, m8, m9⟩ := nd_cells PZ.new
  refine bodyPost_ret (v := .agg #[.int .i64 op, .int .i64 at_, .string tx, .int .i64 vk, .string nu, .string vt, .slice io iN ic, .slice yo yN yc, .slice no nN nc, .slice ko kN kc]) (by simp [results, Tryz.results198, go_sem, m0, m1, m2, m3, m4, m5, m6, m7, m8, m9]) rfl ?_
  exact ⟨rfl, HS4.out.put HP.out PZ⟩

set_option maxRecDepth 100000 in
set_option maxHeartbeats 3200000 in
theorem w_post1 {B : Nat} {so : Option Addr} {sc : Nat} {ws : List Tok} {nb t o : Nat} {t1 o1 : Nat} (d : ND) (w : World) (hP : PAt w B so sc ws nb t o) (h1 : syP ws t [116, 114, 121] = false) (h2 : syP ws t [114, 101, 100, 117, 99, 101] = false) (h3 : syP ws t [102, 111, 114, 101, 97, 99, 104] = false)
    (HT : Hid (∀ u, PAt u B so sc ws nb t o → Calls Tryz.prog 199 #[.pointer (some ⟨B, 0, none⟩)] u fun e w' => NdR B so sc ws nb u t1 o1 d e w'))
    (HF : Hid (∀ u, PAt u B so sc ws nb t1 o1 → Calls Tryz.prog 198 #[.pointer (some ⟨B, 0, none⟩), d.v] u fun e w' => NdR B so sc ws nb u t1 o1 d e w')) :
    Calls Tryz.prog 181 #[.pointer (some ⟨B, 0, none⟩)] w fun e w' => NdR B so sc ws nb w t1 o1 d e w' := by
  have hB := hP.lt
  have HP := Hid.mk hP
  have HS0 := Hid.mk (St.new hP)
  have HA : Hid (∀ u, PAt u B so sc ws nb t o → Calls Tryz.prog 196 #[.pointer (some ⟨B, 0, none⟩)] u fun e w' => e = .returned (.bool false) ∧ Below u.heap.size u w') := fun u hu => w_awaits0 u hu h1 h2 h3
  clear hP h1 h2 h3
  unfold NdR at *
  obtain ⟨op, at_, vk, tx, nu, vt, io, yo, no, ko, iN, ic, yN, yc, nN, nc, kN, kc⟩ := d
  unfold ND.v at *
  dsimp only at *
  go_enter Tryz.func181, Tryz.ntmps181
  go_wp2_with fail
  refine wp_scope_straight ?_
  go_wp2_with fail
  (try refine wp_label ?_)
  (try go_wp2_with fail)
  refine wp_loop_rounds 1 ?_
  rw [rounds_succ]
  go_wp2_with fail
  refine wp_loop_rounds 1 ?_
  rw [rounds_succ]
  go_wp2_with fail
  refine (HA.out _ HS0.out.pat).mono ?_
  rintro e w1 ⟨rfl, hb1⟩
  have HS1 := Hid.mk (HS0.out.keep hb1)
  clear hb1
  go_wp2_with fail
  refine (HT.out _ HS1.out.pat).mono ?_
  rintro e w2 ⟨rfl, hb2, hp2⟩
  have HS2 := Hid.mk (HS1.out.step hB hb2 hp2)
  clear hb2 hp2
  go_wp2_with fail
  refine (HF.out _ HS2.out.pat).mono ?_
  rintro e w3 ⟨rfl, hb3, hp3⟩
  have HS3 := Hid.mk (HS2.out.step hB hb3 hp3)
  clear hb3 hp3
  obtain ⟨W4, hW4⟩ : ∃ W4, w3.alloc (.cells #[.int .i64 op, .int .i64 at_, .string tx, .int .i64 vk, .string nu, .string vt, .slice io iN ic, .slice yo yN yc, .slice no nN nc, .slice ko kN kc] 28) = W4 := ⟨_, rfl⟩
  have HS4 : Hid (St w B so sc ws nb t1 o1 W4) := by rw [← hW4]; exact HS3.out.alloc _
  have hx4 : W4.heap[w3.heap.size]? = some (.cells #[.int .i64 op, .int .i64 at_, .string tx, .int .i64 vk, .string nu, .string vt, .slice io iN ic, .slice yo yN yc, .slice no nN nc, .slice ko kN kc] 28 (0, 0)) := by rw [← hW4]; exact heap_alloc_new w3 _
  obtain ⟨b0, b1, b2, b3, b4, b5, b6, b7, b8, b9⟩ := nd_cells hx4
  obtain ⟨n0, n1, n2, n3, n4, n5, n6, n7, n8, n9⟩ := nd_cells HS4.out.res
  obtain ⟨f0, f1, f2, f3, f4, f5, f6, f7, f8, f9⟩ := nd_frozen HS4.out.res
  clear hx4
  go_wp2_with fail
  refine wp_loop_rounds 1 ?_
  rw [rounds_succ]
  go_wp2_with fail
  refine noGoto_ret ?_
  generalize hzZ : (((((((((W4.setCell ⟨w.heap.size, 0, none⟩ (.int .i64 op)).setCell ⟨w.heap.size, 1, none⟩ (.int .i64 at_)).setCell ⟨w.heap.size, 2, none⟩ (.string tx)).setCell ⟨w.heap.size, 3, none⟩ (.int .i64 vk)).setCell ⟨w.heap.size, 4, none⟩ (.string nu)).setCell ⟨w.heap.size, 5, none⟩ (.string vt)).setCell ⟨w.heap.size, 6, none⟩ (.slice io iN ic)).setCell ⟨w.heap.size, 7, none⟩ (.slice yo yN yc)).setCell ⟨w.heap.size, 8, none⟩ (.slice no nN nc)).setCell ⟨w.heap.size, 9, none⟩ (.slice ko kN kc) = WZ
  have PZ := nd_set HS4.out.res hzZ
  obtain ⟨m0, m1, m2, m3, m4, m5, m6, m7, m8, m9⟩ := nd_cells PZ.new
  refine bodyPost_ret (v := .agg #[.int .i64 op, .int .i64 at_, .string tx, .int .i64 vk, .string nu, .string vt, .slice io iN ic, .slice yo yN yc, .slice no nN nc, .slice ko kN kc]) (by simp [results, Tryz.results181, go_sem, m0, m1, m2, m3, m4, m5, m6, m7, m8, m9]) rfl ?_
  exact ⟨rfl, HS4.out.put HP.out PZ⟩

set_option maxRecDepth 100000 in
set_option maxHeartbeats 3200000 in
theorem w_unary1 {B : Nat} {so : Option Addr} {sc : Nat} {ws : List Tok} {nb t o : Nat} {t1 o1 : Nat} (d : ND) (w : World) (hP : PAt w B so sc ws nb t o) (h1 : syP ws t [45] = false)
    (HT : Hid (∀ u, PAt u B so sc ws nb t o → Calls Tryz.prog 181 #[.pointer (some ⟨B, 0, none⟩)] u fun e w' => NdR B so sc ws nb u t1 o1 d e w')) :
    Calls Tryz.prog 163 #[.pointer (some ⟨B, 0, none⟩)] w fun e w' => NdR B so sc ws nb w t1 o1 d e w' := by
  have H1 : Hid (∀ u, PAt u B so sc ws nb (t) o → Calls Tryz.prog 160 #[.pointer (some ⟨B, 0, none⟩), .string ⟨#[45]⟩] u fun e w' => e = .returned (.bool false) ∧ Below u.heap.size u w') := fun u hu => by
    have := w_says [45] u hu
    rwa [h1] at this
  have hB := hP.lt
  have HP := Hid.mk hP
  have HS0 := Hid.mk (St.new hP)
  have HW : Hid (∀ u, Calls Tryz.prog 132 #[.slice none 0 0, d.v] u fun e w' => e = .returned d.v ∧ Below u.heap.size u w') := fun u => w_within0 d u
  clear hP h1
  unfold NdR at *
  obtain ⟨op, at_, vk, tx, nu, vt, io, yo, no, ko, iN, ic, yN, yc, nN, nc, kN, kc⟩ := d
  unfold ND.v at *
  dsimp only at *
  go_enter Tryz.func163, Tryz.ntmps163
  go_wp2_with fail
  refine wp_loop_rounds 1 ?_
  rw [rounds_succ]
  go_wp2_with fail
  refine (H1.out _ HS0.out.pat).mono ?_
  rintro e w1 ⟨rfl, hb1⟩
  have HS1 := Hid.mk (HS0.out.keep hb1)
  clear hb1
  go_wp2_with fail
  refine (HT.out _ HS1.out.pat).mono ?_
  rintro e w2 ⟨rfl, hb2, hp2⟩
  have HS2 := Hid.mk (HS1.out.step hB hb2 hp2)
  clear hb2 hp2
  go_wp2_with fail
  refine (HW.out _).mono ?_
  rintro e w3 ⟨rfl, hb3⟩
  have HS3 := Hid.mk (HS2.out.keep hb3)
  clear hb3
  obtain ⟨n0, n1, n2, n3, n4, n5, n6, n7, n8, n9⟩ := nd_cells HS3.out.res
  obtain ⟨f0, f1, f2, f3, f4, f5, f6, f7, f8, f9⟩ := nd_frozen HS3.out.res
  go_wp2_with fail
  generalize hzZ : (((((((((w3.setCell ⟨w.heap.size, 0, none⟩ (.int .i64 op)).setCell ⟨w.heap.size, 1, none⟩ (.int .i64 at_)).setCell ⟨w.heap.size, 2, none⟩ (.string tx)).setCell ⟨w.heap.size, 3, none⟩ (.int .i64 vk)).setCell ⟨w.heap.size, 4, none⟩ (.string nu)).setCell ⟨w.heap.size, 5, none⟩ (.string vt)).setCell ⟨w.heap.size, 6, none⟩ (.slice io iN ic)).setCell ⟨w.heap.size, 7, none⟩ (.slice yo yN yc)).setCell ⟨w.heap.size, 8, none⟩ (.slice no nN nc)).setCell ⟨w.heap.size, 9, none⟩ (.slice ko kN kc) = WZ
  have PZ := nd_set HS3.out.res hzZ
  obtain ⟨m0, m1, m2, m3, m4, m5, m6, m7, m8, m9⟩ := nd_cells PZ.new
  refine bodyPost_ret (v := .agg #[.int .i64 op, .int .i64 at_, .string tx, .int .i64 vk, .string nu, .string vt, .slice io iN ic, .slice yo yN yc, .slice no nN nc, .slice ko kN kc]) (by simp [results, Tryz.results163, go_sem, m0, m1, m2, m3, m4, m5, m6, m7, m8, m9]) rfl ?_
  exact ⟨rfl, HS3.out.put HP.out PZ⟩

end Go.Proofs.YtdmkfdaddacdhaaGreatDoor
