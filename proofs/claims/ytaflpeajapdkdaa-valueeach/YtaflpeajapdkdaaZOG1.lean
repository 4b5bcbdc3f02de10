import Derived.Test.YtaflpeajapdkdaaM50
import Derived.Sort.CutIn
import Derived.Lib.QuietBelowIn
namespace Go.Proofs.Ytaflpeajapdkdaa
open Go.RowKit Go.Maps Go.Sort Go.Shelf
set_option linter.unusedVariables false
set_option linter.unusedSimpArgs false
attribute [local go_sem] Oper.semAt_some

set_option maxRecDepth 100000 in
set_option maxHeartbeats 25600000 in
theorem w_ValueEach (h : Nat) (T : VT) (kd : Int) (nm tx : ByteArray) (io : Option Addr) (N ic : Nat) (ko : Option Addr) (K kc : Nat) (leave : Int) (w : World) (hI : InH w (h + 1) T (.agg #[.int .i64 kd, .string nm, .string tx, .slice io N ic, .slice ko K kc])) :
    Calls Try.prog 3 #[.agg #[.int .i64 kd, .string nm, .string tx, .slice io N ic, .slice ko K kc], .int .i64 leave] w fun e w' => e = .returned (.bool true) ∧ Below w.heap.size w w' := by
  have HI := Hid.mk hI
  obtain ⟨W4, hW4⟩ : ∃ W4, (((w.alloc (.cells #[.int .i64 kd, .string nm, .string tx, .slice io N ic, .slice ko K kc] 25)).alloc (.cells #[.int .i64 leave] 3)).alloc (.cells #[.bool false] 4)).alloc (.cells #[.int .i64 0] 3) = W4 := ⟨_, rfl⟩
  have s4 : W4.heap.size = w.heap.size + 4 := by rw [← hW4]; simp
  have HB4 : Hid (Below w.heap.size w W4) := by show Below _ _ _; rw [← hW4]; exact ((((Below.refl _ w).alloc (Nat.le_refl _) _).alloc (by simp) _).alloc (by simp <;> omega) _).alloc (by simp <;> omega) _
  have hX : W4.heap[w.heap.size]? = some (.cells #[.int .i64 kd, .string nm, .string tx, .slice io N ic, .slice ko K kc] 25 (0, 0)) ∧ W4.heap[w.heap.size + 1]? = some (.cells #[.int .i64 leave] 3 (0, 0)) ∧ W4.heap[w.heap.size + 2]? = some (.cells #[.bool false] 4 (0, 0)) ∧ W4.heap[w.heap.size + 3]? = some (.cells #[.int .i64 0] 3 (0, 0)) := by
    rw [← hW4]
    refine ⟨?_, ?_, ?_, ?_⟩
    · rw [Below.heap_alloc _ _ _ (by simp <;> omega), Below.heap_alloc _ _ _ (by simp <;> omega), Below.heap_alloc _ _ _ (by simp)]; exact heap_alloc_new w _
    · rw [Below.heap_alloc _ _ _ (by simp <;> omega), Below.heap_alloc _ _ _ (by simp)]
      have := heap_alloc_new (w.alloc (.cells #[.int .i64 kd, .string nm, .string tx, .slice io N ic, .slice ko K kc] 25)) (.cells #[.int .i64 leave] 3)
      rwa [World.size_alloc] at this
    · rw [Below.heap_alloc _ _ _ (by simp)]
      have := heap_alloc_new ((w.alloc (.cells #[.int .i64 kd, .string nm, .string tx, .slice io N ic, .slice ko K kc] 25)).alloc (.cells #[.int .i64 leave] 3)) (.cells #[.bool false] 4)
      rwa [World.size_alloc, World.size_alloc] at this
    · have := heap_alloc_new (((w.alloc (.cells #[.int .i64 kd, .string nm, .string tx, .slice io N ic, .slice ko K kc] 25)).alloc (.cells #[.int .i64 leave] 3)).alloc (.cells #[.bool false] 4)) (.cells #[.int .i64 0] 3)
      rwa [World.size_alloc, World.size_alloc, World.size_alloc] at this
  obtain ⟨hx0, hx1, hx2, hx3⟩ := hX
  have HX0 := Hid.mk hx0
  have HX1 := Hid.mk hx1
  have HX2 := Hid.mk hx2
  have HX3 := Hid.mk hx3
  have HW4 := Hid.mk hW4
  have HS4 := Hid.mk s4
  clear hI hW4 s4 hx0 hx1 hx2 hx3
  refine (callsIn_wide (n := 7)).1 ?_
  refine callsIn_of_wp_marks Try.func3 rfl trivial ?_ rfl
  simp only [Try.ntmps3, List.size_toArray, List.length_cons, List.length_nil, Nat.reduceAdd, Nat.reduceSub, Array.replicate_succ, Array.replicate_zero, List.push_toArray, List.append_toArray, List.nil_append, List.cons_append]
  gi_upto_region 2 with fail
  rw [HW4.out]
  clear HW4
  generalize hB : w.heap.size + 1 + 1 + 1 = B
  generalize hRS : w.heap.size + 1 + 1 = RS
  generalize hLV : w.heap.size + 1 = LV
  have HLB : Hid (LV = w.heap.size + 1 ∧ RS = w.heap.size + 2 ∧ B = w.heap.size + 3) := ⟨hLV.symm, hRS.symm, hB.symm⟩
  have hx1 : W4.heap[LV]? = some (.cells #[.int .i64 leave] 3 (0, 0)) := by rw [← hLV]; exact HX1.out
  have hx2 : W4.heap[RS]? = some (.cells #[.bool false] 4 (0, 0)) := by rw [← hRS]; exact HX2.out
  have hx3 : W4.heap[B]? = some (.cells #[.int .i64 0] 3 (0, 0)) := by rw [← hB]; exact HX3.out
  clear HX1 HX2 HX3
  have HX1 := Hid.mk hx1
  have HX2 := Hid.mk hx2
  have HX3 := Hid.mk hx3
  clear hB hRS hLV hx1 hx2 hx3
  have HOne := Hid.mk (oneT_in W4)
  have HEach := Hid.mk (fun u (hu : Below ((W4.alloc (.cells #[.string ⟨#[107]⟩] 9)).alloc (.cells #[.int .i64 2, .string ⟨#[]⟩, .string ⟨#[]⟩, .slice none 0 0, .slice none 0 0] 25)).heap.size ((W4.alloc (.cells #[.string ⟨#[107]⟩] 9)).alloc (.cells #[.int .i64 2, .string ⟨#[]⟩, .string ⟨#[]⟩, .slice none 0 0, .slice none 0 0] 25)) u) => w_Each 1 oneT _ u (HOne.out.keep hu) (by decide) oneT_form)
  clear HOne
  gi_wp2_with fail
  refine ⟨trivial, (callsIn_wide.2 (HEach.out _ (Below.refl _ _))).mono ?_⟩
  clear HEach
  rintro e u1 ⟨A1, io1, ic1, ko1, kc1, rfl, HK1⟩
  have hU1 : Below W4.heap.size W4 u1 := (below2 W4 _ _).trans (HK1.out.2.1.mono (by simp <;> omega))
  have hA1 : w.heap.size + 4 ≤ A1 := by
    have := HK1.out.1
    rw [World.size_alloc, World.size_alloc, HS4.out] at this
    omega
  have hA1u : A1 < u1.heap.size := (Array.getElem?_eq_some_iff.1 HK1.out.2.2.1).1
  have hBw := HLB.out.2.2
  obtain ⟨hN1, hK1, c1, hone1, hin1, hT1⟩ := HK1.out.inK (B := B) (by omega)
  have HSEQ1 := Hid.mk (each1_seq 1 B A1 oneT.items.length oneT.keys.length (A1 + 1) _ _ _ io1 ic1 ko1 kc1 _ c1 ⟨hN1, hK1⟩ (by decide) (by decide) hone1 oneT.items rfl (by decide) u1 (by omega) (by omega) hin1 hT1)
  clear HK1 hN1 hK1 hone1 hin1 hT1
  have hEI : EI w u1 u1.heap.size B 0 u1 := ⟨(hU1.block _ (by rw [HS4.out]; omega)).trans HX3.out, KpM.refl _ _ _, HB4.out.trans (hU1.mono (by rw [HS4.out]; omega)), fun _ _ _ => rfl⟩
  have HA1 := Hid.mk (And.intro hA1 hA1u)
  have HBU : Hid (B < u1.heap.size) := show B < _ by omega
  have HU1 := Hid.mk hU1
  have HEI := Hid.mk hEI
  clear hA1 hA1u hBw hU1 hEI
  have hnil := run_seqNilE
  gi_wp2_with fail
  clear hnil
  refine rf_blockX (M := fun D W => u1.heap.size ≤ D ∧ W.heap[D]? = some (.deferred (some [])) ∧ EI w u1 u1.heap.size B 1 W) ?_ ?_
  · have hbl : B < u1.heap.size := (Array.getElem?_eq_some_iff.1 HEI.out.box).1
    have hwb : w.heap.size ≤ B := by have := HLB.out.2.2; omega
    refine wpIn_range_ownAt (by omega) (gf := 14) (lb := #[.pointer (some ⟨A1, 0, none⟩)]) rfl (enters_of Try.func14 (by kernel_rfl) rfl) HSEQ1.out (fun h k => h.trans k) (fun x W r r' h => KpE.putObj h (by omega)) (Below.refl _ _) (fun _ => rfl)
      (fun (pre : List (EX oneT.items.length)) W => EI w u1 u1.heap.size B pre.length W) (fun _ _ _ => False) (EI.own (by have := HEI.out.below.size; exact this) (Nat.le_refl _) (Nat.le_refl _)) (fun c xs X Y row h _ _ => h) HEI.out
      (fun x a' W => ∃ Bx, AX 1 oneT.items (u1.heap.size + 2) x Bx W ∧ a' = { tmps := #[Value.agg #[Value.int IntKind.i64 kd, Value.string nm, Value.string tx, Value.slice io N ic, Value.slice ko K kc], Value.int IntKind.i64 leave, Value.pointer (some { block := w.heap.size, off := 0 }), Value.pointer (some { block := LV, off := 0 }), Value.pointer (some { block := RS, off := 0 }), Value.pointer (some { block := B, off := 0 }), Value.func (Fn.func 14) #[] #[Value.pointer (some { block := A1, off := 0 })], Value.string (kyF oneT.keys.length (fun i => oneT.keys.getD i .empty) x.1.1), Value.pointer (some ⟨Bx, 0, none⟩), undef, undef, undef, undef, undef, undef, undef, undef, undef, Value.slice (some { block := W4.heap.size, off := 0 }) 1 1, Value.agg #[Value.int IntKind.i64 2, Value.string { data := #[] }, Value.string { data := #[] }, Value.slice none 0 0, Value.slice none 0 0], Value.slice (some { block := W4.heap.size + 1, off := 0 }) 1 1, Value.agg #[Value.int IntKind.i64 6, Value.string { data := #[] }, Value.string { data := #[] }, Value.slice (some { block := W4.heap.size + 1, off := 0 }) 1 1, Value.slice (some { block := W4.heap.size, off := 0 }) 1 1], Value.func (Fn.func 14) #[] #[Value.pointer (some { block := A1, off := 0 })], Value.func (Fn.func 14) #[] #[Value.pointer (some { block := A1, off := 0 })], Value.bool false, Value.func (Fn.func 14) #[] #[Value.pointer (some { block := A1, off := 0 })], Value.string (kyF oneT.keys.length (fun i => oneT.keys.getD i .empty) x.1.1), Value.agg #[x.2.1 0, x.2.1 1, x.2.1 2, x.2.1 3, x.2.1 4], undef, undef, undef, undef, undef, undef, undef, undef, undef, undef, undef, undef, undef, undef, undef, undef, undef, undef, undef, undef, undef, undef, undef, undef, undef, undef, undef, undef, undef, undef, undef, undef, undef, undef, undef, undef, undef, undef, undef, undef, undef, undef, undef, undef, undef, undef, undef, undef, undef, undef, undef, undef, undef, undef, undef, undef, undef, undef, undef, undef, undef, undef, undef, undef, undef, undef, undef, undef, undef, undef, undef, undef, undef, undef, undef, undef, undef, undef, undef, undef, undef, undef, undef, undef, undef, undef, undef, undef, undef, undef, undef], defers := [] })
      (fun x a' _ X Y row hs hg hr => by
        obtain ⟨Bx, h1, h2⟩ := hs
        exact ⟨Bx, h1.own hg hr, h2⟩) ?assign1 ?body1 ?done1 ?stop1
    case assign1 =>
      rintro l' pre x W KK hI hAt hKK
      have hAX := AX.new hAt
      obtain ⟨T', hT', hO'⟩ := hAt.2.2
      obtain ⟨yo, yc, zo, zc, e0, e1, e2, e3, e4⟩ := hO'.kinds
      have FIN := hKK { tmps := #[Value.agg #[Value.int IntKind.i64 kd, Value.string nm, Value.string tx, Value.slice io N ic, Value.slice ko K kc], Value.int IntKind.i64 leave, Value.pointer (some { block := w.heap.size, off := 0 }), Value.pointer (some { block := LV, off := 0 }), Value.pointer (some { block := RS, off := 0 }), Value.pointer (some { block := B, off := 0 }), Value.func (Fn.func 14) #[] #[Value.pointer (some { block := A1, off := 0 })], Value.string (kyF oneT.keys.length (fun i => oneT.keys.getD i .empty) x.1.1), Value.pointer (some ⟨W.heap.size, 0, none⟩), undef, undef, undef, undef, undef, undef, undef, undef, undef, Value.slice (some { block := W4.heap.size, off := 0 }) 1 1, Value.agg #[Value.int IntKind.i64 2, Value.string { data := #[] }, Value.string { data := #[] }, Value.slice none 0 0, Value.slice none 0 0], Value.slice (some { block := W4.heap.size + 1, off := 0 }) 1 1, Value.agg #[Value.int IntKind.i64 6, Value.string { data := #[] }, Value.string { data := #[] }, Value.slice (some { block := W4.heap.size + 1, off := 0 }) 1 1, Value.slice (some { block := W4.heap.size, off := 0 }) 1 1], Value.func (Fn.func 14) #[] #[Value.pointer (some { block := A1, off := 0 })], Value.func (Fn.func 14) #[] #[Value.pointer (some { block := A1, off := 0 })], Value.bool false, Value.func (Fn.func 14) #[] #[Value.pointer (some { block := A1, off := 0 })], Value.string (kyF oneT.keys.length (fun i => oneT.keys.getD i .empty) x.1.1), Value.agg #[x.2.1 0, x.2.1 1, x.2.1 2, x.2.1 3, x.2.1 4], undef, undef, undef, undef, undef, undef, undef, undef, undef, undef, undef, undef, undef, undef, undef, undef, undef, undef, undef, undef, undef, undef, undef, undef, undef, undef, undef, undef, undef, undef, undef, undef, undef, undef, undef, undef, undef, undef, undef, undef, undef, undef, undef, undef, undef, undef, undef, undef, undef, undef, undef, undef, undef, undef, undef, undef, undef, undef, undef, undef, undef, undef, undef, undef, undef, undef, undef, undef, undef, undef, undef, undef, undef, undef, undef, undef, undef, undef, undef, undef, undef, undef, undef, undef, undef, undef, undef, undef, undef, undef, undef], defers := [] } _ (keepsFrom_below (below1 W (.cells #[x.2.1 0, x.2.1 1, x.2.1 2, x.2.1 3, x.2.1 4] 25))) ⟨KpM.of_below (below1 W _) hAt.2.1, KeepsTo.of_from (keepsFrom_below (below1 W _))⟩ ((EI.own (by have := HEI.out.below.size; exact this) (Nat.le_refl _) (Nat.le_refl _)).alloc _ hI) ⟨_, hAX, rfl⟩
      unfold encE
      dsimp only
      rw [e0, e1, e2, e3, e4] at FIN ⊢
      clear hKK hAX hO' hI hAt
      gi_wp2_with fail
      exact FIN
    case body1 =>
      rintro l' pre x a' W hl _ hI ⟨Bx, hX, rfl⟩ hlt hSp
      have hx0 : x.1.1 = 0 := by have : x.1.1 < 1 := x.1.2; omega
      have hkey : kyF oneT.keys.length (fun i => oneT.keys.getD i .empty) x.1.1 = ⟨#[107]⟩ := by rw [hx0]; rfl
      obtain ⟨T', hT', hO'⟩ := hX.tree
      have hT2 : T' = .mk 2 ⟨#[]⟩ ⟨#[]⟩ [] [] := by rw [hx0] at hT'; exact (Option.some.inj hT').symm
      subst hT2
      obtain ⟨yo, yc, zo, zc, e0, e1, e2, e3, e4⟩ := hO'.kinds
      have hbox := hX.box
      rw [e0, e1, e2, e3, e4] at hbox
      have b0 : W.cell? ⟨Bx, 0, none⟩ = some (.int .i64 2) := cell_of_row _ _ 0 _ _ _ hbox
      have hlo := hX.lo
      have HF : Hid (∀ z : Int, z = (pre.length : Int) + 1 → EI w u1 u1.heap.size B (pre ++ [x]).length (W.setCell ⟨B, 0, none⟩ (.int .i64 z)) ∧ KpE B (u1.heap.size + 2) x W (W.setCell ⟨B, 0, none⟩ (.int .i64 z)) ∧ KeepsTo u1.heap.size (u1.heap.size + 2) W (W.setCell ⟨B, 0, none⟩ (.int .i64 z))) := fun z hz => by
        rw [show (pre ++ [x]).length = pre.length + 1 from by simp]
        exact ei_step hI (Below.refl x.2.2 W) (by omega) hwb hbl hlo (u1.heap.size + 2) z hz
      have b5 := cell_of_row _ _ 0 _ _ _ hI.box
      have f5 : W.frozen? ⟨B, 0, none⟩ = false := frozen_row hI.box
      simp only [List.getElem?_toArray, List.getElem?_cons_zero] at b5
      rw [hkey, e0, e1, e2, e3, e4]
      have hj : (pre.length : Int) ≤ 100000 := by have : pre.length < 1 := hlt; omega
      have hj0 : (0 : Int) ≤ (pre.length : Int) := by omega
      generalize (pre.length : Int) = j at b5 HF hj hj0
      clear hx0 hkey hT' hO' e0 e1 e2 e3 e4 hbox hX hI hlo hlt hSp hl
      gi_wp2_with fail
      obtain ⟨f1, f2, f3⟩ := HF.out _ rfl
      exact ⟨⟨f3, f2, f1⟩, f2⟩
    case done1 =>
      rintro D xs W hD hS hI hK
      have hl : xs.length = 1 := by have := congrArg List.length hS; rw [List.length_map, List.length_range] at this; exact this
      rw [hl] at hI
      exact ⟨.inl rfl, D, rfl, hD, hK, hI⟩
    case stop1 =>
      rintro D c pre W hD hSp hf hK
      exact hf.elim
  rintro D1 w1 ⟨hD1, hKD1, hEI1⟩
  have HKD1 := Hid.mk (And.intro hD1 hKD1)
  have HE1 := Hid.mk hEI1
  have b5 : w1.cell? ⟨B, 0, none⟩ = some (.int .i64 1) := cell_of_row _ _ 0 _ _ _ hEI1.box
  have HUW1 : Hid (Below w.heap.size w w1) := hEI1.below
  have hX1 : w1.heap[w.heap.size]? = some (.cells #[.int .i64 kd, .string nm, .string tx, .slice io N ic, .slice ko K kc] 25 (0, 0)) ∧ w1.heap[LV]? = some (.cells #[.int .i64 leave] 3 (0, 0)) ∧ w1.heap[RS]? = some (.cells #[.bool false] 4 (0, 0)) := by
    obtain ⟨l1, l2, l3⟩ := HLB.out
    have hs := HU1.out.size
    rw [HS4.out] at hs
    have s4 := HS4.out
    have g : ∀ {b : Nat} {cs : Array Value} {t : TypeId}, b < w.heap.size + 3 → W4.heap[b]? = some (.cells cs t (0, 0)) → w1.heap[b]? = some (.cells cs t (0, 0)) := fun hb hc => hEI1.kp.same _ _ (by omega) (by omega) ((HU1.out.block _ (by omega)).trans hc) rfl
    exact ⟨g (by omega) HX0.out, g (by omega) HX1.out, g (by omega) HX2.out⟩
  have HY := Hid.mk hX1
  clear hD1 hKD1 hEI1 hX1 HX0 HX1 HX2 HX3 HSEQ1 HEI HA1
  have HTv := Hid.mk (fun u (hu : Below w.heap.size w u) => HI.out.keep hu)
  have HSm : Hid (∀ u, Below w.heap.size w u → Calls Try.prog 5 #[.agg #[.int .i64 kd, .string nm, .string tx, .slice io N ic, .slice ko K kc]] u fun e w' => e = .returned (.bool (decide (szN (h + 1) T ≤ 10000))) ∧ Below u.heap.size u w') := fun u hu => w_smallX (h + 1) T _ u (HTv.out u hu)
  have HFm : Hid (∀ u, Below w.heap.size w u → Calls Try.prog 6 #[.agg #[.int .i64 kd, .string nm, .string tx, .slice io N ic, .slice ko K kc]] u fun e w' => e = .returned (.bool (formN (h + 1) T)) ∧ Below u.heap.size u w') := fun u hu => w_rFormed (h + 1) T _ u (HTv.out u hu)
  obtain ⟨sv, hsv⟩ : ∃ f, decide (szN (h + 1) T ≤ 10000) = f := ⟨_, rfl⟩
  rw [hsv] at HSm
  obtain ⟨fv, hfv⟩ : ∃ f, formN (h + 1) T = f := ⟨_, rfl⟩
  rw [hfv] at HFm
  have HSV := Hid.mk hsv
  have HFV := Hid.mk hfv
  clear hsv hfv
  have HAC : Hid (∀ u, Below w1.heap.size w1 u → u.cell? ⟨w.heap.size, 0, none⟩ = some (.int .i64 kd) ∧ u.cell? ⟨w.heap.size, 1, none⟩ = some (.string nm) ∧ u.cell? ⟨w.heap.size, 2, none⟩ = some (.string tx) ∧ u.cell? ⟨w.heap.size, 3, none⟩ = some (.slice io N ic) ∧ u.cell? ⟨w.heap.size, 4, none⟩ = some (.slice ko K kc)) := fun u hu => by
    have hb := (hu.block _ (Array.getElem?_eq_some_iff.1 HY.out.1).1).trans HY.out.1
    exact ⟨cell_of_row _ _ 0 _ _ _ hb, cell_of_row _ _ 1 _ _ _ hb, cell_of_row _ _ 2 _ _ _ hb, cell_of_row _ _ 3 _ _ _ hb, cell_of_row _ _ 4 _ _ _ hb⟩
  obtain ⟨a0, a1, a2, a3, a4⟩ := HAC.out w1 (Below.refl _ _)
  gi_wp2_with fail
  refine ⟨trivial, (callsIn_wide.2 (HSm.out _ HUW1.out)).mono ?_⟩
  rintro e u2 ⟨rfl, hb2⟩
  have HU2 : Hid (Below w1.heap.size w1 u2) := hb2
  have HUW2 : Hid (Below w.heap.size w u2) := HUW1.out.trans (hb2.mono HUW1.out.size)
  obtain ⟨a0, a1, a2, a3, a4⟩ := HAC.out u2 hb2
  have hr2 : u2.heap[RS]? = some (.cells #[.bool false] 4 (0, 0)) := (hb2.block _ (Array.getElem?_eq_some_iff.1 HY.out.2.2).1).trans HY.out.2.2
  have r2 : u2.cell? ⟨RS, 0, none⟩ = some (.bool false) := cell_of_row _ _ 0 _ _ _ hr2
  have f2 : u2.frozen? ⟨RS, 0, none⟩ = false := frozen_row hr2
  have hd2 : u2.heap[D1]? = some (.deferred (some [])) := (hb2.block _ (Array.getElem?_eq_some_iff.1 HKD1.out.2).1).trans HKD1.out.2
  have HD2 := Hid.mk hd2
  have HR2 := Hid.mk hr2
  clear b5 hb2 HSm hr2 hd2
  cases sv with
  | false =>
    gi_wp2_with fail
    refine ⟨trivial, ?_⟩
    gi_wp2_with fail
    have hlb := HLB.out
    have hD1 := HKD1.out.1
    have hu1 := HE1.out.kp.size
    have hBu1 := HBU.out
    have hE : (u2.setCell ⟨RS, 0, none⟩ (.bool true)).heap[D1]? = some (.deferred (some [])) := (Below.heap_setCell _ _ _ _ (by show D1 ≠ RS; omega)).trans HD2.out
    refine ⟨by simp, .inl ⟨_, _, rfl, run_takeDeferred hE, ?_⟩⟩
    have hc := cell_kept (World.cell?_setCell_same u2 ⟨RS, 0, none⟩ (.bool true) r2) (grownBy_putObj' _ D1 (.deferred none)) (fun r e => by cases e; exact ⟨_, hE, rfl⟩)
    refine ⟨.bool true, ?_, rfl, (HUW2.out.setCell (p := ⟨RS, 0, none⟩) (by show _ ≤ RS; omega) _).trans (belowK_b (w := w) (Nat.le_refl _) _ D1 _ _ (by omega) hE rfl rfl)⟩
    simp [results, Try.results3, go_sem, hc]
  | true =>
    gi_wp2_with fail
    refine ⟨trivial, (callsIn_wide.2 (HFm.out _ HUW2.out)).mono ?_⟩
    rintro e u3 ⟨rfl, hb3⟩
    have HU3 : Hid (Below w1.heap.size w1 u3) := HU2.out.trans (hb3.mono HU2.out.size)
    have HUW3 : Hid (Below w.heap.size w u3) := HUW2.out.trans (hb3.mono HUW2.out.size)
    have HS23 : Hid (w1.heap.size ≤ u3.heap.size) := HU3.out.size
    obtain ⟨a0, a1, a2, a3, a4⟩ := HAC.out u3 HU3.out
    have hr3 : u3.heap[RS]? = some (.cells #[.bool false] 4 (0, 0)) := (hb3.block _ (Array.getElem?_eq_some_iff.1 HR2.out).1).trans HR2.out
    have r3 : u3.cell? ⟨RS, 0, none⟩ = some (.bool false) := cell_of_row _ _ 0 _ _ _ hr3
    have f3 : u3.frozen? ⟨RS, 0, none⟩ = false := frozen_row hr3
    have hd3 : u3.heap[D1]? = some (.deferred (some [])) := (hb3.block _ (Array.getElem?_eq_some_iff.1 HD2.out).1).trans HD2.out
    have HD3 := Hid.mk hd3
    have HR3 := Hid.mk hr3
    clear hb3 HFm hr3 hd3 r2 f2 HR2 HD2
    cases fv with
    | false =>
      gi_wp2_with fail
      have hlb := HLB.out
      have hD1 := HKD1.out.1
      have hu1 := HE1.out.kp.size
      have hBu1 := HBU.out
      have hE : (u3.setCell ⟨RS, 0, none⟩ (.bool true)).heap[D1]? = some (.deferred (some [])) := (Below.heap_setCell _ _ _ _ (by show D1 ≠ RS; omega)).trans HD3.out
      refine ⟨by simp, .inl ⟨_, _, rfl, run_takeDeferred hE, ?_⟩⟩
      have hc := cell_kept (World.cell?_setCell_same u3 ⟨RS, 0, none⟩ (.bool true) r3) (grownBy_putObj' _ D1 (.deferred none)) (fun r e => by cases e; exact ⟨_, hE, rfl⟩)
      refine ⟨.bool true, ?_, rfl, (HUW3.out.setCell (p := ⟨RS, 0, none⟩) (by show _ ≤ RS; omega) _).trans (belowK_b (w := w) (Nat.le_refl _) _ D1 _ _ (by omega) hE rfl rfl)⟩
      simp [results, Try.results3, go_sem, hc]
    | true =>
      have HRm := Hid.mk (w_rRoomyTop h T _ u3 (HTv.out u3 HUW3.out) (by have := of_decide_eq_true HSV.out; omega))
      gi_wp2_with fail
      refine ⟨trivial, (callsIn_wide.2 HRm.out).mono ?_⟩
      clear HRm r3 f3
      rintro e u4 ⟨v4, rfl, HV4⟩
      obtain ⟨q0, q1, q2, mo, mN, mc, lo, lN, lc, rfl, HIR, HKR, HMC⟩ : ∃ q0 q1 q2 mo mN mc lo lN lc, v4 = .agg #[.int .i64 q0, .string q1, .string q2, .slice mo mN mc, .slice lo lN lc] ∧ Hid (∃ ys, u4.ownsRow u3.heap.size 25 5 (.slice mo mN mc) mN ys) ∧ Hid (∃ ys, u4.ownsRow u3.heap.size 9 1 (.slice lo lN lc) lN ys) ∧ Hid (mN ≤ mc ∧ lN ≤ lc ∧ mN ≤ 140737488355328 ∧ lN ≤ 140737488355328) := by
        obtain ⟨i1, _, b0, b1, b2, io', N', ic', ko', K', kc', e1, h2, h3⟩ := HV4.out
        obtain ⟨io2, ic2, ko2, kc2, e2, _, _, g3, g4, g5, g6, _⟩ := i1
        rw [e2] at e1
        simp only [Value.agg.injEq, Array.mk.injEq, List.cons.injEq, Value.slice.injEq, and_true] at e1
        obtain ⟨_, _, _, ⟨rfl, rfl, rfl⟩, rfl, rfl, rfl⟩ := e1
        exact ⟨_, _, _, _, _, _, _, _, _, e2, h2, h3, ⟨g5, g6, g3, g4⟩⟩
      have HB34 : Hid (Below u3.heap.size u3 u4) := HV4.out.2.1
      have HIm : Hid (InH u4 (h + 1) T (.agg #[.int .i64 q0, .string q1, .string q2, .slice mo mN mc, .slice lo lN lc])) := HV4.out.1.toH
      clear HV4
      obtain ⟨u5, hu5⟩ : ∃ u, u4.alloc (.cells #[.int .i64 q0, .string q1, .string q2, .slice mo mN mc, .slice lo lN lc] 25) = u := ⟨_, rfl⟩
      have HM5 : Hid (u5.heap[u4.heap.size]? = some (.cells #[.int .i64 q0, .string q1, .string q2, .slice mo mN mc, .slice lo lN lc] 25 (0, 0))) := by show _ = _; rw [← hu5]; exact heap_alloc_new u4 _
      have HB45 : Hid (Below u4.heap.size u4 u5) := by rw [← hu5]; exact below1 u4 _
      have hs5 : u5.heap.size = u4.heap.size + 1 := by rw [← hu5]; simp
      have HS5 := Hid.mk hs5
      have HU5 := Hid.mk hu5
      have HEa := Hid.mk (w_Each h T _ u5 (HIm.out.keep HB45.out) (by have := of_decide_eq_true HSV.out; omega) HFV.out)
      clear hu5 hs5
      gi_wp2_with fail
      rw [HU5.out]
      refine ⟨trivial, (callsIn_wide.2 HEa.out).mono ?_⟩
      clear HEa HIm HU5
      rintro e u6 ⟨A2, io2, ic2, ko2, kc2, rfl, HK2⟩
      have HB56 : Hid (Below u5.heap.size u5 u6) := HK2.out.2.1
      have hnil := run_seqNilE
      gi_wp2_with fail
      clear hnil
      have hM6 : u6.heap[u4.heap.size]? = some (.cells #[.int .i64 q0, .string q1, .string q2, .slice mo mN mc, .slice lo lN lc] 25 (0, 0)) := (HB56.out.block _ (by rw [HS5.out]; omega)).trans HM5.out
      have HM6 := Hid.mk hM6
      have HMid0 : Hid (Mid u3.heap.size u4.heap.size u6 u6) := Mid.refl _ _ _
      have hsh : Shp u4 u6 := Shp.of_below (HB45.out.trans (HB56.out.mono (by rw [HS5.out]; omega)))
      have HIR6 : Hid (∃ ys, u6.ownsRow u3.heap.size 25 5 (.slice mo mN mc) mN ys) := by obtain ⟨ys, hy⟩ := HIR.out; exact hsh.own hy
      have HKR6 : Hid (∃ ys, u6.ownsRow u3.heap.size 9 1 (.slice lo lN lc) lN ys) := by obtain ⟨ys, hy⟩ := HKR.out; exact hsh.own hy
      have HGI : Hid (∀ i, i < mN → ∃ g, mo = some ⟨g, 0, none⟩ ∧ u3.heap.size ≤ g ∧ g < u4.heap.size) := fun i hi => by
        obtain ⟨ys, hy⟩ := HIR.out
        obtain ⟨g, cur, h1, h2, h3, _⟩ := own_place hy hi
        exact ⟨g, h1, h2, (Array.getElem?_eq_some_iff.1 h3).1⟩
      have HGK : Hid (∀ i, i < lN → ∃ g, lo = some ⟨g, 0, none⟩ ∧ u3.heap.size ≤ g ∧ g < u4.heap.size) := fun i hi => by
        obtain ⟨ys, hy⟩ := HKR.out
        obtain ⟨g, cur, h1, h2, h3, _⟩ := own_place hy hi
        exact ⟨g, h1, h2, (Array.getElem?_eq_some_iff.1 h3).1⟩
      obtain ⟨hmc, hlc, hmN, hlN⟩ := HMC.out
      clear hM6 hsh HIR HKR a0 a1 a2 a3 a4 
      gi_loopw [11] (fun a wr => ∃ k : Nat, k ≤ mN ∧ a = .int .i64 (k : Int) ∧ Hid (Mid u3.heap.size u4.heap.size u6 wr)) (fun a _ => mN - (intOf a).toNat)
      case atStart => exact ⟨0, Nat.zero_le _, rfl, HMid0⟩
      case round =>
        clear HMid0
        obtain ⟨k, hk, rfl, HMq⟩ := hrel
        have hbox : wr.heap[u4.heap.size]? = some (.cells #[.int .i64 q0, .string q1, .string q2, .slice mo mN mc, .slice lo lN lc] 25 (0, 0)) := (HMq.out.same _ (Nat.le_refl _)).trans HM6.out
        have c3 : wr.cell? ⟨u4.heap.size, 3, none⟩ = some (.slice mo mN mc) := cell_of_row _ _ 3 _ _ _ hbox
        clear hbox
        by_cases hlt : k < mN
        · have hl1 : (k : Int) < (mN : Int) := by omega
          have hl0 : (0 : Int) ≤ (k : Int) := by omega
          obtain ⟨g, hmo, hg1, hg2⟩ := HGI.out k hlt
          subst hmo
          obtain ⟨ys, hys⟩ := HIR6.out
          obtain ⟨g', cur, hg', _, _, hcur, hth⟩ := HMq.out.place hys hlt
          obtain rfl : g = g' := by simpa using hg'
          obtain ⟨⟨x0, p0⟩, f0⟩ := there_cells hth (j := 0) (by omega)
          obtain ⟨⟨x1, p1⟩, f1⟩ := there_cells hth (j := 1) (by omega)
          obtain ⟨⟨x2, p2⟩, f2⟩ := there_cells hth (j := 2) (by omega)
          obtain ⟨⟨x3, p3⟩, f3⟩ := there_cells hth (j := 3) (by omega)
          obtain ⟨⟨x4, p4⟩, f4⟩ := there_cells hth (j := 4) (by omega)
          have HMn : Hid (Mid u3.heap.size u4.heap.size u6 (wr.setCells g (k * 5) [.int .i64 99, .string ⟨#[]⟩, .string ⟨#[]⟩, .slice none 0 0, .slice none 0 0])) := HMq.out.cells (.inr rfl) hcur hg1 hg2 _ _
          simp only [Nat.add_zero] at p0 f0
          clear hys hcur hth hg'
          gi_wp2_with fail
          go_roundw
          case rel => exact ⟨k + 1, hlt, by go_num, HMn⟩
          case measure => simp [intOf]; omega
        · have hl1 : ¬ (k : Int) < (mN : Int) := by omega
          gi_wp2_with fail
          clear c3
          gi_loopw [12] (fun a wr => ∃ k : Nat, k ≤ lN ∧ a = .int .i64 (k : Int) ∧ Hid (Mid u3.heap.size u4.heap.size u6 wr)) (fun a _ => lN - (intOf a).toNat)
          case atStart => exact ⟨0, Nat.zero_le _, rfl, HMq⟩
          case round =>
            clear HMq
            obtain ⟨kk, hkk, rfl, HMq⟩ := hrel
            have hbox : wr.heap[u4.heap.size]? = some (.cells #[.int .i64 q0, .string q1, .string q2, .slice mo mN mc, .slice lo lN lc] 25 (0, 0)) := (HMq.out.same _ (Nat.le_refl _)).trans HM6.out
            have c4 : wr.cell? ⟨u4.heap.size, 4, none⟩ = some (.slice lo lN lc) := cell_of_row _ _ 4 _ _ _ hbox
            clear hbox
            by_cases hlt2 : kk < lN
            · have hm1 : (kk : Int) < (lN : Int) := by omega
              have hm0 : (0 : Int) ≤ (kk : Int) := by omega
              obtain ⟨g, hmo, hg1, hg2⟩ := HGK.out kk hlt2
              subst hmo
              obtain ⟨ys, hys⟩ := HKR6.out
              obtain ⟨g', cur, hg', _, _, hcur, hth⟩ := HMq.out.place hys hlt2
              obtain rfl : g = g' := by simpa using hg'
              obtain ⟨⟨x0, p0⟩, f0⟩ := there_cells hth (j := 0) (by omega)
              have HMn : Hid (Mid u3.heap.size u4.heap.size u6 (wr.setCells g (kk * 1) [.string ⟨#[119, 114, 105, 116, 116, 101, 110, 32, 111, 118, 101, 114]⟩])) := HMq.out.cells (.inl rfl) hcur hg1 hg2 _ _
              simp only [Nat.add_zero, Nat.mul_one] at p0 f0 HMn
              clear hys hcur hth hg'
              gi_wp2_with fail
              go_roundw
              case rel => exact ⟨kk + 1, hlt2, by go_num, HMn⟩
              case measure => simp [intOf]; omega
            · have hm1 : ¬ (kk : Int) < (lN : Int) := by omega
              have HMF : Hid (Mid u3.heap.size u4.heap.size u6 wr) := HMq
              have h36 : Below u3.heap.size u3 u6 := HB34.out.trans ((HB45.out.trans (HB56.out.mono (by rw [HS5.out]; omega))).mono HB34.out.size)
              have HWR : Hid (Below w1.heap.size w1 wr) := HU3.out.trans ((h36.trans HMF.out.below).mono HS23.out)
              have hbr : wr.heap[B]? = some (.cells #[.int .i64 1] 3 (0, 0)) := (HWR.out.block _ (Array.getElem?_eq_some_iff.1 HE1.out.box).1).trans HE1.out.box
              have b5 : wr.cell? ⟨B, 0, none⟩ = some (.int .i64 1) := cell_of_row _ _ 0 _ _ _ hbr
              have f5 : wr.frozen? ⟨B, 0, none⟩ = false := frozen_row hbr
              have HBR := Hid.mk hbr
              clear HMq HIR6 HKR6 HGI HGK hkk hk hlt hlt2 hl1 h36 hbr hmc hlc hmN hlN HMC
              gi_wp2_with fail
              obtain ⟨w7, hw7⟩ : ∃ u, wr.setCell ⟨B, 0, none⟩ (.int .i64 0) = u := ⟨_, rfl⟩
              rw [hw7]
              have HW7 := Hid.mk hw7
              have h7s : w7.heap.size = wr.heap.size := by rw [← hw7]; exact World.size_setCell ..
              have h7b : w7.heap[B]? = some (.cells #[.int .i64 0] 3 (0, 0)) := by rw [← hw7]; exact box_setX _ HBR.out
              have h7o : ∀ b, b ≠ B → w7.heap[b]? = wr.heap[b]? := fun b hb => by rw [← hw7]; exact Below.heap_setCell _ _ _ _ (by show b ≠ B; exact hb)
              have h7w : Below w.heap.size w w7 := by
                rw [← hw7]
                exact (HUW1.out.trans (HWR.out.mono HUW1.out.size)).setCell (p := ⟨B, 0, none⟩) (by have := HLB.out.2.2; show _ ≤ B; omega) _
              have hBl1 : B < w1.heap.size := (Array.getElem?_eq_some_iff.1 HE1.out.box).1
              have h41 : w1.heap.size ≤ u4.heap.size := Nat.le_trans HS23.out HB34.out.size
              have hA2 : u4.heap.size + 1 ≤ A2 := by rw [← HS5.out]; exact HK2.out.1
              have h6r : ∀ b, u4.heap.size ≤ b → w7.heap[b]? = u6.heap[b]? := fun b hb => (h7o b (by omega)).trans (HMF.out.same b hb)
              have hA2l : A2 < u6.heap.size := (Array.getElem?_eq_some_iff.1 HK2.out.2.2.1).1
              have h76 : w7.heap.size = u6.heap.size := h7s.trans HMF.out.size
              have HK7 := Hid.mk (KeptE.of ((h6r A2 (by omega)).trans HK2.out.2.2.1) (InO.keepB (by omega) (fun b hb _ => h6r b (by omega)) (Nat.le_refl _) HK2.out.2.2.2))
              have h7x : w7.heap[w.heap.size]? = some (.cells #[.int .i64 kd, .string nm, .string tx, .slice io N ic, .slice ko K kc] 25 (0, 0)) ∧ w7.heap[LV]? = some (.cells #[.int .i64 leave] 3 (0, 0)) ∧ w7.heap[RS]? = some (.cells #[.bool false] 4 (0, 0)) ∧ w7.heap[D1]? = some (.deferred (some [])) := by
                obtain ⟨l1, l2, l3⟩ := HLB.out
                have hD1 := HKD1.out.1
                have hBu := HBU.out
                have g : ∀ {b : Nat} {o : Obj}, b ≠ B → w1.heap[b]? = some o → w7.heap[b]? = some o := fun hb hc => (h7o _ hb).trans ((HWR.out.block _ (Array.getElem?_eq_some_iff.1 hc).1).trans hc)
                exact ⟨g (by omega) HY.out.1, g (by omega) HY.out.2.1, g (by omega) HY.out.2.2, g (by omega) HKD1.out.2⟩
              have HX7 := Hid.mk h7x
              have HB7 : Hid (B < A2 ∧ A2 < w7.heap.size ∧ D1 < w7.heap.size ∧ w.heap.size ≤ B) := ⟨by omega, by omega, (Array.getElem?_eq_some_iff.1 h7x.2.2.2).1, by have := HLB.out.2.2; omega⟩
              have HE7 : Hid (EI w w7 w7.heap.size B 0 w7) := ⟨h7b, KpM.refl _ _ _, h7w, fun _ _ _ => rfl⟩
              obtain ⟨hti, htk, htx⟩ := items_le HI.out (of_decide_eq_true HSV.out)
              have HTI := Hid.mk hti
              obtain ⟨hN1, hK1, c2, hone2, hin2, hT2⟩ := HK7.out.inK (B := B) HB7.out.1
              have HP2 := Hid.mk (And.intro hN1 (And.intro hK1 (And.intro hone2 (And.intro hin2 hT2))))
              have HTX := Hid.mk (And.intro htk htx)
              have HSEQ2 := Hid.mk (each1_seq h B A2 T.items.length T.keys.length (A2 + 1) _ _ _ io2 ic2 ko2 kc2 _ c2 ⟨hN1, hK1⟩ (by omega) (by omega) hone2 T.items rfl (fun x hx => by have := htx x hx; omega) w7 (by omega) (by omega) hin2 hT2)
              have HLN : Hid (LV ≠ B ∧ RS ≠ B ∧ LV < B ∧ RS < B) := by have := HLB.out; exact ⟨by omega, by omega, by omega, by omega⟩
              clear hw7 HW7 h7s h7b h7o h7w hBl1 h41 hA2 h6r hA2l h76 HK7 h7x hti htk htx hN1 hK1 hone2 hin2 hT2 HMF HWR HBR HK2 HM6 HM5 HB45 HB56 HB34 HU3 HS23 b5 f5 hm1
              refine rf_blockX (M := fun D W => w7.heap.size ≤ D ∧ W.heap[D]? = some (.deferred (some [])) ∧ ∃ k : Nat, EI w w7 w7.heap.size B k W ∧ (k = T.items.length ∨ (k : Int) = leave)) ?_ ?_
              · have hbl : B < w7.heap.size := (Array.getElem?_eq_some_iff.1 HE7.out.box).1
                have hwb : w.heap.size ≤ B := HB7.out.2.2.2
                refine wpIn_range_ownAt (by omega) (gf := 14) (lb := #[.pointer (some ⟨A2, 0, none⟩)]) rfl (enters_of Try.func14 (by kernel_rfl) rfl) HSEQ2.out (fun h k => h.trans k) (fun x W r r' h => KpE.putObj h (by omega)) (Below.refl _ _) (fun _ => rfl)
                  (fun (pre : List (EX T.items.length)) W => EI w w7 w7.heap.size B pre.length W) (fun cc pre W => cc = .exit 6 ∧ (pre.length : Int) = leave ∧ EI w w7 w7.heap.size B pre.length W) (EI.own (by have := HE7.out.below.size; exact this) (Nat.le_refl _) (Nat.le_refl _)) (fun c xs X Y row h hg hr => ⟨h.1, h.2.1, EI.own (N := T.items.length) (M := w7.heap.size) (by have := HE7.out.below.size; exact this) (Nat.le_refl _) (Nat.le_refl _) xs X Y row h.2.2 hg hr⟩) HE7.out
                  (fun x a' W => ∃ Bx, AX h T.items (w7.heap.size + 2) x Bx W ∧ a' = { tmps := #[Value.agg #[Value.int IntKind.i64 kd, Value.string nm, Value.string tx, Value.slice io N ic, Value.slice ko K kc], Value.int IntKind.i64 leave, Value.pointer (some { block := w.heap.size, off := 0 }), Value.pointer (some { block := LV, off := 0 }), Value.pointer (some { block := RS, off := 0 }), Value.pointer (some { block := B, off := 0 }), Value.func (Fn.func 14) #[] #[Value.pointer (some { block := A1, off := 0 })], undef, undef, Value.pointer (some { block := u4.heap.size, off := 0 }), Value.func (Fn.func 14) #[] #[Value.pointer (some { block := A2, off := 0 })], Value.int IntKind.i64 (k : Int), Value.int IntKind.i64 (kk : Int), Value.string (kyF T.keys.length (fun i => T.keys.getD i .empty) x.1.1), Value.pointer (some ⟨Bx, 0, none⟩), undef, undef, undef, Value.slice (some { block := W4.heap.size, off := 0 }) 1 1, Value.agg #[Value.int IntKind.i64 2, Value.string { data := #[] }, Value.string { data := #[] }, Value.slice none 0 0, Value.slice none 0 0], Value.slice (some { block := W4.heap.size + 1, off := 0 }) 1 1, Value.agg #[Value.int IntKind.i64 6, Value.string { data := #[] }, Value.string { data := #[] }, Value.slice (some { block := W4.heap.size + 1, off := 0 }) 1 1, Value.slice (some { block := W4.heap.size, off := 0 }) 1 1], Value.func (Fn.func 14) #[] #[Value.pointer (some { block := A1, off := 0 })], Value.func (Fn.func 14) #[] #[Value.pointer (some { block := A1, off := 0 })], Value.bool false, Value.func (Fn.func 14) #[] #[Value.pointer (some { block := A1, off := 0 })], undef, undef, undef, undef, undef, undef, undef, undef, undef, undef, undef, Value.int IntKind.i64 1, Value.bool false, Value.agg #[Value.int IntKind.i64 kd, Value.string nm, Value.string tx, Value.slice io N ic, Value.slice ko K kc], Value.bool true, Value.bool false, Value.bool false, Value.agg #[Value.int IntKind.i64 kd, Value.string nm, Value.string tx, Value.slice io N ic, Value.slice ko K kc], Value.bool true, Value.bool false, Value.bool false, Value.agg #[Value.int IntKind.i64 kd, Value.string nm, Value.string tx, Value.slice io N ic, Value.slice ko K kc], Value.agg #[Value.int IntKind.i64 q0, Value.string q1, Value.string q2, Value.slice mo mN mc, Value.slice lo lN lc], Value.agg #[Value.int IntKind.i64 q0, Value.string q1, Value.string q2, Value.slice mo mN mc, Value.slice lo lN lc], Value.func (Fn.func 14) #[] #[Value.pointer (some { block := A2, off := 0 })], Value.func (Fn.func 14) #[] #[Value.pointer (some { block := A2, off := 0 })], Value.bool false, Value.int IntKind.i64 (k : Int), Value.pointer (some { block := u4.heap.size, off := 3 }), Value.slice mo mN mc, Value.int IntKind.i64 (mN : Int), Value.bool false, u58, u59, u60, u61, u62, u63, u64, Value.int IntKind.i64 (kk : Int), Value.pointer (some { block := u4.heap.size, off := 4 }), Value.slice lo lN lc, Value.int IntKind.i64 (lN : Int), Value.bool false, u70, u71, u72, u73, u74, u75, Value.func (Fn.func 14) #[] #[Value.pointer (some { block := A2, off := 0 })], Value.string (kyF T.keys.length (fun i => T.keys.getD i .empty) x.1.1), Value.agg #[x.2.1 0, x.2.1 1, x.2.1 2, x.2.1 3, x.2.1 4], undef, undef, undef, undef, undef, undef, undef, undef, undef, undef, undef, undef, undef, undef, undef, undef, undef, undef, undef, undef, undef, undef, undef, undef, undef, undef, undef, undef, undef, undef, undef, undef, undef, undef, undef, undef, undef, undef, undef, undef], defers := [] })
                  (fun x a' _ X Y row hs hg hr => by
                    obtain ⟨Bx, h1, h2⟩ := hs
                    exact ⟨Bx, h1.own hg hr, h2⟩) ?assign2 ?body2 ?done2 ?stop2
                case assign2 =>
                  rintro l' pre x W KK hI hAt hKK
                  have hAX := AX.new hAt
                  obtain ⟨T', hT', hO'⟩ := hAt.2.2
                  obtain ⟨yo, yc, zo, zc, e0, e1, e2, e3, e4⟩ := hO'.kinds
                  have FIN := hKK { tmps := #[Value.agg #[Value.int IntKind.i64 kd, Value.string nm, Value.string tx, Value.slice io N ic, Value.slice ko K kc], Value.int IntKind.i64 leave, Value.pointer (some { block := w.heap.size, off := 0 }), Value.pointer (some { block := LV, off := 0 }), Value.pointer (some { block := RS, off := 0 }), Value.pointer (some { block := B, off := 0 }), Value.func (Fn.func 14) #[] #[Value.pointer (some { block := A1, off := 0 })], undef, undef, Value.pointer (some { block := u4.heap.size, off := 0 }), Value.func (Fn.func 14) #[] #[Value.pointer (some { block := A2, off := 0 })], Value.int IntKind.i64 (k : Int), Value.int IntKind.i64 (kk : Int), Value.string (kyF T.keys.length (fun i => T.keys.getD i .empty) x.1.1), Value.pointer (some ⟨W.heap.size, 0, none⟩), undef, undef, undef, Value.slice (some { block := W4.heap.size, off := 0 }) 1 1, Value.agg #[Value.int IntKind.i64 2, Value.string { data := #[] }, Value.string { data := #[] }, Value.slice none 0 0, Value.slice none 0 0], Value.slice (some { block := W4.heap.size + 1, off := 0 }) 1 1, Value.agg #[Value.int IntKind.i64 6, Value.string { data := #[] }, Value.string { data := #[] }, Value.slice (some { block := W4.heap.size + 1, off := 0 }) 1 1, Value.slice (some { block := W4.heap.size, off := 0 }) 1 1], Value.func (Fn.func 14) #[] #[Value.pointer (some { block := A1, off := 0 })], Value.func (Fn.func 14) #[] #[Value.pointer (some { block := A1, off := 0 })], Value.bool false, Value.func (Fn.func 14) #[] #[Value.pointer (some { block := A1, off := 0 })], undef, undef, undef, undef, undef, undef, undef, undef, undef, undef, undef, Value.int IntKind.i64 1, Value.bool false, Value.agg #[Value.int IntKind.i64 kd, Value.string nm, Value.string tx, Value.slice io N ic, Value.slice ko K kc], Value.bool true, Value.bool false, Value.bool false, Value.agg #[Value.int IntKind.i64 kd, Value.string nm, Value.string tx, Value.slice io N ic, Value.slice ko K kc], Value.bool true, Value.bool false, Value.bool false, Value.agg #[Value.int IntKind.i64 kd, Value.string nm, Value.string tx, Value.slice io N ic, Value.slice ko K kc], Value.agg #[Value.int IntKind.i64 q0, Value.string q1, Value.string q2, Value.slice mo mN mc, Value.slice lo lN lc], Value.agg #[Value.int IntKind.i64 q0, Value.string q1, Value.string q2, Value.slice mo mN mc, Value.slice lo lN lc], Value.func (Fn.func 14) #[] #[Value.pointer (some { block := A2, off := 0 })], Value.func (Fn.func 14) #[] #[Value.pointer (some { block := A2, off := 0 })], Value.bool false, Value.int IntKind.i64 (k : Int), Value.pointer (some { block := u4.heap.size, off := 3 }), Value.slice mo mN mc, Value.int IntKind.i64 (mN : Int), Value.bool false, u58, u59, u60, u61, u62, u63, u64, Value.int IntKind.i64 (kk : Int), Value.pointer (some { block := u4.heap.size, off := 4 }), Value.slice lo lN lc, Value.int IntKind.i64 (lN : Int), Value.bool false, u70, u71, u72, u73, u74, u75, Value.func (Fn.func 14) #[] #[Value.pointer (some { block := A2, off := 0 })], Value.string (kyF T.keys.length (fun i => T.keys.getD i .empty) x.1.1), Value.agg #[x.2.1 0, x.2.1 1, x.2.1 2, x.2.1 3, x.2.1 4], undef, undef, undef, undef, undef, undef, undef, undef, undef, undef, undef, undef, undef, undef, undef, undef, undef, undef, undef, undef, undef, undef, undef, undef, undef, undef, undef, undef, undef, undef, undef, undef, undef, undef, undef, undef, undef, undef, undef, undef], defers := [] } _ (keepsFrom_below (below1 W (.cells #[x.2.1 0, x.2.1 1, x.2.1 2, x.2.1 3, x.2.1 4] 25))) ⟨KpM.of_below (below1 W _) hAt.2.1, KeepsTo.of_from (keepsFrom_below (below1 W _))⟩ ((EI.own (by have := HE7.out.below.size; exact this) (Nat.le_refl _) (Nat.le_refl _)).alloc _ hI) ⟨_, hAX, rfl⟩
                  unfold encE
                  dsimp only
                  rw [e0, e1, e2, e3, e4] at FIN ⊢
                  clear hKK hAX hO' hI hAt
                  gi_wp2_with fail
                  exact FIN
                case body2 =>
                  rintro l' pre x a' W hl _ hI ⟨Bx, hX, rfl⟩ hlt hSp
                  have hxp : x.1.1 = pre.length := by
                    have h1 : pre.map (·.1.1) ++ [x.1.1] = List.range (pre.length + 1) := by
                      have h2 := hSp
                      rw [List.map_append, List.length_append] at h2
                      exact h2
                    rw [List.range_succ] at h1
                    have h2 := List.append_inj_right' h1 rfl
                    exact (List.cons.inj h2).1
                  obtain ⟨X, hTX, hOX⟩ := hX.tree
                  obtain ⟨yo, yc, zo, zc, e0, e1, e2, e3, e4⟩ := hOX.kinds
                  have hbox := hX.box
                  rw [e0, e1, e2, e3, e4] at hbox hOX
                  have hxs : szN h X ≤ 10000 := (items_le HI.out (of_decide_eq_true HSV.out)).2.2 X (List.mem_of_getElem? hTX)
                  have hlo := hX.lo
                  have hbx := hX.bx
                  have hBxl : Bx < W.heap.size := (Array.getElem?_eq_some_iff.1 hbox).1
                  rw [hxp] at hTX
                  have hI7 := hI.kp
                  obtain ⟨v7, l7, _, _⟩ := HX7.out
                  have hvx : W.heap[w.heap.size]? = some (.cells #[.int .i64 kd, .string nm, .string tx, .slice io N ic, .slice ko K kc] 25 (0, 0)) := hI7.same _ _ (by omega) (by have := HLN.out; have := HLB.out; omega) v7 rfl
                  have hlv : W.heap[LV]? = some (.cells #[.int .i64 leave] 3 (0, 0)) := hI7.same _ _ (by have := HLN.out; omega) HLN.out.1 l7 rfl
                  obtain ⟨j, hj⟩ : ∃ j : Nat, j = pre.length := ⟨_, rfl⟩
                  have hbB := hI.box
                  have HF : Hid (∀ (W2 : World) (z : Int), Below x.2.2 W W2 → z = (j : Int) + 1 → EI w w7 w7.heap.size B (pre ++ [x]).length (W2.setCell ⟨B, 0, none⟩ (.int .i64 z)) ∧ KpE B (w7.heap.size + 2) x W (W2.setCell ⟨B, 0, none⟩ (.int .i64 z)) ∧ KeepsTo w7.heap.size (w7.heap.size + 2) W (W2.setCell ⟨B, 0, none⟩ (.int .i64 z))) := fun W2 z hb hz => by
                    rw [show (pre ++ [x]).length = pre.length + 1 from by simp]
                    exact ei_step hI hb (by omega) hwb hbl hlo (w7.heap.size + 2) z (by rw [hz, hj])
                  have HPL : Hid (((pre ++ [x]).length : Int) = (j : Int) + 1) := by show _ = _; rw [List.length_append, ← hj]; rfl
                  obtain ⟨key, hkey⟩ : ∃ key, kyF T.keys.length (fun i => T.keys.getD i .empty) x.1.1 = key := ⟨_, rfl⟩
                  have HAt := Hid.mk (w_atE h T X kd nm tx io N ic ko K kc j key X.kind X.num X.text yo X.items.length yc zo X.keys.length zc W (HTv.out W hI.below) HFV.out (by have := HTI.out; omega) (by rw [hj]; exact hTX) hOX.1.toH (by rw [← hkey, hxp, hj]))
                  have HOX := Hid.mk hOX.2
                  have HXS := Hid.mk hxs
                  have HLO := Hid.mk hlo
                  have HBL := Hid.mk (And.intro hbx hBxl)
                  have d0 : W.cell? ⟨w.heap.size, 0, none⟩ = some (.int .i64 kd) := cell_of_row _ _ 0 _ _ _ hvx
                  have d1 : W.cell? ⟨w.heap.size, 1, none⟩ = some (.string nm) := cell_of_row _ _ 1 _ _ _ hvx
                  have d2 : W.cell? ⟨w.heap.size, 2, none⟩ = some (.string tx) := cell_of_row _ _ 2 _ _ _ hvx
                  have d3 : W.cell? ⟨w.heap.size, 3, none⟩ = some (.slice io N ic) := cell_of_row _ _ 3 _ _ _ hvx
                  have d4 : W.cell? ⟨w.heap.size, 4, none⟩ = some (.slice ko K kc) := cell_of_row _ _ 4 _ _ _ hvx
                  rw [← hj] at hbB
                  have b5 : W.cell? ⟨B, 0, none⟩ = some (.int .i64 (j : Int)) := cell_of_row _ _ 0 _ _ _ hbB
                  have HBX := Hid.mk hbox
                  have HBB := Hid.mk hbB
                  have HLVB := Hid.mk hlv
                  have x0 : W.cell? ⟨Bx, 0, none⟩ = some (.int .i64 X.kind) := cell_of_row _ _ 0 _ _ _ hbox
                  have x1 : W.cell? ⟨Bx, 1, none⟩ = some (.string X.num) := cell_of_row _ _ 1 _ _ _ hbox
                  have x2 : W.cell? ⟨Bx, 2, none⟩ = some (.string X.text) := cell_of_row _ _ 2 _ _ _ hbox
                  have x3 : W.cell? ⟨Bx, 3, none⟩ = some (.slice yo X.items.length yc) := cell_of_row _ _ 3 _ _ _ hbox
                  have x4 : W.cell? ⟨Bx, 4, none⟩ = some (.slice zo X.keys.length zc) := cell_of_row _ _ 4 _ _ _ hbox
                  have hjj : (j : Int) ≤ 100000 := by have : pre.length < T.items.length := hlt; have := HTI.out; omega
                  have hj0 : (0 : Int) ≤ (j : Int) := by omega
                  rw [e0, e1, e2, e3, e4, hkey]
                  clear hkey hj hxp hTX hOX e0 e1 e2 e3 e4 hbox hX hI hlo hbx hBxl hlt hSp hl hI7 v7 l7 hvx hlv hbB hxs
                  gi_wp2_with fail
                  refine ⟨trivial, (CallsIn.inRound _ (callsIn_wide.2 HAt.out)).mono ?_⟩
                  rintro e W1 ⟨rfl, hb1⟩
                  obtain ⟨W2, hW2⟩ : ∃ u, W1.alloc (.cells #[.slice none 0 0, .slice none 0 0] 35) = u := ⟨_, rfl⟩
                  have hb12 : Below W1.heap.size W1 W2 := by rw [← hW2]; exact below1 W1 _
                  have hb02 : Below W.heap.size W W2 := hb1.trans (hb12.mono hb1.size)
                  have hL2 : W2.heap[W1.heap.size]? = some (.cells #[.slice none 0 0, .slice none 0 0] 35 (0, 0)) := by rw [← hW2]; exact heap_alloc_new W1 _
                  have hx1 : W2.heap[Bx]? = some (.cells #[.int .i64 X.kind, .string X.num, .string X.text, .slice yo X.items.length yc, .slice zo X.keys.length zc] 25 (0, 0)) := (hb02.block Bx HBL.out.2).trans HBX.out
                  have r0 : ∀ {o v}, W2.cell? ⟨Bx, o, none⟩ = some v → (W1.alloc (.cells #[.slice none 0 0, .slice none 0 0] 35)).cell? ⟨Bx, o, none⟩ = some v := fun h => by rw [hW2]; exact h
                  have x0 := r0 (cell_of_row _ _ 0 _ _ _ hx1)
                  have x1 := r0 (cell_of_row _ _ 1 _ _ _ hx1)
                  have x2 := r0 (cell_of_row _ _ 2 _ _ _ hx1)
                  have x3 := r0 (cell_of_row _ _ 3 _ _ _ hx1)
                  have x4 := r0 (cell_of_row _ _ 4 _ _ _ hx1)
                  have HB2 := Hid.mk hb02
                  have HW2 := Hid.mk hW2
                  have hlw : x.2.2 ≤ W.heap.size := by have := HBL.out; omega
                  have HCol := Hid.mk (w_Collect h X _ W2 x.2.2 W1.heap.size 0 (by have := hb1.size; omega) (OwT.keep (tp_below hb02) HOX.out) (by have := HXS.out; omega) (cos_new hL2))
                  have HL1 : Hid (x.2.2 ≤ W.heap.size ∧ W.heap.size ≤ W1.heap.size) := ⟨hlw, hb1.size⟩
                  clear d0 d1 d2 d3 d4 b5 hb1 hx1 HAt r0 hW2 hb12 hb02 hL2 hlw
                  gi_wp2_with fail
                  rw [HW2.out]
                  refine ⟨trivial, (CallsIn.inRound _ (callsIn_wide.2 HCol.out)).mono ?_⟩
                  clear HCol x0 x1 x2 x3 x4 HW2
                  rintro e W3 ⟨⟨rr, rfl⟩, HC3⟩
                  obtain ⟨gio, gnI, gcI, gko, gnK, gcK, hl3, hsp⟩ := w_SpoilC W3 x.2.2 W1.heap.size (0 + szN h X) (by have h1 := HC3.out.1.size; have h2 := HB2.out.size; have := HL1.out; omega) (by have := HXS.out; omega) HC3.out.2.2
                  have HSp := Hid.mk hsp
                  have l0 : W3.cell? ⟨W1.heap.size, 0, none⟩ = some (.slice gio gnI gcI) := cell_of_row _ _ 0 _ _ _ hl3
                  have l1 : W3.cell? ⟨W1.heap.size, 1, none⟩ = some (.slice gko gnK gcK) := cell_of_row _ _ 1 _ _ _ hl3
                  have HB3 : Hid (Below x.2.2 W W3) := (HB2.out.mono HL1.out.1).trans HC3.out.1
                  clear HC3 hl3 hsp
                  gi_wp2_with fail
                  refine ⟨trivial, (CallsIn.inRound _ (callsIn_wide.2 HSp.out)).mono ?_⟩
                  clear HSp l0 l1
                  rintro e W4' ⟨⟨r2, rfl⟩, HB34⟩
                  have HB4' : Hid (Below x.2.2 W W4') := HB3.out.trans HB34.out
                  have hBx : B < x.2.2 := by have := HLO.out; omega
                  have hb4 : W4'.heap[B]? = some (.cells #[.int .i64 (j : Int)] 3 (0, 0)) := (HB4'.out.block _ hBx).trans HBB.out
                  have hl4 : W4'.heap[LV]? = some (.cells #[.int .i64 leave] 3 (0, 0)) := (HB4'.out.block _ (by have := HLN.out; omega)).trans HLVB.out
                  have b5 : W4'.cell? ⟨B, 0, none⟩ = some (.int .i64 (j : Int)) := cell_of_row _ _ 0 _ _ _ hb4
                  have f5 : W4'.frozen? ⟨B, 0, none⟩ = false := frozen_row hb4
                  have l5 : ∀ v, (W4'.setCell ⟨B, 0, none⟩ v).cell? ⟨LV, 0, none⟩ = some (.int .i64 leave) := fun v => by
                    have : (W4'.setCell ⟨B, 0, none⟩ v).heap[LV]? = some (.cells #[.int .i64 leave] 3 (0, 0)) := (Below.heap_setCell _ _ _ _ (by show LV ≠ B; exact HLN.out.1)).trans hl4
                    exact cell_of_row _ _ 0 _ _ _ this
                  clear hb4 hl4 hBx HB34 HB3 HB2 HL1
                  by_cases hm : (j : Int) + 1 = leave
                  · have m1 : ((j : Int) + 1 == leave) = true := by rw [beq_iff_eq]; exact hm
                    have HHM := Hid.mk hm
                    clear hm
                    gi_wp2_with fail
                    have hf := HF.out _ _ HB4'.out rfl
                    exact ⟨⟨hf.2.2, rfl, by rw [HPL.out]; exact HHM.out, hf.1⟩, hf.2.1⟩
                  · have m1 : ((j : Int) + 1 == leave) = false := by rw [beq_eq_false_iff_ne]; exact hm
                    clear hm
                    gi_wp2_with fail
                    have hf := HF.out _ _ HB4'.out rfl
                    exact ⟨⟨hf.2.2, hf.2.1, hf.1⟩, hf.2.1⟩
                case done2 =>
                  rintro D xs W hD hS hI hK
                  have hl : xs.length = T.items.length := by have := congrArg List.length hS; rw [List.length_map, List.length_range] at this; exact this
                  exact ⟨.inl rfl, D, rfl, hD, hK, _, hI, .inl hl⟩
                case stop2 =>
                  rintro D c pre W hD hSp ⟨rfl, hm, hI⟩ hK
                  exact wpIn_exit ⟨.inr rfl, D, rfl, hD, hK, _, hI, .inr hm⟩
              rintro D2 w8 ⟨hD2, hKD2, k8, hEI8, hk8⟩
              have HKD2 := Hid.mk (And.intro hD2 hKD2)
              have HE8 := Hid.mk hEI8
              have HK8 := Hid.mk hk8
              have hNT : N = T.items.length ∧ kd = T.kind := by
                obtain ⟨_, _, _, _, e, _⟩ := HI.out
                simp only [Value.agg.injEq, Array.mk.injEq, List.cons.injEq, Value.int.injEq, Value.slice.injEq, true_and] at e
                exact ⟨e.2.2.2.1.2.1, e.1⟩
              have HHd : Hid (∀ u, Calls Try.prog 11 #[.agg #[.int .i64 kd, .string nm, .string tx, .slice io N ic, .slice ko K kc]] u fun e w' => e = .returned (.int .i64 (T.items.length : Int)) ∧ Below u.heap.size u w') := fun u => by
                refine (w_held _ _ _ _ _ _ _ _ _ u).mono ?_
                rintro e w' ⟨rfl, hb⟩
                refine ⟨?_, hb⟩
                have hh := held_all HFV.out
                unfold heldN at hh
                rw [hNT.1, hNT.2]
                by_cases h56 : T.kind = 5 ∨ T.kind = 6
                · rw [if_pos h56]
                · rw [if_neg h56] at hh ⊢
                  rw [← hh]
              have hX8 : w8.heap[w.heap.size]? = some (.cells #[.int .i64 kd, .string nm, .string tx, .slice io N ic, .slice ko K kc] 25 (0, 0)) ∧ w8.heap[LV]? = some (.cells #[.int .i64 leave] 3 (0, 0)) ∧ w8.heap[RS]? = some (.cells #[.bool false] 4 (0, 0)) := by
                obtain ⟨v7, l7, r7, _⟩ := HX7.out
                have h1 := HLN.out
                have h2 := HB7.out
                have h3 := HLB.out
                exact ⟨hEI8.kp.same _ _ (by omega) (by omega) v7 rfl, hEI8.kp.same _ _ (by omega) (by omega) l7 rfl, hEI8.kp.same _ _ (by omega) (by omega) r7 rfl⟩
              have HX8 := Hid.mk hX8
              obtain ⟨v8, l8, r8⟩ := hX8
              have d0 : w8.cell? ⟨w.heap.size, 0, none⟩ = some (.int .i64 kd) := cell_of_row _ _ 0 _ _ _ v8
              have d1 : w8.cell? ⟨w.heap.size, 1, none⟩ = some (.string nm) := cell_of_row _ _ 1 _ _ _ v8
              have d2 : w8.cell? ⟨w.heap.size, 2, none⟩ = some (.string tx) := cell_of_row _ _ 2 _ _ _ v8
              have d3 : w8.cell? ⟨w.heap.size, 3, none⟩ = some (.slice io N ic) := cell_of_row _ _ 3 _ _ _ v8
              have d4 : w8.cell? ⟨w.heap.size, 4, none⟩ = some (.slice ko K kc) := cell_of_row _ _ 4 _ _ _ v8
              have dl : w8.cell? ⟨LV, 0, none⟩ = some (.int .i64 leave) := cell_of_row _ _ 0 _ _ _ l8
              have db : w8.cell? ⟨B, 0, none⟩ = some (.int .i64 (k8 : Int)) := cell_of_row _ _ 0 _ _ _ hEI8.box
              clear hD2 hKD2 hEI8 hk8 hNT v8 l8 r8 HSEQ2 HE7
              gi_upto_region 1 with fail
              have hmx : Try.prog.follows .mixedOrders = true := by kernel_rfl
              have HCL : Hid (∀ u, Below w8.heap.size w8 u → u.cell? ⟨B, 0, none⟩ = some (.int .i64 (k8 : Int)) ∧ u.cell? ⟨LV, 0, none⟩ = some (.int .i64 leave) ∧ u.cell? ⟨w.heap.size, 0, none⟩ = some (.int .i64 kd) ∧ u.cell? ⟨w.heap.size, 1, none⟩ = some (.string nm) ∧ u.cell? ⟨w.heap.size, 2, none⟩ = some (.string tx) ∧ u.cell? ⟨w.heap.size, 3, none⟩ = some (.slice io N ic) ∧ u.cell? ⟨w.heap.size, 4, none⟩ = some (.slice ko K kc)) := fun u hu => by
                have cl : ∀ {g o : Nat} {v : Value}, w8.cell? ⟨g, o, none⟩ = some v → u.cell? ⟨g, o, none⟩ = some v := fun {g o v} hg => (hu.cell (p := ⟨_, _, _⟩) (World.block_lt_of_cell? w8 ⟨g, o, none⟩ hg)).trans hg
                exact ⟨cl db, cl dl, cl d0, cl d1, cl d2, cl d3, cl d4⟩
              have HW88 : Hid (Below w8.heap.size w8 w8) := Below.refl _ _
              gi_cut [103] from 95 (fun v wx => v = .bool false ∧ Hid (Below w8.heap.size w8 wx))
              case first =>
                refine wpIn_mono ?_ NoPanic.imp
                by_cases hk : k8 = T.items.length
                · have hk1 : (k8 : Int) = (T.items.length : Int) := by omega
                  have g5 : (!((k8 : Int) == (T.items.length : Int))) = false := by rw [hk1]; simp
                  have HQ1 := Hid.mk hk1
                  have HQ2 := Hid.mk hk1
                  clear hk1 hk
                  refine wpIn_region_G 8 (S := fun u => u.cell? ⟨B, 0, none⟩ = some (.int .i64 (k8 : Int)) ∧ u.cell? ⟨LV, 0, none⟩ = some (.int .i64 leave) ∧ u.cell? ⟨w.heap.size, 0, none⟩ = some (.int .i64 kd) ∧ u.cell? ⟨w.heap.size, 1, none⟩ = some (.string nm) ∧ u.cell? ⟨w.heap.size, 2, none⟩ = some (.string tx) ∧ u.cell? ⟨w.heap.size, 3, none⟩ = some (.slice io N ic) ∧ u.cell? ⟨w.heap.size, 4, none⟩ = some (.slice ko K kc)) (by kernel_rfl) (HCL.out _ HW88.out.drew) (fun hHeld => ?_)
                  refine wpAnyG_take 0 (.int .i64 (k8 : Int)) rfl rfl (by kernel_rfl) (fun _ _ _ h => h) ⟨Or.inl ⟨by rfl, ?_⟩, fun _ => rfl⟩ (by assumption) ?_
                  · intro u hSu
                    obtain ⟨s0, s1, s2, s3, s4, s5, s6⟩ := hSu
                    go_simp
                    first | done | exact HQ1.out | exact HQ2.out | (simp; done) | (simp; first | exact HQ1.out | exact HQ2.out | exact fun e => HQ2.out (by omega))
                  try simp only [Act.put, List.getElem_toArray, List.getElem_cons_succ, List.getElem_cons_zero, List.setIfInBounds_toArray, List.set_cons_zero, List.set_cons_succ]
                  refine wpAnyG_take 1 (.agg #[.int .i64 kd, .string nm, .string tx, .slice io N ic, .slice ko K kc]) rfl rfl (by kernel_rfl) (fun _ _ _ h => h) ⟨Or.inl ⟨by rfl, ?_⟩, fun _ => rfl⟩ (by assumption) ?_
                  · intro u hSu
                    obtain ⟨s0, s1, s2, s3, s4, s5, s6⟩ := hSu
                    go_simp
                    first | done | exact HQ1.out | exact HQ2.out | (simp; done) | (simp; first | exact HQ1.out | exact HQ2.out | exact fun e => HQ2.out (by omega))
                  try simp only [Act.put, List.getElem_toArray, List.getElem_cons_succ, List.getElem_cons_zero, List.setIfInBounds_toArray, List.set_cons_zero, List.set_cons_succ]
                  refine wpAnyG_one (i := 2) (o := _) (by kernel_rfl) rfl (fun K2 hK2 => ?_)
                  rw [if_pos (by rfl)]
                  refine wpIn_of_enter rfl (fun _ => by decide) (fun _ _ => trivial) (by kernel_rfl) ((callsIn_wide.2 (HHd.out _)).mono ?_)
                  rintro e w' ⟨rfl, hbw⟩
                  have HBQ := Hid.mk (HW88.out.drew.trans hbw)
                  clear hHeld
                  have hHeld := HCL.out _ HBQ.out
                  refine ⟨_, rfl, hK2 _ _ (fun _ _ => hHeld) ?_⟩
                  clear hK2 K2
                  try simp only [Act.put, List.getElem_toArray, List.getElem_cons_succ, List.getElem_cons_zero, List.setIfInBounds_toArray, List.set_cons_zero, List.set_cons_succ]
                  refine wpAnyG_take 3 (.bool false) rfl rfl (by kernel_rfl) (fun _ _ _ h => h) ⟨Or.inl ⟨by rfl, ?_⟩, fun _ => rfl⟩ (by assumption) ?_
                  · intro u hSu
                    obtain ⟨s0, s1, s2, s3, s4, s5, s6⟩ := hSu
                    go_simp
                    first | done | exact HQ1.out | exact HQ2.out | (simp; done) | (simp; first | exact HQ1.out | exact HQ2.out | exact fun e => HQ2.out (by omega))
                  try simp only [Act.put, List.getElem_toArray, List.getElem_cons_succ, List.getElem_cons_zero, List.setIfInBounds_toArray, List.set_cons_zero, List.set_cons_succ]
                  refine wpAnyG_take 4 (.bool false) rfl rfl (by kernel_rfl) (fun _ _ _ h => h) ⟨Or.inl ⟨by rfl, ?_⟩, fun _ => rfl⟩ (by assumption) ?_
                  · intro u hSu
                    obtain ⟨s0, s1, s2, s3, s4, s5, s6⟩ := hSu
                    go_simp
                    first | done | exact HQ1.out | exact HQ2.out | (simp; done) | (simp; first | exact HQ1.out | exact HQ2.out | exact fun e => HQ2.out (by omega))
                  try simp only [Act.put, List.getElem_toArray, List.getElem_cons_succ, List.getElem_cons_zero, List.setIfInBounds_toArray, List.set_cons_zero, List.set_cons_succ]
                  refine wpAnyG_take 5 (undef) rfl rfl (by kernel_rfl) (fun _ _ _ h => h) ⟨Or.inr ⟨by kernel_rfl, rfl⟩, fun _ => rfl⟩ (by assumption) ?_
                  try simp only [Act.put, List.getElem_toArray, List.getElem_cons_succ, List.getElem_cons_zero, List.setIfInBounds_toArray, List.set_cons_zero, List.set_cons_succ]
                  refine wpAnyG_take 6 (undef) rfl rfl (by kernel_rfl) (fun _ _ _ h => h) ⟨Or.inr ⟨by kernel_rfl, rfl⟩, fun _ => rfl⟩ (by assumption) ?_
                  try simp only [Act.put, List.getElem_toArray, List.getElem_cons_succ, List.getElem_cons_zero, List.setIfInBounds_toArray, List.set_cons_zero, List.set_cons_succ]
                  refine wpAnyG_take 7 (undef) rfl rfl (by kernel_rfl) (fun _ _ _ h => h) ⟨Or.inr ⟨by kernel_rfl, rfl⟩, fun _ => rfl⟩ (by assumption) ?_
                  try simp only [Act.put, List.getElem_toArray, List.getElem_cons_succ, List.getElem_cons_zero, List.setIfInBounds_toArray, List.set_cons_zero, List.set_cons_succ]
                  refine wpAnyG_one (i := 8) (o := _) (by kernel_rfl) rfl (fun K3 hK3 => ?_)
                  rw [if_pos (by rfl)]
                  refine wpIn_of_value (.bool false) rfl (by kernel_rfl) (by kernel_rfl) (hK3 _ _ (fun _ h => absurd rfl h) ?_)
                  try simp only [Act.put, List.getElem_toArray, List.getElem_cons_succ, List.getElem_cons_zero, List.setIfInBounds_toArray, List.set_cons_zero, List.set_cons_succ]
                  refine wpAnyG_done (by kernel_rfl) ?_ _
                  clear hK3 K3
                  refine NoPanic.normal ?_
                  gi_wp2_with fail
                  gi_meet
                  exact ⟨rfl, HBQ⟩
                · have hk2 : (k8 : Int) = leave := HK8.out.resolve_left hk
                  have g2 : ¬ (k8 : Int) = (T.items.length : Int) := by omega
                  have g1 : ((k8 : Int) == (T.items.length : Int)) = false := by rw [beq_eq_false_iff_ne]; exact g2
                  have g5 : (!((k8 : Int) == leave)) = false := by rw [hk2]; simp
                  have HQ1 := Hid.mk hk2
                  have HQ2 := Hid.mk g2
                  clear hk2 hk g2
                  refine wpIn_region_G 8 (S := fun u => u.cell? ⟨B, 0, none⟩ = some (.int .i64 (k8 : Int)) ∧ u.cell? ⟨LV, 0, none⟩ = some (.int .i64 leave) ∧ u.cell? ⟨w.heap.size, 0, none⟩ = some (.int .i64 kd) ∧ u.cell? ⟨w.heap.size, 1, none⟩ = some (.string nm) ∧ u.cell? ⟨w.heap.size, 2, none⟩ = some (.string tx) ∧ u.cell? ⟨w.heap.size, 3, none⟩ = some (.slice io N ic) ∧ u.cell? ⟨w.heap.size, 4, none⟩ = some (.slice ko K kc)) (by kernel_rfl) (HCL.out _ HW88.out.drew) (fun hHeld => ?_)
                  refine wpAnyG_take 0 (.int .i64 (k8 : Int)) rfl rfl (by kernel_rfl) (fun _ _ _ h => h) ⟨Or.inl ⟨by rfl, ?_⟩, fun _ => rfl⟩ (by assumption) ?_
                  · intro u hSu
                    obtain ⟨s0, s1, s2, s3, s4, s5, s6⟩ := hSu
                    go_simp
                    first | done | exact HQ1.out | exact HQ2.out | (simp; done) | (simp; first | exact HQ1.out | exact HQ2.out | exact fun e => HQ2.out (by omega))
                  try simp only [Act.put, List.getElem_toArray, List.getElem_cons_succ, List.getElem_cons_zero, List.setIfInBounds_toArray, List.set_cons_zero, List.set_cons_succ]
                  refine wpAnyG_take 1 (.agg #[.int .i64 kd, .string nm, .string tx, .slice io N ic, .slice ko K kc]) rfl rfl (by kernel_rfl) (fun _ _ _ h => h) ⟨Or.inl ⟨by rfl, ?_⟩, fun _ => rfl⟩ (by assumption) ?_
                  · intro u hSu
                    obtain ⟨s0, s1, s2, s3, s4, s5, s6⟩ := hSu
                    go_simp
                    first | done | exact HQ1.out | exact HQ2.out | (simp; done) | (simp; first | exact HQ1.out | exact HQ2.out | exact fun e => HQ2.out (by omega))
                  try simp only [Act.put, List.getElem_toArray, List.getElem_cons_succ, List.getElem_cons_zero, List.setIfInBounds_toArray, List.set_cons_zero, List.set_cons_succ]
                  refine wpAnyG_one (i := 2) (o := _) (by kernel_rfl) rfl (fun K2 hK2 => ?_)
                  rw [if_pos (by rfl)]
                  refine wpIn_of_enter rfl (fun _ => by decide) (fun _ _ => trivial) (by kernel_rfl) ((callsIn_wide.2 (HHd.out _)).mono ?_)
                  rintro e w' ⟨rfl, hbw⟩
                  have HBQ := Hid.mk (HW88.out.drew.trans hbw)
                  clear hHeld
                  have hHeld := HCL.out _ HBQ.out
                  refine ⟨_, rfl, hK2 _ _ (fun _ _ => hHeld) ?_⟩
                  clear hK2 K2
                  try simp only [Act.put, List.getElem_toArray, List.getElem_cons_succ, List.getElem_cons_zero, List.setIfInBounds_toArray, List.set_cons_zero, List.set_cons_succ]
                  refine wpAnyG_take 3 (.bool true) rfl rfl (by kernel_rfl) (fun _ _ _ h => h) ⟨Or.inl ⟨by rfl, ?_⟩, fun _ => rfl⟩ (by assumption) ?_
                  · intro u hSu
                    obtain ⟨s0, s1, s2, s3, s4, s5, s6⟩ := hSu
                    go_simp
                    first | done | exact HQ1.out | exact HQ2.out | (simp; done) | (simp; first | exact HQ1.out | exact HQ2.out | exact fun e => HQ2.out (by omega))
                  try simp only [Act.put, List.getElem_toArray, List.getElem_cons_succ, List.getElem_cons_zero, List.setIfInBounds_toArray, List.set_cons_zero, List.set_cons_succ]
                  refine wpAnyG_take 4 (.bool true) rfl rfl (by kernel_rfl) (fun _ _ _ h => h) ⟨Or.inl ⟨by rfl, ?_⟩, fun _ => rfl⟩ (by assumption) ?_
                  · intro u hSu
                    obtain ⟨s0, s1, s2, s3, s4, s5, s6⟩ := hSu
                    go_simp
                    first | done | exact HQ1.out | exact HQ2.out | (simp; done) | (simp; first | exact HQ1.out | exact HQ2.out | exact fun e => HQ2.out (by omega))
                  try simp only [Act.put, List.getElem_toArray, List.getElem_cons_succ, List.getElem_cons_zero, List.setIfInBounds_toArray, List.set_cons_zero, List.set_cons_succ]
                  refine wpAnyG_take 5 (.int .i64 (k8 : Int)) rfl rfl (by kernel_rfl) (fun _ _ _ h => h) ⟨Or.inl ⟨by rfl, ?_⟩, fun _ => rfl⟩ (by assumption) ?_
                  · intro u hSu
                    obtain ⟨s0, s1, s2, s3, s4, s5, s6⟩ := hSu
                    go_simp
                    first | done | exact HQ1.out | exact HQ2.out | (simp; done) | (simp; first | exact HQ1.out | exact HQ2.out | exact fun e => HQ2.out (by omega))
                  try simp only [Act.put, List.getElem_toArray, List.getElem_cons_succ, List.getElem_cons_zero, List.setIfInBounds_toArray, List.set_cons_zero, List.set_cons_succ]
                  refine wpAnyG_take 6 (.int .i64 leave) rfl rfl (by kernel_rfl) (fun _ _ _ h => h) ⟨Or.inl ⟨by rfl, ?_⟩, fun _ => rfl⟩ (by assumption) ?_
                  · intro u hSu
                    obtain ⟨s0, s1, s2, s3, s4, s5, s6⟩ := hSu
                    go_simp
                    first | done | exact HQ1.out | exact HQ2.out | (simp; done) | (simp; first | exact HQ1.out | exact HQ2.out | exact fun e => HQ2.out (by omega))
                  try simp only [Act.put, List.getElem_toArray, List.getElem_cons_succ, List.getElem_cons_zero, List.setIfInBounds_toArray, List.set_cons_zero, List.set_cons_succ]
                  refine wpAnyG_take 7 (.bool false) rfl rfl (by kernel_rfl) (fun _ _ _ h => h) ⟨Or.inl ⟨by rfl, ?_⟩, fun _ => rfl⟩ (by assumption) ?_
                  · intro u hSu
                    obtain ⟨s0, s1, s2, s3, s4, s5, s6⟩ := hSu
                    go_simp
                    first | done | exact HQ1.out | exact HQ2.out | (simp; done) | (simp; first | exact HQ1.out | exact HQ2.out | exact fun e => HQ2.out (by omega))
                  try simp only [Act.put, List.getElem_toArray, List.getElem_cons_succ, List.getElem_cons_zero, List.setIfInBounds_toArray, List.set_cons_zero, List.set_cons_succ]
                  refine wpAnyG_one (i := 8) (o := _) (by kernel_rfl) rfl (fun K3 hK3 => ?_)
                  rw [if_pos (by rfl)]
                  refine wpIn_of_value (.bool false) rfl (by kernel_rfl) (by kernel_rfl) (hK3 _ _ (fun _ h => absurd rfl h) ?_)
                  try simp only [Act.put, List.getElem_toArray, List.getElem_cons_succ, List.getElem_cons_zero, List.setIfInBounds_toArray, List.set_cons_zero, List.set_cons_succ]
                  refine wpAnyG_done (by kernel_rfl) ?_ _
                  clear hK3 K3
                  refine NoPanic.normal ?_
                  gi_wp2_with fail
                  gi_meet
                  exact ⟨rfl, HBQ⟩
              case rest =>
                obtain ⟨rfl, HBC⟩ := hcut
                have hbc : wc.heap[B]? = some (.cells #[.int .i64 (k8 : Int)] 3 (0, 0)) := (HBC.out.block _ (Array.getElem?_eq_some_iff.1 HE8.out.box).1).trans HE8.out.box
                have b5 : wc.cell? ⟨B, 0, none⟩ = some (.int .i64 (k8 : Int)) := cell_of_row _ _ 0 _ _ _ hbc
                have f5 : wc.frozen? ⟨B, 0, none⟩ = false := frozen_row hbc
                have HBCB := Hid.mk hbc
                clear hbc d0 d1 d2 d3 d4 dl db HCL HW88 hmx
                gi_wp2_with fail
                obtain ⟨w9, hw9⟩ : ∃ u, wc.setCell ⟨B, 0, none⟩ (.int .i64 0) = u := ⟨_, rfl⟩
                rw [hw9]
                have h9s : w9.heap.size = wc.heap.size := by rw [← hw9]; exact World.size_setCell ..
                have h9b : w9.heap[B]? = some (.cells #[.int .i64 0] 3 (0, 0)) := by rw [← hw9]; exact box_setX _ HBCB.out
                have h9o : ∀ b, b ≠ B → w9.heap[b]? = wc.heap[b]? := fun b hb => by rw [← hw9]; exact Below.heap_setCell _ _ _ _ (by show b ≠ B; exact hb)
                have h9w : Below w.heap.size w w9 := by
                  rw [← hw9]
                  exact (HE8.out.below.trans (HBC.out.mono HE8.out.below.size)).setCell (p := ⟨B, 0, none⟩) HB7.out.2.2.2 _
                have h79 : KpN B w7 w9 := by
                  refine (HE8.out.kp.toN.trans (KpN.of_below HBC.out)).trans ?_
                  rw [← hw9]; exact kpN_set B wc _
                have h9x : w9.heap[w.heap.size]? = some (.cells #[.int .i64 kd, .string nm, .string tx, .slice io N ic, .slice ko K kc] 25 (0, 0)) ∧ w9.heap[LV]? = some (.cells #[.int .i64 leave] 3 (0, 0)) ∧ w9.heap[RS]? = some (.cells #[.bool false] 4 (0, 0)) ∧ w9.heap[D1]? = some (.deferred (some [])) ∧ w9.heap[D2]? = some (.deferred (some [])) := by
                  have hl := HLN.out
                  have h7 := HB7.out
                  have h3 := HLB.out
                  have hu := HBU.out
                  have hd1 := HKD1.out.1
                  have hd2 := HKD2.out.1
                  have g : ∀ {b : Nat} {o : Obj}, b ≠ B → w8.heap[b]? = some o → w9.heap[b]? = some o := fun hb hc => (h9o _ hb).trans ((HBC.out.block _ (Array.getElem?_eq_some_iff.1 hc).1).trans hc)
                  exact ⟨g (by omega) HX8.out.1, g (by omega) HX8.out.2.1, g (by omega) HX8.out.2.2, g (by omega) ((HE8.out.oth D1 h7.2.2.1 (by omega)).trans HX7.out.2.2.2), g (by omega) HKD2.out.2⟩
                have HX9 := Hid.mk h9x
                have HE9 : Hid (EI w w9 w9.heap.size B 0 w9) := ⟨h9b, KpM.refl _ _ _, h9w, fun _ _ _ => rfl⟩
                have HB9 : Hid (B < A2 ∧ A2 < w9.heap.size ∧ w.heap.size ≤ B) := ⟨HB7.out.1, Nat.lt_of_lt_of_le HB7.out.2.1 h79.size, HB7.out.2.2.2⟩
                obtain ⟨hN1, hK1, hone2, hin2, hT2⟩ := HP2.out
                have HSEQ3 := Hid.mk (each1_seq h B A2 T.items.length T.keys.length (A2 + 1) _ _ _ io2 ic2 ko2 kc2 _ c2 ⟨hN1, hK1⟩ (by have := HTI.out; omega) (by have := HTX.out.1; omega) hone2 T.items rfl (fun x hx => by have := HTX.out.2 x hx; omega) w9 (by have := HB9.out; omega) (by have := HB9.out; omega) (hin2.keep h79) (fun i x hx => InF.keepN h79 (by have := HB9.out; omega) (hT2 i x hx)))
                clear hw9 h9s h9b h9o h9w h79 h9x hN1 hK1 hone2 hin2 hT2 b5 f5 HBC HBCB
                refine rf_blockX (M := fun D W => w9.heap.size ≤ D ∧ W.heap[D]? = some (.deferred (some [])) ∧ EI w w9 w9.heap.size B T.items.length W) ?_ ?_
                · have hbl : B < w9.heap.size := (Array.getElem?_eq_some_iff.1 HE9.out.box).1
                  have hwb : w.heap.size ≤ B := HB9.out.2.2
                  refine wpIn_range_ownAt (by omega) (gf := 14) (lb := #[.pointer (some ⟨A2, 0, none⟩)]) rfl (enters_of Try.func14 (by kernel_rfl) rfl) HSEQ3.out (fun h k => h.trans k) (fun x W r r' h => KpE.putObj h (by omega)) (Below.refl _ _) (fun _ => rfl)
                    (fun (pre : List (EX T.items.length)) W => EI w w9 w9.heap.size B pre.length W) (fun cc pre W => False) (EI.own (by have := HE9.out.below.size; exact this) (Nat.le_refl _) (Nat.le_refl _)) (fun c xs X Y row h hg hr => h) HE9.out
                    (fun x a' W => ∃ Bx, AX h T.items (w9.heap.size + 2) x Bx W ∧ a' = { tmps := #[Value.agg #[Value.int IntKind.i64 kd, Value.string nm, Value.string tx, Value.slice io N ic, Value.slice ko K kc], Value.int IntKind.i64 leave, Value.pointer (some { block := w.heap.size, off := 0 }), Value.pointer (some { block := LV, off := 0 }), Value.pointer (some { block := RS, off := 0 }), Value.pointer (some { block := B, off := 0 }), Value.func (Fn.func 14) #[] #[Value.pointer (some { block := A1, off := 0 })], undef, undef, Value.pointer (some { block := u4.heap.size, off := 0 }), Value.func (Fn.func 14) #[] #[Value.pointer (some { block := A2, off := 0 })], Value.int IntKind.i64 (k : Int), Value.int IntKind.i64 (kk : Int), undef, undef, undef, Value.string (kyF T.keys.length (fun i => T.keys.getD i .empty) x.1.1), Value.pointer (some ⟨Bx, 0, none⟩), Value.slice (some { block := W4.heap.size, off := 0 }) 1 1, Value.agg #[Value.int IntKind.i64 2, Value.string { data := #[] }, Value.string { data := #[] }, Value.slice none 0 0, Value.slice none 0 0], Value.slice (some { block := W4.heap.size + 1, off := 0 }) 1 1, Value.agg #[Value.int IntKind.i64 6, Value.string { data := #[] }, Value.string { data := #[] }, Value.slice (some { block := W4.heap.size + 1, off := 0 }) 1 1, Value.slice (some { block := W4.heap.size, off := 0 }) 1 1], Value.func (Fn.func 14) #[] #[Value.pointer (some { block := A1, off := 0 })], Value.func (Fn.func 14) #[] #[Value.pointer (some { block := A1, off := 0 })], Value.bool false, Value.func (Fn.func 14) #[] #[Value.pointer (some { block := A1, off := 0 })], undef, undef, undef, undef, undef, undef, undef, undef, undef, undef, undef, Value.int IntKind.i64 1, Value.bool false, Value.agg #[Value.int IntKind.i64 kd, Value.string nm, Value.string tx, Value.slice io N ic, Value.slice ko K kc], Value.bool true, Value.bool false, Value.bool false, Value.agg #[Value.int IntKind.i64 kd, Value.string nm, Value.string tx, Value.slice io N ic, Value.slice ko K kc], Value.bool true, Value.bool false, Value.bool false, Value.agg #[Value.int IntKind.i64 kd, Value.string nm, Value.string tx, Value.slice io N ic, Value.slice ko K kc], Value.agg #[Value.int IntKind.i64 q0, Value.string q1, Value.string q2, Value.slice mo mN mc, Value.slice lo lN lc], Value.agg #[Value.int IntKind.i64 q0, Value.string q1, Value.string q2, Value.slice mo mN mc, Value.slice lo lN lc], Value.func (Fn.func 14) #[] #[Value.pointer (some { block := A2, off := 0 })], Value.func (Fn.func 14) #[] #[Value.pointer (some { block := A2, off := 0 })], Value.bool false, Value.int IntKind.i64 (k : Int), Value.pointer (some { block := u4.heap.size, off := 3 }), Value.slice mo mN mc, Value.int IntKind.i64 (mN : Int), Value.bool false, u58, u59, u60, u61, u62, u63, u64, Value.int IntKind.i64 (kk : Int), Value.pointer (some { block := u4.heap.size, off := 4 }), Value.slice lo lN lc, Value.int IntKind.i64 (lN : Int), Value.bool false, u70, u71, u72, u73, u74, u75, Value.func (Fn.func 14) #[] #[Value.pointer (some { block := A2, off := 0 })], undef, undef, undef, undef, undef, undef, undef, undef, undef, undef, undef, undef, undef, undef, undef, undef, undef, undef, u95, u96, u97, u98, u99, u100, u101, u102, Value.bool false, Value.func (Fn.func 14) #[] #[Value.pointer (some { block := A2, off := 0 })], Value.string (kyF T.keys.length (fun i => T.keys.getD i .empty) x.1.1), Value.agg #[x.2.1 0, x.2.1 1, x.2.1 2, x.2.1 3, x.2.1 4], u107, u108, u109, u110, u111, u112, u113, u114, u115, u116, u117, u118], defers := [] })
                    (fun x a' _ X Y row hs hg hr => by
                      obtain ⟨Bx, h1, h2⟩ := hs
                      exact ⟨Bx, h1.own hg hr, h2⟩) ?assign3 ?body3 ?done3 ?stop3
                  case assign3 =>
                    rintro l' pre x W KK hI hAt hKK
                    have hAX := AX.new hAt
                    obtain ⟨T', hT', hO'⟩ := hAt.2.2
                    obtain ⟨yo, yc, zo, zc, e0, e1, e2, e3, e4⟩ := hO'.kinds
                    have FIN := hKK { tmps := #[Value.agg #[Value.int IntKind.i64 kd, Value.string nm, Value.string tx, Value.slice io N ic, Value.slice ko K kc], Value.int IntKind.i64 leave, Value.pointer (some { block := w.heap.size, off := 0 }), Value.pointer (some { block := LV, off := 0 }), Value.pointer (some { block := RS, off := 0 }), Value.pointer (some { block := B, off := 0 }), Value.func (Fn.func 14) #[] #[Value.pointer (some { block := A1, off := 0 })], undef, undef, Value.pointer (some { block := u4.heap.size, off := 0 }), Value.func (Fn.func 14) #[] #[Value.pointer (some { block := A2, off := 0 })], Value.int IntKind.i64 (k : Int), Value.int IntKind.i64 (kk : Int), undef, undef, undef, Value.string (kyF T.keys.length (fun i => T.keys.getD i .empty) x.1.1), Value.pointer (some ⟨W.heap.size, 0, none⟩), Value.slice (some { block := W4.heap.size, off := 0 }) 1 1, Value.agg #[Value.int IntKind.i64 2, Value.string { data := #[] }, Value.string { data := #[] }, Value.slice none 0 0, Value.slice none 0 0], Value.slice (some { block := W4.heap.size + 1, off := 0 }) 1 1, Value.agg #[Value.int IntKind.i64 6, Value.string { data := #[] }, Value.string { data := #[] }, Value.slice (some { block := W4.heap.size + 1, off := 0 }) 1 1, Value.slice (some { block := W4.heap.size, off := 0 }) 1 1], Value.func (Fn.func 14) #[] #[Value.pointer (some { block := A1, off := 0 })], Value.func (Fn.func 14) #[] #[Value.pointer (some { block := A1, off := 0 })], Value.bool false, Value.func (Fn.func 14) #[] #[Value.pointer (some { block := A1, off := 0 })], undef, undef, undef, undef, undef, undef, undef, undef, undef, undef, undef, Value.int IntKind.i64 1, Value.bool false, Value.agg #[Value.int IntKind.i64 kd, Value.string nm, Value.string tx, Value.slice io N ic, Value.slice ko K kc], Value.bool true, Value.bool false, Value.bool false, Value.agg #[Value.int IntKind.i64 kd, Value.string nm, Value.string tx, Value.slice io N ic, Value.slice ko K kc], Value.bool true, Value.bool false, Value.bool false, Value.agg #[Value.int IntKind.i64 kd, Value.string nm, Value.string tx, Value.slice io N ic, Value.slice ko K kc], Value.agg #[Value.int IntKind.i64 q0, Value.string q1, Value.string q2, Value.slice mo mN mc, Value.slice lo lN lc], Value.agg #[Value.int IntKind.i64 q0, Value.string q1, Value.string q2, Value.slice mo mN mc, Value.slice lo lN lc], Value.func (Fn.func 14) #[] #[Value.pointer (some { block := A2, off := 0 })], Value.func (Fn.func 14) #[] #[Value.pointer (some { block := A2, off := 0 })], Value.bool false, Value.int IntKind.i64 (k : Int), Value.pointer (some { block := u4.heap.size, off := 3 }), Value.slice mo mN mc, Value.int IntKind.i64 (mN : Int), Value.bool false, u58, u59, u60, u61, u62, u63, u64, Value.int IntKind.i64 (kk : Int), Value.pointer (some { block := u4.heap.size, off := 4 }), Value.slice lo lN lc, Value.int IntKind.i64 (lN : Int), Value.bool false, u70, u71, u72, u73, u74, u75, Value.func (Fn.func 14) #[] #[Value.pointer (some { block := A2, off := 0 })], undef, undef, undef, undef, undef, undef, undef, undef, undef, undef, undef, undef, undef, undef, undef, undef, undef, undef, u95, u96, u97, u98, u99, u100, u101, u102, Value.bool false, Value.func (Fn.func 14) #[] #[Value.pointer (some { block := A2, off := 0 })], Value.string (kyF T.keys.length (fun i => T.keys.getD i .empty) x.1.1), Value.agg #[x.2.1 0, x.2.1 1, x.2.1 2, x.2.1 3, x.2.1 4], u107, u108, u109, u110, u111, u112, u113, u114, u115, u116, u117, u118], defers := [] } _ (keepsFrom_below (below1 W (.cells #[x.2.1 0, x.2.1 1, x.2.1 2, x.2.1 3, x.2.1 4] 25))) ⟨KpM.of_below (below1 W _) hAt.2.1, KeepsTo.of_from (keepsFrom_below (below1 W _))⟩ ((EI.own (by have := HE9.out.below.size; exact this) (Nat.le_refl _) (Nat.le_refl _)).alloc _ hI) ⟨_, hAX, rfl⟩
                    unfold encE
                    dsimp only
                    rw [e0, e1, e2, e3, e4] at FIN ⊢
                    clear hKK hAX hO' hI hAt
                    gi_wp2_with fail
                    exact FIN
                  case body3 =>
                    rintro l' pre x a' W hl _ hI ⟨Bx, hX, rfl⟩ hlt hSp
                    have hxp : x.1.1 = pre.length := by
                      have h1 : pre.map (·.1.1) ++ [x.1.1] = List.range (pre.length + 1) := by
                        have h2 := hSp
                        rw [List.map_append, List.length_append] at h2
                        exact h2
                      rw [List.range_succ] at h1
                      have h2 := List.append_inj_right' h1 rfl
                      exact (List.cons.inj h2).1
                    obtain ⟨X, hTX, hOX⟩ := hX.tree
                    obtain ⟨yo, yc, zo, zc, e0, e1, e2, e3, e4⟩ := hOX.kinds
                    have hbox := hX.box
                    rw [e0, e1, e2, e3, e4] at hbox hOX
                    have hxs : szN h X ≤ 10000 := (items_le HI.out (of_decide_eq_true HSV.out)).2.2 X (List.mem_of_getElem? hTX)
                    have hlo := hX.lo
                    have hbx := hX.bx
                    have hBxl : Bx < W.heap.size := (Array.getElem?_eq_some_iff.1 hbox).1
                    rw [hxp] at hTX
                    have hI7 := hI.kp
                    obtain ⟨v7, l7, _, _, _⟩ := HX9.out
                    have hvx : W.heap[w.heap.size]? = some (.cells #[.int .i64 kd, .string nm, .string tx, .slice io N ic, .slice ko K kc] 25 (0, 0)) := hI7.same _ _ (by omega) (by have := HLN.out; have := HLB.out; omega) v7 rfl
                    have hlv : W.heap[LV]? = some (.cells #[.int .i64 leave] 3 (0, 0)) := hI7.same _ _ (by have := HLN.out; omega) HLN.out.1 l7 rfl
                    obtain ⟨j, hj⟩ : ∃ j : Nat, j = pre.length := ⟨_, rfl⟩
                    have hbB := hI.box
                    have HF : Hid (∀ (W2 : World) (z : Int), Below x.2.2 W W2 → z = (j : Int) + 1 → EI w w9 w9.heap.size B (pre ++ [x]).length (W2.setCell ⟨B, 0, none⟩ (.int .i64 z)) ∧ KpE B (w9.heap.size + 2) x W (W2.setCell ⟨B, 0, none⟩ (.int .i64 z)) ∧ KeepsTo w9.heap.size (w9.heap.size + 2) W (W2.setCell ⟨B, 0, none⟩ (.int .i64 z))) := fun W2 z hb hz => by
                      rw [show (pre ++ [x]).length = pre.length + 1 from by simp]
                      exact ei_step hI hb (by omega) hwb hbl hlo (w9.heap.size + 2) z (by rw [hz, hj])
                    have HPL : Hid (((pre ++ [x]).length : Int) = (j : Int) + 1) := by show _ = _; rw [List.length_append, ← hj]; rfl
                    obtain ⟨key, hkey⟩ : ∃ key, kyF T.keys.length (fun i => T.keys.getD i .empty) x.1.1 = key := ⟨_, rfl⟩
                    have HAt := Hid.mk (w_atE h T X kd nm tx io N ic ko K kc j key X.kind X.num X.text yo X.items.length yc zo X.keys.length zc W (HTv.out W hI.below) HFV.out (by have := HTI.out; omega) (by rw [hj]; exact hTX) hOX.1.toH (by rw [← hkey, hxp, hj]))
                    have HOX := Hid.mk hOX.2
                    have HXS := Hid.mk hxs
                    have HLO := Hid.mk hlo
                    have HBL := Hid.mk (And.intro hbx hBxl)
                    have d0 : W.cell? ⟨w.heap.size, 0, none⟩ = some (.int .i64 kd) := cell_of_row _ _ 0 _ _ _ hvx
                    have d1 : W.cell? ⟨w.heap.size, 1, none⟩ = some (.string nm) := cell_of_row _ _ 1 _ _ _ hvx
                    have d2 : W.cell? ⟨w.heap.size, 2, none⟩ = some (.string tx) := cell_of_row _ _ 2 _ _ _ hvx
                    have d3 : W.cell? ⟨w.heap.size, 3, none⟩ = some (.slice io N ic) := cell_of_row _ _ 3 _ _ _ hvx
                    have d4 : W.cell? ⟨w.heap.size, 4, none⟩ = some (.slice ko K kc) := cell_of_row _ _ 4 _ _ _ hvx
                    rw [← hj] at hbB
                    have b5 : W.cell? ⟨B, 0, none⟩ = some (.int .i64 (j : Int)) := cell_of_row _ _ 0 _ _ _ hbB
                    have HBX := Hid.mk hbox
                    have HBB := Hid.mk hbB
                    have HLVB := Hid.mk hlv
                    have x0 : W.cell? ⟨Bx, 0, none⟩ = some (.int .i64 X.kind) := cell_of_row _ _ 0 _ _ _ hbox
                    have x1 : W.cell? ⟨Bx, 1, none⟩ = some (.string X.num) := cell_of_row _ _ 1 _ _ _ hbox
                    have x2 : W.cell? ⟨Bx, 2, none⟩ = some (.string X.text) := cell_of_row _ _ 2 _ _ _ hbox
                    have x3 : W.cell? ⟨Bx, 3, none⟩ = some (.slice yo X.items.length yc) := cell_of_row _ _ 3 _ _ _ hbox
                    have x4 : W.cell? ⟨Bx, 4, none⟩ = some (.slice zo X.keys.length zc) := cell_of_row _ _ 4 _ _ _ hbox
                    have hjj : (j : Int) ≤ 100000 := by have : pre.length < T.items.length := hlt; have := HTI.out; omega
                    have hj0 : (0 : Int) ≤ (j : Int) := by omega
                    rw [e0, e1, e2, e3, e4, hkey]
                    clear hkey hj hxp hTX hOX e0 e1 e2 e3 e4 hbox hX hI hlo hbx hBxl hlt hSp hl hI7 v7 l7 hvx hlv hbB hxs
                    gi_wp2_with fail
                    refine ⟨trivial, (CallsIn.inRound _ (callsIn_wide.2 HAt.out)).mono ?_⟩
                    rintro e W1 ⟨rfl, hb1⟩
                    have hBx : B < x.2.2 := by have := HLO.out; omega
                    have hlw : x.2.2 ≤ W.heap.size := by have := HBL.out; omega
                    have HB1' : Hid (Below x.2.2 W W1) := hb1.mono hlw
                    have hb4 : W1.heap[B]? = some (.cells #[.int .i64 (j : Int)] 3 (0, 0)) := (HB1'.out.block _ hBx).trans HBB.out
                    have b5 : W1.cell? ⟨B, 0, none⟩ = some (.int .i64 (j : Int)) := cell_of_row _ _ 0 _ _ _ hb4
                    have f5 : W1.frozen? ⟨B, 0, none⟩ = false := frozen_row hb4
                    clear d0 d1 d2 d3 d4 x0 x1 x2 x3 x4 hb1 hb4 hBx hlw HAt
                    gi_wp2_with fail
                    have hf := HF.out _ _ HB1'.out rfl
                    exact ⟨⟨hf.2.2, hf.2.1, hf.1⟩, hf.2.1⟩
                  case done3 =>
                    rintro D xs W hD hS hI hK
                    have hl : xs.length = T.items.length := by have := congrArg List.length hS; rw [List.length_map, List.length_range] at this; exact this
                    rw [hl] at hI
                    exact ⟨.inl rfl, D, rfl, hD, hK, hI⟩
                  case stop3 =>
                    rintro D c pre W hD hSp hf hK
                    exact hf.elim
                rintro D3 w10 ⟨hD3, hKD3, hEI10⟩
                have h10 : w10.heap[w.heap.size]? = some (.cells #[.int .i64 kd, .string nm, .string tx, .slice io N ic, .slice ko K kc] 25 (0, 0)) ∧ w10.heap[RS]? = some (.cells #[.bool false] 4 (0, 0)) ∧ w10.heap[D1]? = some (.deferred (some [])) ∧ w10.heap[D2]? = some (.deferred (some [])) := by
                  have hl := HLN.out
                  have h9 := HB9.out
                  have h3 := HLB.out
                  have hu := HBU.out
                  have hd1 := HKD1.out.1
                  have hd2 := HKD2.out.1
                  have h7 := HB7.out
                  obtain ⟨v9, l9, r9, e1, e2⟩ := HX9.out
                  have g : ∀ {b : Nat} {o : Obj}, b ≠ B → w9.heap[b]? = some o → w10.heap[b]? = some o := fun hb hc => (hEI10.oth _ (Array.getElem?_eq_some_iff.1 hc).1 hb).trans hc
                  exact ⟨g (by omega) v9, g (by omega) r9, g (by omega) e1, g (by omega) e2⟩
                have h10o : D1 < w7.heap.size ∧ w7.heap.size ≤ D2 ∧ D2 < w9.heap.size ∧ w9.heap.size ≤ D3 ∧ RS < D1 ∧ w.heap.size ≤ RS := by
                  have hl := HLN.out
                  have h3 := HLB.out
                  have hu := HBU.out
                  have hd1 := HKD1.out.1
                  exact ⟨HB7.out.2.2.1, HKD2.out.1, (Array.getElem?_eq_some_iff.1 HX9.out.2.2.2.2).1, hD3, by omega, by omega⟩
                have HO10 := Hid.mk h10o
                have HK3 := Hid.mk hKD3
                have H10 := Hid.mk h10
                have HE10 := Hid.mk hEI10
                have HCL : Hid (∀ u, Below w10.heap.size w10 u → u.cell? ⟨B, 0, none⟩ = some (.int .i64 (T.items.length : Int)) ∧ u.cell? ⟨w.heap.size, 0, none⟩ = some (.int .i64 kd) ∧ u.cell? ⟨w.heap.size, 1, none⟩ = some (.string nm) ∧ u.cell? ⟨w.heap.size, 2, none⟩ = some (.string tx) ∧ u.cell? ⟨w.heap.size, 3, none⟩ = some (.slice io N ic) ∧ u.cell? ⟨w.heap.size, 4, none⟩ = some (.slice ko K kc)) := fun u hu => by
                  have gb : ∀ {b : Nat} {o : Obj}, w10.heap[b]? = some o → u.heap[b]? = some o := fun hc => (hu.block _ (Array.getElem?_eq_some_iff.1 hc).1).trans hc
                  have hB := gb HE10.out.box
                  have hV := gb H10.out.1
                  exact ⟨cell_of_row _ _ 0 _ _ _ hB, cell_of_row _ _ 0 _ _ _ hV, cell_of_row _ _ 1 _ _ _ hV, cell_of_row _ _ 2 _ _ _ hV, cell_of_row _ _ 3 _ _ _ hV, cell_of_row _ _ 4 _ _ _ hV⟩
                have HW88 : Hid (Below w10.heap.size w10 w10) := Below.refl _ _
                clear h10 h10o hD3 hKD3 hEI10 HSEQ3 HE9
                gi_upto_region 1 with fail
                refine wpIn_mono ?_ NoPanic.imp
                refine wpIn_region_G 4 (S := fun u => u.cell? ⟨B, 0, none⟩ = some (.int .i64 (T.items.length : Int)) ∧ u.cell? ⟨w.heap.size, 0, none⟩ = some (.int .i64 kd) ∧ u.cell? ⟨w.heap.size, 1, none⟩ = some (.string nm) ∧ u.cell? ⟨w.heap.size, 2, none⟩ = some (.string tx) ∧ u.cell? ⟨w.heap.size, 3, none⟩ = some (.slice io N ic) ∧ u.cell? ⟨w.heap.size, 4, none⟩ = some (.slice ko K kc)) (by kernel_rfl) (HCL.out _ HW88.out.drew) (fun hHeld => ?_)
                refine wpAnyG_take 0 (.int .i64 (T.items.length : Int)) rfl rfl (by kernel_rfl) (fun _ _ _ h => h) ⟨Or.inl ⟨by rfl, ?_⟩, fun _ => rfl⟩ (by assumption) ?_
                · intro u hSu
                  obtain ⟨s0, s1, s2, s3, s4, s5⟩ := hSu
                  go_simp
                  first | done | (simp; done)
                try simp only [Act.put, List.getElem_toArray, List.getElem_cons_succ, List.getElem_cons_zero, List.setIfInBounds_toArray, List.set_cons_zero, List.set_cons_succ]
                refine wpAnyG_take 1 (.agg #[.int .i64 kd, .string nm, .string tx, .slice io N ic, .slice ko K kc]) rfl rfl (by kernel_rfl) (fun _ _ _ h => h) ⟨Or.inl ⟨by rfl, ?_⟩, fun _ => rfl⟩ (by assumption) ?_
                · intro u hSu
                  obtain ⟨s0, s1, s2, s3, s4, s5⟩ := hSu
                  go_simp
                  first | done | (simp; done)
                try simp only [Act.put, List.getElem_toArray, List.getElem_cons_succ, List.getElem_cons_zero, List.setIfInBounds_toArray, List.set_cons_zero, List.set_cons_succ]
                refine wpAnyG_one (i := 2) (o := _) (by kernel_rfl) rfl (fun K2 hK2 => ?_)
                rw [if_pos (by rfl)]
                refine wpIn_of_enter rfl (fun _ => by decide) (fun _ _ => trivial) (by kernel_rfl) ((callsIn_wide.2 (HHd.out _)).mono ?_)
                rintro e w' ⟨rfl, hbw⟩
                have HBQ := Hid.mk (HW88.out.drew.trans hbw)
                clear hHeld
                have hHeld := HCL.out _ HBQ.out
                refine ⟨_, rfl, hK2 _ _ (fun _ _ => hHeld) ?_⟩
                clear hK2 K2
                try simp only [Act.put, List.getElem_toArray, List.getElem_cons_succ, List.getElem_cons_zero, List.setIfInBounds_toArray, List.set_cons_zero, List.set_cons_succ]
                refine wpAnyG_take 3 (.bool true) rfl rfl (by kernel_rfl) (fun _ _ _ h => h) ⟨Or.inl ⟨by rfl, ?_⟩, fun _ => rfl⟩ (by assumption) ?_
                · intro u hSu
                  obtain ⟨s0, s1, s2, s3, s4, s5⟩ := hSu
                  go_simp
                  first | done | (simp; done)
                try simp only [Act.put, List.getElem_toArray, List.getElem_cons_succ, List.getElem_cons_zero, List.setIfInBounds_toArray, List.set_cons_zero, List.set_cons_succ]
                have hrs : w'.heap[RS]? = some (.cells #[.bool false] 4 (0, 0)) := (HBQ.out.block _ (Array.getElem?_eq_some_iff.1 H10.out.2.1).1).trans H10.out.2.1
                have rRS : w'.cell? ⟨RS, 0, none⟩ = some (.bool false) := cell_of_row _ _ 0 _ _ _ hrs
                have fRS : w'.frozen? ⟨RS, 0, none⟩ = false := frozen_row hrs
                refine wpAnyG_one (i := 4) (o := _) (by kernel_rfl) rfl (fun K3 hK3 => ?_)
                rw [if_pos (by rfl)]
                refine wpIn_of_skip (w' := w'.setCell ⟨RS, 0, none⟩ (.bool true)) rfl (by kernel_rfl) ?_ (hK3 _ _ (fun _ h => absurd rfl h) ?_)
                · clear hHeld hrs
                  go_simp
                try simp only [Act.put, List.getElem_toArray, List.getElem_cons_succ, List.getElem_cons_zero, List.setIfInBounds_toArray, List.set_cons_zero, List.set_cons_succ]
                refine wpAnyG_done (by kernel_rfl) ?_ _
                clear hK3 K3
                refine NoPanic.normal ?_
                gi_wp2_with fail
                obtain ⟨o1, o2, o3, o4, o5, o6⟩ := HO10.out
                have hq : ∀ {b : Nat} {o : Obj}, w10.heap[b]? = some o → w'.heap[b]? = some o := fun hc => (HBQ.out.block _ (Array.getElem?_eq_some_iff.1 hc).1).trans hc
                have hE3 : (w'.setCell ⟨RS, 0, none⟩ (.bool true)).heap[D3]? = some (.deferred (some [])) := (Below.heap_setCell _ _ _ _ (by show D3 ≠ RS; omega)).trans (hq HK3.out)
                have hE2 : ((w'.setCell ⟨RS, 0, none⟩ (.bool true)).putObj D3 (.deferred none)).heap[D2]? = some (.deferred (some [])) := (World.putObj_heap_other (by omega)).trans ((Below.heap_setCell _ _ _ _ (by show D2 ≠ RS; omega)).trans (hq H10.out.2.2.2))
                have hE1 : (((w'.setCell ⟨RS, 0, none⟩ (.bool true)).putObj D3 (.deferred none)).putObj D2 (.deferred none)).heap[D1]? = some (.deferred (some [])) := (World.putObj_heap_other (by omega)).trans ((World.putObj_heap_other (by omega)).trans ((Below.heap_setCell _ _ _ _ (by show D1 ≠ RS; omega)).trans (hq H10.out.2.2.1)))
                refine ⟨by simp, .inl ⟨_, _, rfl, run_takeDeferred hE3, by simp, .inl ⟨_, _, rfl, run_takeDeferred hE2, by simp, .inl ⟨_, _, rfl, run_takeDeferred hE1, ?_⟩⟩⟩⟩
                have hc := cell_kept (World.cell?_setCell_same w' ⟨RS, 0, none⟩ (.bool true) rRS) (grownBy_putObj' _ D3 (.deferred none)) (fun r e => by cases e; exact ⟨_, hE3, rfl⟩)
                have hc1 := cell_kept hc (grownBy_putObj' _ D2 (.deferred none)) (fun r e => by cases e; exact ⟨_, hE2, rfl⟩)
                have hc2 := cell_kept hc1 (grownBy_putObj' _ D1 (.deferred none)) (fun r e => by cases e; exact ⟨_, hE1, rfl⟩)
                have hbw' : Below w.heap.size w w' := HE10.out.below.trans (HBQ.out.mono HE10.out.below.size)
                refine ⟨.bool true, ?_, rfl, (((hbw'.setCell (p := ⟨RS, 0, none⟩) (by show _ ≤ RS; omega) _).trans (belowK_b (w := w) (Nat.le_refl _) _ D3 _ _ (by omega) hE3 rfl rfl)).trans (belowK_b (w := w) (Nat.le_refl _) _ D2 _ _ (by omega) hE2 rfl rfl)).trans (belowK_b (w := w) (Nat.le_refl _) _ D1 _ _ (by omega) hE1 rfl rfl)⟩
                simp [results, Try.results3, go_sem, hc2]
end Go.Proofs.Ytaflpeajapdkdaa
