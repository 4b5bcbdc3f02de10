import Derived.Test.YthcohnnikmpjkaaTYd
namespace Go.Proofs.Ythcohnnikmpjkaa
open Go.RowKit Go.Shelf
set_option linter.unusedVariables false
set_option linter.unusedSimpArgs false
attribute [local go_sem] Oper.semAt_some

theorem tw_self {a : Int} (h0 : 0 ≤ a) (h1 : a ≤ 9223372036854775807) : IntKind.wrap .i64 a = a := by
  show (if (true && decide (a % 18446744073709551616 ≥ 9223372036854775808)) = true then a % 18446744073709551616 - 18446744073709551616 else a % 18446744073709551616) = _
  rw [if_neg (by simp; omega)]; omega
theorem tmx_append (a b : List Nat) : mxL (a ++ b) = max (mxL a) (mxL b) := mxL_append a b
theorem foldl_mx {α : Type} (f : α → Nat) : ∀ (l : List α) (n : Nat), l.foldl (fun n a => max n (f a)) n = max n (mxL (l.map f))
  | [], n => by simp [mxL]
  | a :: r, n => by
    rw [List.foldl_cons, foldl_mx f r, List.map_cons]
    simp only [mxL]; omega
theorem foldl_ob (g : TT → Nat) : ∀ (l : List OB) (n : Nat), l.foldl (fun n o => o.fields.foldl (fun n t => max n (g t)) (max n (g o.rest))) n = max n (mxL ((l.flatMap fun o => o.fields ++ [o.rest]).map g))
  | [], n => by simp [mxL]
  | o :: r, n => by
    rw [List.foldl_cons, foldl_ob g r, foldl_mx, List.flatMap_cons, List.map_append, List.map_append, mxL_append, mxL_append]
    simp only [List.map_cons, List.map_nil, mxL]; omega
/-- the height off the parts -/
theorem hg_ins (h : Nat) (T : TT) : hgN (h + 1) T = mxL ((insT T).map fun t => hgN h t + 1) := by
  show T.objs.foldl (fun n o => o.fields.foldl (fun n t => max n (hgN h t + 1)) (max n (hgN h o.rest + 1))) (T.arrs.foldl (fun n a => max n (hgN h a.item + 1)) 0) = _
  rw [foldl_ob (fun t => hgN h t + 1), foldl_mx (fun a : AR => hgN h a.item + 1)]
  unfold insT
  rw [List.map_append, mxL_append, List.map_map]
  simp only [Nat.zero_max]
  rfl
/-- the parts are no greater -/
theorem tp_ins {h : Nat} {T : TT} (hT : tpN (h + 1) T ≤ 1048576) : ∀ t ∈ insT T, tpN h t ≤ 1048576 := by
  have htp : 1 + T.texts.length + T.nums.length + sumL (T.arrs.map fun a => tpN h a.item) + sumL (T.objs.map fun o => o.names.length + o.must.length + tpN h o.rest + sumL (o.fields.map (tpN h))) ≤ 1048576 := hT
  intro t ht
  unfold insT at ht
  rcases List.mem_append.1 ht with ht | ht
  · obtain ⟨a, ha, rfl⟩ := List.mem_map.1 ht
    have := sumL_mem (List.mem_map.2 ⟨a, ha, rfl⟩ : (fun a : AR => tpN h a.item) a ∈ T.arrs.map fun a => tpN h a.item)
    have this' : tpN h a.item ≤ sumL (T.arrs.map fun a => tpN h a.item) := this
    omega
  · obtain ⟨ob, ho, ht⟩ := List.mem_flatMap.1 ht
    have := sumL_mem (List.mem_map.2 ⟨ob, ho, rfl⟩ : (fun o : OB => o.names.length + o.must.length + tpN h o.rest + sumL (o.fields.map (tpN h))) ob ∈ T.objs.map fun o => o.names.length + o.must.length + tpN h o.rest + sumL (o.fields.map (tpN h)))
    have this' : ob.names.length + ob.must.length + tpN h ob.rest + sumL (ob.fields.map (tpN h)) ≤ sumL (T.objs.map fun o => o.names.length + o.must.length + tpN h o.rest + sumL (o.fields.map (tpN h))) := this
    rcases List.mem_append.1 ht with ht | ht
    · have := sumL_mem (List.mem_map.2 ⟨t, ht, rfl⟩ : tpN h t ∈ ob.fields.map (tpN h))
      omega
    · obtain rfl := List.mem_singleton.1 ht
      omega
/-- Height answers so -/
def HsOk (h : Nat) : Prop := ∀ (T : TT) (v : Value) (u : World), InT u h T v → tpN h T ≤ 1048576 → Calls Try.prog 13 #[v] u fun e w' => e = .returned (.int .i64 (hgN h T : Int)) ∧ Below u.heap.size u w'
/-- the heights of what has come -/
def mxT (h : Nat) {p : TT × Value → Prop} (pre : List { x : TT × Value // p x }) : Nat := mxL (pre.map fun x => hgN h x.1.1 + 1)
theorem mxT_snoc (h : Nat) {p : TT × Value → Prop} (pre : List { x : TT × Value // p x }) (x : { x : TT × Value // p x }) : mxT h (pre ++ [x]) = max (mxT h pre) (hgN h x.1.1 + 1) := by
  unfold mxT; rw [List.map_append, mxL_append]; simp [mxL]
theorem tmx_le {b : Nat} : ∀ {l : List Nat}, (∀ x ∈ l, x ≤ b) → mxL l ≤ b
  | [], _ => Nat.zero_le _
  | x :: r, h => by
    have h1 := h x (List.mem_cons_self ..)
    have h2 := tmx_le (l := r) (fun y hy => h y (List.mem_cons_of_mem _ hy))
    simp only [mxL]; omega

set_option maxRecDepth 100000 in
set_option maxHeartbeats 8000000 in
theorem height_step (h : Nat) (ih : HsOk h) (b0 b1 b2 b3 b5 : Bool) (no xo ao oo : Option Addr) (nn nc nx xc NA ac NO oc : Nat) (az : List (TT × Value)) (os : List (List (TT × Value) × (TT × Value))) (w : World)
    (lA : az.length = NA) (lO : os.length = NO) (hA : NA ≤ ac) (hO : NO ≤ oc) (hA2 : NA ≤ 140737488355328) (hO2 : NO ≤ 140737488355328) (hin : ∀ x ∈ partsT az os, InT w h x.1 x.2) (htp : ∀ x ∈ partsT az os, tpN h x.1 ≤ 1048576)
    (hst : ∀ (W : World) (B : Nat), Below w.heap.size w W → W.cell? ⟨B, 7, none⟩ = some (.slice ao NA ac) → W.cell? ⟨B, 8, none⟩ = some (.slice oo NO oc) → InTS W w.heap.size B ao ac oo oc az os) :
    Calls Try.prog 13 #[.agg #[.bool b0, .bool b1, .bool b2, .bool b3, .slice no nn nc, .bool b5, .slice xo nx xc, .slice ao NA ac, .slice oo NO oc]] w fun e w' => e = .returned (.int .i64 ((mxL ((partsT az os).map fun x => hgN h x.1 + 1) : Nat) : Int)) ∧ Below w.heap.size w w' := by
  have hmx : ∀ pre : List { x : TT × Value // x ∈ partsT az os }, mxT h pre ≤ 1048577 := fun pre => tmx_le (fun y hy => by
    obtain ⟨x, _, rfl⟩ := List.mem_map.1 hy
    have h1 := hg_le h x.1.1
    have h2 := htp x.1 x.2
    omega)
  have hle : ∀ x : { x : TT × Value // x ∈ partsT az os }, hgN h x.1.1 ≤ 1048576 := fun x => Nat.le_trans (hg_le h x.1.1) (htp x.1 x.2)
  have hsh : ∀ x ∈ partsT az os, ShT x.2 := fun x hx => sh_of (hin x hx)
  have HIN := Hid.mk hin
  have HTP := Hid.mk htp
  have HST := Hid.mk hst
  have HSH := Hid.mk hsh
  have HMX := Hid.mk hmx
  have HLE := Hid.mk hle
  have HIH := Hid.mk ih
  have HLA := Hid.mk lA
  have HLO := Hid.mk lO
  clear hin htp hst hsh hmx hle ih lA lO
  refine (callsIn_wide (n := 5)).1 ?_
  refine callsIn_of_wp_marks Try.func13 rfl trivial ?_ rfl
  simp only [Try.ntmps13, List.size_toArray, List.length_cons, List.length_nil, Nat.reduceAdd, Nat.reduceSub, Array.replicate_succ, Array.replicate_zero, List.push_toArray, List.append_toArray, List.nil_append, List.cons_append]
  have HIS : Hid (∀ u : World, Calls Try.prog 35 #[.agg #[.bool b0, .bool b1, .bool b2, .bool b3, .slice no nn nc, .bool b5, .slice xo nx xc, .slice ao NA ac, .slice oo NO oc]] u fun en w' => en = .returned (.func (.func 57) #[] #[.pointer (some ⟨u.heap.size, 0, none⟩)]) ∧ w' = u.alloc (.cells #[.bool b0, .bool b1, .bool b2, .bool b3, .slice no nn nc, .bool b5, .slice xo nx xc, .slice ao NA ac, .slice oo NO oc] 27)) := by
    intro u
    obtain ⟨a, e, h⟩ := w_insideT (.agg #[.bool b0, .bool b1, .bool b2, .bool b3, .slice no nn nc, .bool b5, .slice xo nx xc, .slice ao NA ac, .slice oo NO oc]) ⟨b0, b1, b2, b3, no, nn, nc, b5, xo, nx, xc, ao, NA, ac, oo, NO, oc, rfl⟩ u
    obtain rfl := Value.agg.inj e
    exact h
  gi_wp2_with fail
  refine ⟨trivial, (callsIn_wide.2 (HIS.out _)).mono ?_⟩
  rintro e w1 ⟨rfl, rfl⟩
  gi_wp2_with fail
  obtain ⟨W0, hW0⟩ : ∃ W0, (((w.alloc (.cells #[.bool b0, .bool b1, .bool b2, .bool b3, .slice no nn nc, .bool b5, .slice xo nx xc, .slice ao NA ac, .slice oo NO oc] 27)).alloc (.cells #[.int .i64 0] 3)).alloc (.cells #[.bool b0, .bool b1, .bool b2, .bool b3, .slice no nn nc, .bool b5, .slice xo nx xc, .slice ao NA ac, .slice oo NO oc] 27)) = W0 := ⟨_, rfl⟩
  have hsz0 : W0.heap.size = w.heap.size + 3 := by rw [← hW0]; simp
  have hB0 : Below w.heap.size w W0 := by rw [← hW0]; exact (((Below.refl _ w).alloc (Nat.le_refl _) _).alloc (by simp) _).alloc (by simp; omega) _
  have bS : Boxed W0 (w.heap.size + 1) 3 (.int .i64 0) := by
    rw [← hW0]
    have := (Boxed.new (w.alloc (.cells #[.bool b0, .bool b1, .bool b2, .bool b3, .slice no nn nc, .bool b5, .slice xo nx xc, .slice ao NA ac, .slice oo NO oc] 27)) 3 (.int .i64 0)).alloc (.cells #[.bool b0, .bool b1, .bool b2, .bool b3, .slice no nn nc, .bool b5, .slice xo nx xc, .slice ao NA ac, .slice oo NO oc] 27)
    simpa only [World.size_alloc] using this
  have hS0 : InTS W0 w.heap.size (w.heap.size + 1 + 1) ao ac oo oc az os := HST.out W0 _ hB0 (by rw [← hW0]; simp [go_sem]) (by rw [← hW0]; simp [go_sem])
  rw [hW0]
  clear hW0
  refine wpIn_rangeFunc_ownH rfl (by omega) (gf := 57) (lb := #[.pointer (some ⟨w.heap.size + 1 + 1, 0, none⟩)]) rfl trivial (enters_of Try.func57 (by kernel_rfl) rfl)
    (insideT_stops (5 - 1) (by omega) w.heap.size (w.heap.size + 1 + 1) W0.heap.size ao ac oo oc az os (by rw [HLA.out]; exact hA) (by rw [HLO.out]; exact hO) (by rw [HLA.out]; exact hA2) (by rw [HLO.out]; exact hO2) HSH.out W0 (by omega) (Nat.le_refl _) hS0) (fun h k => h.trans k) (KpT.put (by omega)) (Below.refl _ _) (fun _ => rfl)
    (fun pre W => Boxed W (w.heap.size + 1) 3 (.int .i64 ((mxT h pre : Nat) : Int)) ∧ Below w.heap.size w W)
    (fun _ _ _ => False)
    (OwnFrom.and (Own.from (boxed_own _ _ _) _) (ownFrom_below (Nat.le_refl _) (by omega)))
    (fun _ _ _ _ _ hs _ _ => hs)
    ⟨bS, hB0⟩
    (fun x a' W => ∃ Bx, w.heap.size + 1 < Bx ∧ IB9 W Bx x.1.2 ∧ a' = { tmps := #[.agg #[.bool b0, .bool b1, .bool b2, .bool b3, .slice no nn nc, .bool b5, .slice xo nx xc, .slice ao NA ac, .slice oo NO oc], .pointer (some ⟨w.heap.size, 0, none⟩), .int .i64 0, .pointer (some ⟨w.heap.size + 1, 0, none⟩), .pointer (some ⟨Bx, 0, none⟩), .agg #[.bool b0, .bool b1, .bool b2, .bool b3, .slice no nn nc, .bool b5, .slice xo nx xc, .slice ao NA ac, .slice oo NO oc], .func (.func 57) #[] #[.pointer (some ⟨w.heap.size + 1 + 1, 0, none⟩)], x.1.2, undef, undef, undef, undef, undef, undef], defers := [] })
    (fun x a' _ X Y row hs hg hr => by
      obtain ⟨Bx, h1, h2, h3⟩ := hs
      exact ⟨Bx, h1, ib9_own _ Bx x.1.2 () X Y row h2 hg hr, h3⟩)
    ?assign ?body ?done ?stop
  case assign =>
    rintro l pre x W KK ⟨bS1, hB1⟩ hKK
    obtain ⟨sa, sb, sc, sd, seo, sen, sec, sf, sgo, sgn, sgc, sio, sinn, sic, sjo, sjn, sjc, hsv⟩ := HSH.out x.1 x.2
    have hI : IB9 (W.alloc (.cells #[.bool sa, .bool sb, .bool sc, .bool sd, .slice seo sen sec, .bool sf, .slice sgo sgn sgc, .slice sio sinn sic, .slice sjo sjn sjc] 27)) W.heap.size x.1.2 := ⟨_, hsv, World.alloc_heap_new W _⟩
    have FIN := hKK { tmps := #[.agg #[.bool b0, .bool b1, .bool b2, .bool b3, .slice no nn nc, .bool b5, .slice xo nx xc, .slice ao NA ac, .slice oo NO oc], .pointer (some ⟨w.heap.size, 0, none⟩), .int .i64 0, .pointer (some ⟨w.heap.size + 1, 0, none⟩), .pointer (some ⟨W.heap.size, 0, none⟩), .agg #[.bool b0, .bool b1, .bool b2, .bool b3, .slice no nn nc, .bool b5, .slice xo nx xc, .slice ao NA ac, .slice oo NO oc], .func (.func 57) #[] #[.pointer (some ⟨w.heap.size + 1 + 1, 0, none⟩)], x.1.2, undef, undef, undef, undef, undef, undef], defers := [] } _ ((KeepsOthers.alloc _ _).from _) (KpT.of_below hB1.size (below1 W _)) ⟨bS1.alloc _, hB1.alloc hB1.size _⟩ ⟨W.heap.size, bS1.lt, hI, rfl⟩
    dsimp only
    rw [hsv] at FIN ⊢
    clear hKK hI bS1 hB1
    gi_wp2_with fail
    exact FIN
  case body =>
    rintro l pre x a' W hl ⟨r, hr⟩ ⟨bS1, hB1⟩ ⟨Bx, hBx, bX, rfl⟩ hlt
    obtain ⟨sa, sb, sc, sd, seo, sen, sec, sf, sgo, sgn, sgc, sio, sinn, sic, sjo, sjn, sjc, hsv⟩ := HSH.out x.1 x.2
    obtain ⟨ax, hax, hrow⟩ := bX.row
    rw [hsv] at hax
    obtain rfl := Value.agg.inj hax
    have c0 := cell_of_row _ _ 0 _ _ _ hrow
    have c1 := cell_of_row _ _ 1 _ _ _ hrow
    have c2 := cell_of_row _ _ 2 _ _ _ hrow
    have c3 := cell_of_row _ _ 3 _ _ _ hrow
    have c4 := cell_of_row _ _ 4 _ _ _ hrow
    have c5 := cell_of_row _ _ 5 _ _ _ hrow
    have c6 := cell_of_row _ _ 6 _ _ _ hrow
    have c7 := cell_of_row _ _ 7 _ _ _ hrow
    have c8 := cell_of_row _ _ 8 _ _ _ hrow
    have hIn : Hid (InT W h x.1.1 (.agg #[.bool sa, .bool sb, .bool sc, .bool sd, .slice seo sen sec, .bool sf, .slice sgo sgn sgc, .slice sio sinn sic, .slice sjo sjn sjc])) := by show InT _ _ _ _; rw [← hsv]; exact (HIN.out x.1 x.2).keep hB1
    have HCALL : Hid (∀ u, u = W.drew → Calls Try.prog 13 #[.agg #[.bool sa, .bool sb, .bool sc, .bool sd, .slice seo sen sec, .bool sf, .slice sgo sgn sgc, .slice sio sinn sic, .slice sjo sjn sjc]] u fun e w' => e = .returned (.int .i64 ((hgN h x.1.1 : Nat) : Int)) ∧ Hid (Below W.heap.size W w') ∧ w'.cell? ⟨w.heap.size + 1, 0, none⟩ = some (.int .i64 ((mxT h pre : Nat) : Int)) ∧ w'.frozen? ⟨w.heap.size + 1, 0, none⟩ = false) := by
      rintro u rfl
      refine (HIH.out x.1.1 _ W.drew (hIn.out.keep (Below.refl _ W).drew) (HTP.out x.1 x.2)).mono ?_
      rintro e w' ⟨rfl, hb⟩
      have hb' : Below W.heap.size W w' := (Below.refl _ W).drew.trans hb
      exact ⟨rfl, hb', (tboxed_low bS1 hb').cell, (tboxed_low bS1 hb').frozen⟩
    have cS := bS1.cell
    have fS := bS1.frozen
    have hmx1 := HMX.out pre
    have hmx2 := HLE.out x
    have HX : Hid (∀ w', Below W.heap.size W w' → ∀ m : Int, m = ((mxT h (pre ++ [x]) : Nat) : Int) → KeepsFrom W0.heap.size W (w'.setCell ⟨w.heap.size + 1, 0, none⟩ (.int .i64 m)) ∧ KpT w.heap.size (w.heap.size + 1 + 1) W0.heap.size W (w'.setCell ⟨w.heap.size + 1, 0, none⟩ (.int .i64 m)) ∧ Boxed (w'.setCell ⟨w.heap.size + 1, 0, none⟩ (.int .i64 m)) (w.heap.size + 1) 3 (.int .i64 ((mxT h (pre ++ [x]) : Nat) : Int)) ∧ Below w.heap.size w (w'.setCell ⟨w.heap.size + 1, 0, none⟩ (.int .i64 m))) := by
      rintro w' hb m rfl
      refine ⟨(tkeepsFrom hb).trans ((KeepsOthers.setCell _ _ _).from _), (KpT.of_below hB1.size hb).trans (KpT.setO (by omega) (by omega) (by omega) _), (tboxed_low bS1 hb).set _, ?_⟩
      exact (hB1.trans (hb.mono hB1.size)).setCell (p := ⟨w.heap.size + 1, 0, none⟩) (by show _ ≤ w.heap.size + 1; omega) _
    have HM : Hid (∀ m : Int, m = max ((mxT h pre : Nat) : Int) (1 + ((hgN h x.1.1 : Nat) : Int)) → m = ((mxT h (pre ++ [x]) : Nat) : Int)) := by
      rintro m rfl
      rw [mxT_snoc]; omega
    generalize hgN h x.1.1 = p at *
    generalize mxT h pre = q at *
    have HWr : Hid (max (q : Int) (IntKind.wrap .i64 (1 + (p : Int))) = max (q : Int) (1 + (p : Int))) := by show _ = _; rw [tw_self (by omega) (by omega)]
    clear bS1 hB1 bX hIn hr hrow hsv
    have hmo : Try.prog.follows .mixedOrders = true := by kernel_rfl
    have h1' : 1 ≤ 5 - 1 - 1 := by omega
    gi_wp2_with fail
    gi_region_with_o (refine ⟨trivial, ?_⟩; gi_at_call 13; refine (CallsIn.inRound l (callsIn_wide.2 (HCALL.out _ rfl))).mono ?_; rintro e w' ⟨rfl, hbw, cSw, fSw⟩)
    all_goals
      gi_wp2_with fail
      exact HX.out w' hbw.out _ (HM.out _ HWr.out)
  case done =>
    rintro D zs W hD hz ⟨bS1, hB1⟩ hK
    have cS := bS1.cell
    have hmz := HMX.out zs
    have hfin : Hid (mxT h zs = mxL ((partsT az os).map fun x => hgN h x.1 + 1)) := by
      show _ = _
      have h1 := congrArg (List.map fun x : TT × Value => hgN h x.1 + 1) hz
      rw [List.map_map] at h1
      exact congrArg mxL h1
    gi_wp2_with fail
    refine ⟨by simp, .inl ⟨_, _, rfl, run_takeDeferred hK, ?_⟩⟩
    exact ⟨_, results_tmp rfl _ _ _, by rw [← hfin.out]; simp, hB1.trans (belowK_b (w := w) (Nat.le_refl _) W D _ _ (by omega) hK rfl rfl)⟩
  case stop =>
    rintro D cc pre W _ _ h _
    exact h.elim

/-- THE PROGRAM'S HEIGHT, of every type -/
theorem w_sHeight : ∀ h, HsOk h := by
  intro h
  induction h with
  | zero => intro T v w hI; exact hI.elim
  | succ h ih =>
    intro T v w hI htp
    obtain ⟨b0, b1, b2, b3, ⟨no, nn, nc⟩, b5, ⟨xo, nx, xc⟩, ⟨ao, NA, ac⟩, ⟨oo, NO, oc⟩, rfl⟩ := inT_shape hI
    obtain ⟨az, os, lA, lO, hA, hO, hA2, hO2, hmap, hin, hst⟩ := parts_open hI
    have hpt : ∀ x ∈ partsT az os, tpN h x.1 ≤ 1048576 := fun x hx => tp_ins htp x.1 (by rw [← hmap]; exact List.mem_map.2 ⟨x, hx, rfl⟩)
    have := height_step h ih b0 b1 b2 b3 b5 no xo ao oo nn nc nx xc NA ac NO oc az os w lA lO hA hO hA2 hO2 hin hpt hst
    rw [hg_ins, ← hmap, List.map_map]
    exact this
end Go.Proofs.Ythcohnnikmpjkaa
