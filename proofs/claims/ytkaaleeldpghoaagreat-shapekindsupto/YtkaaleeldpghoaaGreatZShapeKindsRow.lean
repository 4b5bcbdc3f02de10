import Derived.Test.YtkaaleeldpghoaaGreatZSK8
import Derived.Test.YtkaaleeldpghoaaGreatZSF9
import Derived.Test.YtkaaleeldpghoaaGreatM30
import Derived.Test.YtkaaleeldpghoaaGreatRows
import Derived.Test.YtkaaleeldpghoaaGreatM21
import Derived.Test.YtkaaleeldpghoaaGreatM14
import Derived.WalkKit
import Derived.ProofKit
import Derived.OpenShut
import Derived.ShutString
import Derived.SizedLaws
import Derived.Stop.LaidErr
import Derived.Deep.DeepHandedRow
import Derived.Lib.LaidTab
import Derived.WideKeyArgs
import Derived.WideKeyElems4
namespace Go.Proofs.YtkaaleeldpghoaaGreat
open Go.RowKit Go.Shelf Go.Sort
set_option linter.unusedVariables false
set_option linter.unusedSimpArgs false

set_option maxRecDepth 100000 in
/-- THE LAW OF THE KINDS -/
theorem w_ShapeKinds (n : Int) (hn : 0 ≤ n ∧ n < 256) (h : Nat) (T : TT) (vt : Value) (hv : Nat) (V : VT) (vv : Value) (w : World) (hT : InT w h T vt) (tT : tpN h T ≤ 1048576) (hV : InH w (hv + 1) V vv) :
    Calls Tryz.prog 3 #[.int .u8 n, vt, vv] w fun e w' => e = .returned (.bool true) ∧ Below w.heap.size w w' := by
  have H0 := Hid.mk (fun u (hu : Below w.heap.size w u) => w_lives9 u)
  have H1 := Hid.mk (fun u => w_sOfKinds n hn u)
  have H2 := Hid.mk (fun u => w_rOfKinds n hn u)
  have H3 : Hid (∀ u v, InT u 2 (widT n) v → Calls Tryz.prog 8 #[v] u fun e w' => e = .returned (.int .u8 (bits .and .u8 n 127)) ∧ Below u.heap.size u w') := fun u v hI => by
    have e := w_sKinds 2 (widT n) v u hI
    rw [kd_wid, ← kv_kb hn] at e
    exact e
  have H4 : Hid (∀ u va vb, InT u 2 (widT n) va → InT u 2 (widT n) vb → Calls Tryz.prog 6 #[va, vb] u fun e w' => e = .returned (.bool true) ∧ Below u.heap.size u w') := fun u va vb ha hb => by
    have e := w_kSameType 2 (widT n) (widT n) va vb u ha hb
    rw [sameT_refl 2 _ (good_wid n)] at e
    exact e
  have H7 := Hid.mk (fun u (hu : Below w.heap.size w u) => w_FitType h T vt u (hT.keep hu) tT)
  have H8 := Hid.mk (fun u (hu : Below w.heap.size w u) => w_tFormed h T vt u (hT.keep hu))
  have H9 := Hid.mk (fun u (hu : Below w.heap.size w u) => w_sKinds h T vt u (hT.keep hu))
  have H10 := Hid.mk (fun u (hu : Below w.heap.size w u) => w_rKinds h T vt u (hT.keep hu))
  have hk : 0 ≤ kdN T ∧ kdN T ≤ 127 := by
    unfold kdN kdV
    split
    · exact ⟨by decide, by decide⟩
    · exact kv_rg _ _ _ _ _ _ _
  have HK : Hid (formN (hv + 1) V = true → (V.kind = 0 ∧ inN 2 V (widT n) = kb n 0) ∨ (V.kind = 1 ∧ inN 2 V (widT n) = kb n 1) ∨ (V.kind = 2 ∧ inN 2 V (widT n) = kb n 2) ∨ (V.kind = 3 ∧ inN 2 V (widT n) = kb n 3) ∨ (V.kind = 4 ∧ inN 2 V (widT n) = kb n 4) ∨ (V.kind = 5 ∧ inN 2 V (widT n) = kb n 5) ∨ (V.kind = 6 ∧ inN 2 V (widT n) = kb n 6)) := fun hf => by
    obtain ⟨i0, i1, i2, i3, i4, i5, i6⟩ := in_wid n V
    rcases kind_of hf with k | k | k | ⟨k, _⟩ | k | k | k
    · exact .inl ⟨k, i0 k⟩
    · exact .inr (.inl ⟨k, i1 k⟩)
    · exact .inr (.inr (.inl ⟨k, i2 k⟩))
    · exact .inr (.inr (.inr (.inl ⟨k, i3 k⟩)))
    · exact .inr (.inr (.inr (.inr (.inl ⟨k, i4 k⟩))))
    · exact .inr (.inr (.inr (.inr (.inr (.inl ⟨k, i5 k⟩)))))
    · exact .inr (.inr (.inr (.inr (.inr (.inr ⟨k, i6 k⟩)))))
  obtain ⟨sa, sb, sc, sd, ⟨seo, sen, sec⟩, sf, ⟨sgo, sgn, sgc⟩, ⟨sio, sinn, sic⟩, ⟨sjo, sjn, sjc⟩, eshs⟩ := inT_shape hT
  simp only [Value.agg.injEq, Array.mk.injEq, List.cons.injEq, and_true] at eshs
  obtain ⟨rfl, rfl, rfl, rfl, rfl, rfl, rfl, rfl, rfl⟩ := eshs
  have hV2 := hV
  obtain ⟨io, icap, ko, kcap, rfl, a1, a2, a3, a4, a5, a6, a7, hkk, hi⟩ := hV2.open
  have H5 := Hid.mk (fun u (hu : Below w.heap.size w u) => w_small9 (hv + 1) V u _ _ _ _ _ _ _ _ _ (hV.keep hu))
  have H6 := Hid.mk (fun u (hu : Below w.heap.size w u) => w_rFormed (hv + 1) V _ u (hV.keep hu))
  have H11 := Hid.mk (fun (hf : formN (hv + 1) V = true) u vw (hu : Below w.heap.size w u) (hI : InT u 2 (widT n) vw) => w_rIn 2 (hv + 1) V (widT n) _ vw u (hV.keep hu) hf (good_wid n) hI)
  exact kinds_step n hn _ _ _ _ _ _ _ _ _ _ _ _ _ _ _ _ _ _ _ _ _ _ _ _ _ _ w _ _ _ _ _ _ H0 H1 H2 H3 H4 H5 H6 H11 H7 H8 H9 H10 hk HK
end Go.Proofs.YtkaaleeldpghoaaGreat
namespace Go.Proofs.YtkaaleeldpghoaaGreat.shapeKinds
open Go.ChangeShapes Go.WideShapes Go.ChangeAt Go.RowKit
set_option linter.unusedVariables false

theorem own : ownKnob Tryz.prog.godebug = none := by kernel_rfl
theorem laidOut : laidOutB Tryz.prog = true := by kernel_rfl
noncomputable def bareWorld (os : Os) : World := World.holding Tryz.prog os ⟨#[], #[], []⟩

set_option maxRecDepth 100000 in
theorem contract (H : Type) (enc : TypeId × Value → H) (W : World) (base : Nat) (args : Array Value) (ds gs : List (DataW H)) (before : List MemPlace)
    (hval : ∀ (j : Nat) t v, Tryz.f3.params[j]? = some t → args[j]? = some v → Value.okWide Tryz.prog W .any base t v)
    (hW : DataW.Whole enc Tryz.prog Tryz.f3.params.toList Rows.shapeKindsSpec.vars false W args.toList ds gs before) (hk : Rows.uptoSmall H (ds ++ gs) = true) (hsz : (DataW.weightsEach Tryz.prog (Tryz.f3.params.toList ++ Rows.shapeKindsSpec.plain.varTypes Tryz.prog) (ds ++ gs)).all (· ≤ reachBytes) = true) :
    Calls Tryz.prog 3 args W fun e W' => ∃ v, e = .returned v ∧ Rows.shapeKindsSpec.post enc Tryz.prog Tryz.f3 false true false false W args v W' := by
  have hW' := hW
  obtain ⟨p, q, hA0, hV, rfl, hfz, hnd⟩ := hW
  have hA : DataW.TrodAll enc Tryz.prog W 0 (fun _ => true) true Tryz.f3.params.toList args.toList ds p := hA0
  rw [Tryz.params3] at hA hval hsz
  obtain ⟨v0, vs0, d0, ds0, p0, q0, hargs0, rfl, rfl, h0, r0⟩ := trodAll_cons hA
  obtain ⟨v1, vs1, d1, ds1, p1, q1, hargs1, rfl, rfl, h1, r1⟩ := trodAll_cons r0
  obtain ⟨v2, vs2, d2, ds2, p2, q2, hargs2, rfl, rfl, h2, r2⟩ := trodAll_cons r1
  obtain ⟨rfl, rfl, rfl⟩ := trodAll_nil r2
  obtain rfl : args = #[v0, v1, v2] := by cases args; simp_all
  obtain ⟨rfl, rfl⟩ := trodVars_none hV
  clear hA0
  simp only [List.append_nil] at hW' hk
  obtain ⟨a0, rfl, rfl, rfl, w0⟩ := open_int Tryz.underlying5 (hval 0 5 v0 rfl rfl) h0
  have hint0 : ∀ W' : World, DataW.Trod enc Tryz.prog W' 0 (fun b => decide (b < W.heap.size)) true 5 (.int .u8 a0) (.lit (.int .u8 a0)) [] := fun W' => shut_int Tryz.underlying5 w0
  have hlt1 : ∀ x ∈ p1, x.block < W.heap.size := fun x hx => hW'.lt x (by simp [hx])
  have hk1 := h1
  have hlt2 : ∀ x ∈ p2, x.block < W.heap.size := fun x hx => hW'.lt x (by simp [hx])
  have hk2 := h2
  have again : ∀ (W' : World), Below W.heap.size W W' → DataW.TrodAll enc Tryz.prog W' 0 (fun b => decide (b < W.heap.size)) true [5, 27, 30] [.int .u8 a0, v1, v2] [.lit (.int .u8 a0), d1, d2] ([] ++ (p1 ++ (p2 ++ []))) := fun W' hb =>
    trodAll_cons_mk (hint0 W') (trodAll_cons_mk (WideElems.Trod_stays laidOut (by kernel_rfl) (of_decide_eq_true (by kernel_rfl)) hk1 (fun x hx => hb.same (hlt1 x hx)) (fun x hx => by simpa using hlt1 x hx)) (trodAll_cons_mk (WideElems.Trod_stays laidOut (by kernel_rfl) (of_decide_eq_true (by kernel_rfl)) hk2 (fun x hx => hb.same (hlt2 x hx)) (fun x hx => by simpa using hlt2 x hx)) trodAll_mk0))
  suffices hx : Calls Tryz.prog 3 #[.int .u8 a0, v1, v2] W fun e w' => e = .returned (.bool true) ∧ Below W.heap.size W w' by
    refine hx.mono fun e W' ⟨he, hb⟩ => ?_
    subst he
    exact ⟨_, rfl, _, _, _, [], _, [], hW', trodAll_cons_mk (shut_bool Tryz.underlying4 _) trodAll_mk0, again W' hb, rfl, hb.frame _, fun h => by cases h⟩
  clear again hW'
  have hbk : Rows.uptoBulkAll [.lit (.int .u8 a0), d1, d2] ≤ 1048576 := of_decide_eq_true hk
  simp only [Rows.uptoBulkAll] at hbk
  have ha0 : 0 ≤ a0 ∧ a0 < 256 := by
    simp [Lit.wf, IntKind.min, IntKind.max, IntKind.signed, IntKind.bits] at w0
    omega
  obtain ⟨cs1, rfl, hcs1⟩ := okWide_struct Tryz.underlying27 (hval 1 27 v1 rfl rfl)
  obtain ⟨fuel1, hf1⟩ := h1
  have hf1' : DataW.trod enc Tryz.prog W 0 (fun _ => true) true fuel1 27 cs1.toList = some (d1, p1) := hf1
  obtain ⟨T1, tq1, c1_0, c1_1, c1_2, c1_3, c1_4, c1_5, c1_6, c1_7, c1_8, hc1, hU1⟩ := tt_open fuel1 cs1.toList (d1, p1) hf1' (by show Rows.uptoBulk d1 ≤ _; omega)
  obtain rfl : cs1 = #[c1_0, c1_1, c1_2, c1_3, c1_4, c1_5, c1_6, c1_7, c1_8] := by cases cs1; simp_all
  have tp1 : tpN fuel1 T1 ≤ 1048576 := by
    have h2 : tpN fuel1 T1 ≤ Rows.uptoBulk d1 := tq1
    omega
  obtain ⟨cs2, rfl, hcs2⟩ := okWide_struct Tryz.underlying30 (hval 2 30 v2 rfl rfl)
  obtain ⟨fuel2, hf2⟩ := h2
  have hf2' : DataW.trod enc Tryz.prog W 0 (fun _ => true) true fuel2 30 cs2.toList = some (d2, p2) := hf2
  have hwt2 : WtOk ((d2, p2).1.weights Tryz.prog 30) := by
    intro x hx
    have h1 : x ∈ DataW.weightsEach Tryz.prog ([5, 27, 30] ++ Rows.shapeKindsSpec.plain.varTypes Tryz.prog) ([.lit (.int .u8 a0), d1, d2] ++ []) := by
      simp only [List.cons_append, List.nil_append, DataW.weightsEach]
      simp only [List.mem_append]
      exact Or.inr (Or.inr (Or.inl hx))
    have h2 := List.all_eq_true.1 hsz x h1
    have h3 : x ≤ reachBytes := by simpa using h2
    have h4 := reachBytes_lt
    omega
  obtain ⟨T2, a2, b2, c2, e2, g2, hc2, hT2⟩ := vt_open fuel2 cs2.toList (d2, p2) hf2' hwt2
  obtain rfl : cs2 = #[a2, b2, c2, e2, g2] := by cases cs2; simp_all
  exact w_ShapeKinds a0 ha0 fuel1 T1 _ fuel2 T2 _ W hU1 tp1 (hT2.le (by omega))

theorem reads (os : Os) {H : Type} (enc : TypeId × Value → H) : ∃ places, DataW.whole enc Tryz.prog ((bareWorld os).forCall (fun _ _ => 0) ⟨#[], #[.int .u8 0, .agg #[.bool false, .bool false, .bool false, .bool false, .slice none 0 0, .bool false, .slice none 0 0, .slice none 0 0, .slice none 0 0], .agg #[.int .i64 0, .string .empty, .string .empty, .slice none 0 0, .slice none 0 0]], []⟩).memory Tryz.f3.params.toList Rows.shapeKindsSpec.vars false (#[.int .u8 0, .agg #[.bool false, .bool false, .bool false, .bool false, .slice none 0 0, .bool false, .slice none 0 0, .slice none 0 0, .slice none 0 0], .agg #[.int .i64 0, .string .empty, .string .empty, .slice none 0 0, .slice none 0 0]] : Array Value).toList 8 = some ([.lit (.int .u8 0), .agg [.lit (.bool false), .lit (.bool false), .lit (.bool false), .lit (.bool false), .nil, .lit (.bool false), .nil, .nil, .nil], .agg [.lit (.int .i64 0), .lit (.string []), .lit (.string []), .nil, .nil]], [], places) :=
  ⟨[], by kernel_rfl⟩

set_option maxRecDepth 100000 in
theorem lifted (os : Os) (started : os.Started) (H : Type) (enc : TypeId × Value → H) (F : Stop.Interp) :
    ReturnsInHanded {} Tryz.checked os 3 .any ((Rows.OpenSpec.upto Rows.shapeKindsSpec).preRow enc Tryz.prog Tryz.f3 Rows.shapeKindsUptoRow.domain false Rows.shapeKindsUptoRow.laid) (((Rows.OpenSpec.upto Rows.shapeKindsSpec).at F).post enc Tryz.prog Tryz.f3 false true false false) := by
  obtain ⟨places, hx⟩ := reads os enc
  refine returnsInHanded_of_row (C := Tryz.checked) (s := Rows.OpenSpec.upto Rows.shapeKindsSpec) own started (by kernel_rfl) Tryz.func3
    (witness_row_at (enc := enc) (C := Tryz.checked) false (bareWorld os) #[.int .u8 0, .agg #[.bool false, .bool false, .bool false, .bool false, .slice none 0 0, .bool false, .slice none 0 0, .slice none 0 0, .slice none 0 0], .agg #[.int .i64 0, .string .empty, .string .empty, .slice none 0 0, .slice none 0 0]] rfl (by kernel_rfl) (by kernel_rfl) (by kernel_rfl)
      (OpenSpec.preRow_of_cond 8 hx (by kernel_rfl) (fun k hk => by cases hk; kernel_rfl) (by kernel_rfl) (laidMet_of_run' 8 (by kernel_rfl) (by kernel_rfl)))) ?_
  intro W base args ds gs before hval hW _ hcond hsz _ _ _
  exact contract H enc W base args ds gs before hval hW (hcond _ rfl) hsz

theorem said : Rows.ShapeKindsUptoSaid :=
  OpenClaim.holds_of_cond 3 Tryz.f3 rfl rfl rfl rfl rfl rfl rfl ⟨rfl, rfl, rfl, rfl, rfl⟩ rfl rfl rfl rfl rfl (by kernel_rfl) Tryz.func3 (by kernel_rfl)
    (of_decide_eq_true (by kernel_rfl)) (by unfold Func.isWrapper; first | (rw [if_pos (by decide +kernel)]; kernel_rfl) | (rw [if_neg (by decide +kernel)]; exact ⟨rfl, rfl⟩))
    (fun os started H enc _ F => by rw [OpenClaim.pre_eq_preRow]; exact lifted os started H enc F)
end Go.Proofs.YtkaaleeldpghoaaGreat.shapeKinds
namespace Go.Proofs.YtkaaleeldpghoaaGreat
theorem shapeKinds_said : Rows.ShapeKindsUptoSaid := shapeKinds.said
end Go.Proofs.YtkaaleeldpghoaaGreat
