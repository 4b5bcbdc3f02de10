import Derived.Test.YtoidodippmgbpaaRows
import Derived.Test.YtoidodippmgbpaaZG2
import Derived.Test.YtoidodippmgbpaaZVM1
import Derived.WalkKit
import Derived.ProofKit
import Derived.OpenShut
import Derived.ShutString
import Derived.SizedLaws
import Derived.Stop.LaidErr
import Derived.Deep.DeepHandedRow
import Derived.Lib.LaidTab
import Derived.WideKeyArgs
import Derived.WideKeyElems4
namespace Go.Proofs.Ytoidodippmgbpaa.valueMerges
open Go.ChangeShapes Go.WideShapes Go.ChangeAt Go.RowKit
set_option linter.unusedVariables false

theorem own : ownKnob Try.prog.godebug = none := by kernel_rfl
theorem laidOut : laidOutB Try.prog = true := by kernel_rfl
noncomputable def bareWorld (os : Os) : World := World.holding Try.prog os ⟨#[], #[], []⟩

set_option maxRecDepth 100000 in
theorem contract (H : Type) (enc : TypeId × Value → H) (W : World) (base : Nat) (args : Array Value) (ds gs : List (DataW H)) (before : List MemPlace)
    (hval : ∀ (j : Nat) t v, Try.f3.params[j]? = some t → args[j]? = some v → Value.okWide Try.prog W .any base t v)
    (hW : DataW.Whole enc Try.prog Try.f3.params.toList Rows.valueMergesSpec.vars false W args.toList ds gs before) (hsz : (DataW.weightsEach Try.prog (Try.f3.params.toList ++ Rows.valueMergesSpec.plain.varTypes Try.prog) (ds ++ gs)).all (· ≤ reachBytes) = true) :
    Calls Try.prog 3 args W fun e W' => ∃ v, e = .returned v ∧ Rows.valueMergesSpec.post enc Try.prog Try.f3 false true false false W args v W' := by
  have hW' := hW
  obtain ⟨p, q, hA0, hV, rfl, hfz, hnd⟩ := hW
  have hA : DataW.TrodAll enc Try.prog W 0 (fun _ => true) true Try.f3.params.toList args.toList ds p := hA0
  rw [Try.params3] at hA hval hsz
  obtain ⟨v0, vs0, d0, ds0, p0, q0, hargs0, rfl, rfl, h0, r0⟩ := trodAll_cons hA
  obtain ⟨v1, vs1, d1, ds1, p1, q1, hargs1, rfl, rfl, h1, r1⟩ := trodAll_cons r0
  obtain ⟨v2, vs2, d2, ds2, p2, q2, hargs2, rfl, rfl, h2, r2⟩ := trodAll_cons r1
  obtain ⟨rfl, rfl, rfl⟩ := trodAll_nil r2
  obtain rfl : args = #[v0, v1, v2] := by cases args; simp_all
  obtain ⟨rfl, rfl⟩ := trodVars_none hV
  clear hA0
  simp only [List.append_nil] at hW'
  have hlt0 : ∀ x ∈ p0, x.block < W.heap.size := fun x hx => hW'.lt x (by simp [hx])
  have hlt1 : ∀ x ∈ p1, x.block < W.heap.size := fun x hx => hW'.lt x (by simp [hx])
  have hlt2 : ∀ x ∈ p2, x.block < W.heap.size := fun x hx => hW'.lt x (by simp [hx])
  have hk0 := h0
  have hk1 := h1
  have hk2 := h2
  have again : ∀ (W' : World), Below W.heap.size W W' → DataW.TrodAll enc Try.prog W' 0 (fun b => decide (b < W.heap.size)) true [25, 25, 25] [v0, v1, v2] [d0, d1, d2] (p0 ++ (p1 ++ (p2 ++ []))) := fun W' hb =>
    trodAll_cons_mk (WideElems.Trod_stays laidOut (by kernel_rfl) (of_decide_eq_true (by kernel_rfl)) hk0 (fun x hx => hb.same (hlt0 x hx)) (fun x hx => by simpa using hlt0 x hx)) (trodAll_cons_mk (WideElems.Trod_stays laidOut (by kernel_rfl) (of_decide_eq_true (by kernel_rfl)) hk1 (fun x hx => hb.same (hlt1 x hx)) (fun x hx => by simpa using hlt1 x hx)) (trodAll_cons_mk (WideElems.Trod_stays laidOut (by kernel_rfl) (of_decide_eq_true (by kernel_rfl)) hk2 (fun x hx => hb.same (hlt2 x hx)) (fun x hx => by simpa using hlt2 x hx)) (trodAll_mk0)))
  suffices hx : Calls Try.prog 3 #[v0, v1, v2] W fun e w' => e = .returned (.bool true) ∧ Below W.heap.size W w' by
    refine hx.mono fun e W' ⟨he, hb⟩ => ?_
    subst he
    exact ⟨_, rfl, _, _, _, [], _, [], hW', trodAll_cons_mk (shut_bool Try.underlying4 _) trodAll_mk0, again W' hb, rfl, hb.frame _, fun h => by cases h⟩
  clear again hW'
  obtain ⟨cs0, rfl, hcs0⟩ := okWide_struct Try.underlying25 (hval 0 25 v0 rfl rfl)
  obtain ⟨fuel0, hf0⟩ := h0
  have hf0' : DataW.trod enc Try.prog W 0 (fun _ => true) true fuel0 25 cs0.toList = some (d0, p0) := hf0
  have hwt0 : WtOk ((d0, p0).1.weights Try.prog 25) := by
    intro x hx
    have h1 : x ∈ DataW.weightsEach Try.prog ([25, 25, 25] ++ Rows.valueMergesSpec.plain.varTypes Try.prog) ([d0, d1, d2] ++ []) := by
      simp only [List.cons_append, List.nil_append, DataW.weightsEach]
      exact List.mem_append.2 (.inl hx)
    have h2 := List.all_eq_true.1 hsz x h1
    have h3 : x ≤ reachBytes := by simpa using h2
    have h4 := reachBytes_lt
    omega
  obtain ⟨T0, a0, b0, c0, e0, g0, hc0, hT0⟩ := vt_open fuel0 cs0.toList (d0, p0) hf0' hwt0
  obtain rfl : cs0 = #[a0, b0, c0, e0, g0] := by cases cs0; simp_all
  obtain ⟨xk0, xn0, xt0, xio0, xN0, xic0, xko0, xK0, xkc0, rfl, rfl, rfl, rfl, rfl⟩ := hT0.shape
  obtain ⟨cs1, rfl, hcs1⟩ := okWide_struct Try.underlying25 (hval 1 25 v1 rfl rfl)
  obtain ⟨fuel1, hf1⟩ := h1
  have hf1' : DataW.trod enc Try.prog W 0 (fun _ => true) true fuel1 25 cs1.toList = some (d1, p1) := hf1
  have hwt1 : WtOk ((d1, p1).1.weights Try.prog 25) := by
    intro x hx
    have h1 : x ∈ DataW.weightsEach Try.prog ([25, 25, 25] ++ Rows.valueMergesSpec.plain.varTypes Try.prog) ([d0, d1, d2] ++ []) := by
      simp only [List.cons_append, List.nil_append, DataW.weightsEach]
      exact List.mem_append.2 (.inr (List.mem_append.2 (.inl hx)))
    have h2 := List.all_eq_true.1 hsz x h1
    have h3 : x ≤ reachBytes := by simpa using h2
    have h4 := reachBytes_lt
    omega
  obtain ⟨T1, a1, b1, c1, e1, g1, hc1, hT1⟩ := vt_open fuel1 cs1.toList (d1, p1) hf1' hwt1
  obtain rfl : cs1 = #[a1, b1, c1, e1, g1] := by cases cs1; simp_all
  obtain ⟨xk1, xn1, xt1, xio1, xN1, xic1, xko1, xK1, xkc1, rfl, rfl, rfl, rfl, rfl⟩ := hT1.shape
  obtain ⟨cs2, rfl, hcs2⟩ := okWide_struct Try.underlying25 (hval 2 25 v2 rfl rfl)
  obtain ⟨fuel2, hf2⟩ := h2
  have hf2' : DataW.trod enc Try.prog W 0 (fun _ => true) true fuel2 25 cs2.toList = some (d2, p2) := hf2
  have hwt2 : WtOk ((d2, p2).1.weights Try.prog 25) := by
    intro x hx
    have h1 : x ∈ DataW.weightsEach Try.prog ([25, 25, 25] ++ Rows.valueMergesSpec.plain.varTypes Try.prog) ([d0, d1, d2] ++ []) := by
      simp only [List.cons_append, List.nil_append, DataW.weightsEach]
      exact List.mem_append.2 (.inr (List.mem_append.2 (.inr (List.mem_append.2 (.inl hx)))))
    have h2 := List.all_eq_true.1 hsz x h1
    have h3 : x ≤ reachBytes := by simpa using h2
    have h4 := reachBytes_lt
    omega
  obtain ⟨T2, a2, b2, c2, e2, g2, hc2, hT2⟩ := vt_open fuel2 cs2.toList (d2, p2) hf2' hwt2
  obtain rfl : cs2 = #[a2, b2, c2, e2, g2] := by cases cs2; simp_all
  obtain ⟨xk2, xn2, xt2, xio2, xN2, xic2, xko2, xK2, xkc2, rfl, rfl, rfl, rfl, rfl⟩ := hT2.shape
  exact w_ValueMerges (fuel0 + fuel1 + fuel2) T0 _ T1 _ T2 _ W (hT0.le (by omega)) (hT1.le (by omega)) (hT2.le (by omega))

theorem reads (os : Os) {H : Type} (enc : TypeId × Value → H) : ∃ places, DataW.whole enc Try.prog ((bareWorld os).forCall (fun _ _ => 0) ⟨#[], #[.agg #[.int .i64 0, .string .empty, .string .empty, .slice none 0 0, .slice none 0 0], .agg #[.int .i64 0, .string .empty, .string .empty, .slice none 0 0, .slice none 0 0], .agg #[.int .i64 0, .string .empty, .string .empty, .slice none 0 0, .slice none 0 0]], []⟩).memory Try.f3.params.toList Rows.valueMergesSpec.vars false (#[.agg #[.int .i64 0, .string .empty, .string .empty, .slice none 0 0, .slice none 0 0], .agg #[.int .i64 0, .string .empty, .string .empty, .slice none 0 0, .slice none 0 0], .agg #[.int .i64 0, .string .empty, .string .empty, .slice none 0 0, .slice none 0 0]] : Array Value).toList 8 = some ([.agg [.lit (.int .i64 0), .lit (.string []), .lit (.string []), .nil, .nil], .agg [.lit (.int .i64 0), .lit (.string []), .lit (.string []), .nil, .nil], .agg [.lit (.int .i64 0), .lit (.string []), .lit (.string []), .nil, .nil]], [], places) :=
  ⟨[], by kernel_rfl⟩

set_option maxRecDepth 100000 in
theorem lifted (os : Os) (started : os.Started) (H : Type) (enc : TypeId × Value → H) (F : Stop.Interp) :
    ReturnsInHanded {} Try.checked os 3 .any ((OpenSpec.ofChange Rows.valueMergesSpec).preRow enc Try.prog Try.f3 Rows.valueMergesRow.domain false Rows.valueMergesRow.laid) (((OpenSpec.ofChange Rows.valueMergesSpec).at F).post enc Try.prog Try.f3 false true false false) := by
  obtain ⟨places, hx⟩ := reads os enc
  refine returnsInHanded_of_row (C := Try.checked) (s := OpenSpec.ofChange Rows.valueMergesSpec) own started (by kernel_rfl) Try.func3
    (witness_row_at (enc := enc) (C := Try.checked) false (bareWorld os) #[.agg #[.int .i64 0, .string .empty, .string .empty, .slice none 0 0, .slice none 0 0], .agg #[.int .i64 0, .string .empty, .string .empty, .slice none 0 0, .slice none 0 0], .agg #[.int .i64 0, .string .empty, .string .empty, .slice none 0 0, .slice none 0 0]] rfl (by kernel_rfl) (by kernel_rfl) (by kernel_rfl)
      (OpenSpec.preRow_of_cond 8 hx (by kernel_rfl) (fun k hk => by cases hk) (by kernel_rfl) (laidMet_of_run' 8 (by kernel_rfl) (by kernel_rfl)))) ?_
  intro W base args ds gs before hval hW _ _ hsz _ _ _
  exact contract H enc W base args ds gs before hval hW hsz

theorem said : Rows.ValueMergesSaid :=
  OpenClaim.holds_of_cond 3 Try.f3 rfl rfl rfl rfl rfl rfl rfl ⟨rfl, rfl, rfl, rfl, rfl⟩ rfl rfl rfl rfl rfl (by kernel_rfl) Try.func3 (by kernel_rfl)
    (of_decide_eq_true (by kernel_rfl)) (by unfold Func.isWrapper; first | (rw [if_pos (by decide +kernel)]; kernel_rfl) | (rw [if_neg (by decide +kernel)]; exact ⟨rfl, rfl⟩))
    (fun os started H enc _ F => by rw [OpenClaim.pre_eq_preRow]; exact lifted os started H enc F)
end Go.Proofs.Ytoidodippmgbpaa.valueMerges
namespace Go.Proofs.Ytoidodippmgbpaa
theorem valueMerges_said : Rows.ValueMergesSaid := valueMerges.said
end Go.Proofs.Ytoidodippmgbpaa
