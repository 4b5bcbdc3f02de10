import Derived.Test.YtdmkfdaddacdhaaGreatDoorZSYk
import Derived.Test.YtdmkfdaddacdhaaGreatDoorZSYj3
import Derived.Test.YtdmkfdaddacdhaaGreatDoorZSYj6
import Derived.Test.YtdmkfdaddacdhaaGreatDoorZSYj8
import Derived.Test.YtdmkfdaddacdhaaGreatDoorZSYg
import Derived.Test.YtdmkfdaddacdhaaGreatDoorZSXm
import Derived.WideKeyArgs
import Derived.WideKeyElems4
namespace Go.Proofs.YtdmkfdaddacdhaaGreatDoor
open Go.RowKit Go.Shelf Go.Sort
set_option linter.unusedVariables false
set_option linter.unusedSimpArgs false
attribute [local go_sem] Oper.semAt_some

theorem w_rFormedN : ∀ h, FrOk h
  | 0 => fun _ _ _ hA => hA.elim
  | h + 1 => by
    rintro ⟨aop, aat, atx, aV, aN, aI⟩ va w hA
    have ih := w_rFormedN h
    by_cases h2 : aop = 2
    · subst h2; exact fr_c2 h ih _ _ _ _ _ _ w hA
    by_cases h3 : aop = 3
    · subst h3; exact fr_c3 h ih _ _ _ _ _ _ w hA
    by_cases h5 : aop = 5
    · subst h5; exact fr_c5 h ih _ _ _ _ _ _ w hA
    by_cases h33 : aop = 33
    · subst h33; exact fr_c33 h ih _ _ _ _ _ _ w hA
    exact fr_rest h ih _ _ _ _ _ _ _ w hA h2 h3 h5 h33

set_option maxRecDepth 100000 in
set_option maxHeartbeats 6400000 in
theorem w_SyntaxFormed (h : Nat) (A : NT) (va : Value) (w : World) (hA : InA w h A va) (hE : ErrIn w) (hO : OpsIn w) : Calls Tryz.prog 4 #[va] w fun e w' => e = .returned (.bool true) ∧ Below w.heap.size w w' := by
  obtain ⟨aop, aat, avk, atx, avn, avx, aio, ayo, ano, ako, avi, aic, avy, ayc, ann, anc, akn, akc, rfl⟩ := inA_shape hA
  obtain ⟨W1, hW1⟩ : ∃ W1, w.alloc (.cells #[.int .i64 aop, .int .i64 aat, .string atx, .int .i64 avk, .string avn, .string avx, .slice aio avi aic, .slice ayo avy ayc, .slice ano ann anc, .slice ako akn akc] 28) = W1 := ⟨_, rfl⟩
  have HX := Hid.mk (B1.new hW1)
  have hLow : ∀ d os, Below w.heap.size w (grow (redrawn W1 d) os) := fun d os => HX.out.below.trans ((below_regrown W1 d os).mono HX.out.below.size)
  have HF1 := Hid.mk (fun (d : Nat) (os : Array Obj) => w_FormedP h A _ (grow (redrawn W1 d) os) (hA.low (hLow d os)))
  have HF2 := Hid.mk (fun (d : Nat) (os : Array Obj) => w_rFormedN h A _ (grow (redrawn W1 d) os) (hA.low (hLow d os)))
  have HD1 := Hid.mk (fun (d : Nat) (os : Array Obj) => w_DepthP h A _ (grow (redrawn W1 d) os) (hA.low (hLow d os)))
  have HD2 := Hid.mk (fun (d : Nat) (os : Array Obj) => w_rDepth h A _ (grow (redrawn W1 d) os) (hA.low (hLow d os)))
  have HWk := Hid.mk (fun (d : Nat) (os : Array Obj) => w_worksS (grow (redrawn W1 d) os) (hE.keep (hLow d os)) (hO.keep (hLow d os)))
  rw [fp_fr h A] at HF1
  generalize frN h A = r at *
  generalize dpW A = dd at *
  clear hA hE hO hLow
  have X0 := fun d os => cell_regrown (HX.out.ca (j := 0) rfl) d os
  have X1 := fun d os => cell_regrown (HX.out.ca (j := 1) rfl) d os
  have X2 := fun d os => cell_regrown (HX.out.ca (j := 2) rfl) d os
  have X3 := fun d os => cell_regrown (HX.out.ca (j := 3) rfl) d os
  have X4 := fun d os => cell_regrown (HX.out.ca (j := 4) rfl) d os
  have X5 := fun d os => cell_regrown (HX.out.ca (j := 5) rfl) d os
  have X6 := fun d os => cell_regrown (HX.out.ca (j := 6) rfl) d os
  have X7 := fun d os => cell_regrown (HX.out.ca (j := 7) rfl) d os
  have X8 := fun d os => cell_regrown (HX.out.ca (j := 8) rfl) d os
  have X9 := fun d os => cell_regrown (HX.out.ca (j := 9) rfl) d os
  cases r
  all_goals
    go_enter Tryz.func4, Tryz.ntmps4
    go_wp2_with fail
    refine wp_region_quiet_below (by kernel_rfl) (by kernel_rfl) ?_
    iterate 2 (go_big_quiet_step (exact Calls.regrown_of (HF1.out _ _)))
    iterate 2 (go_big_quiet_step (exact Calls.regrown_of (HF2.out _ _)))
    iterate 2 (go_big_quiet_step (fail))
    iterate 2 (go_big_quiet_step (exact Calls.regrown_of (HD1.out _ _)))
    iterate 2 (go_big_quiet_step (exact Calls.regrown_of (HD2.out _ _)))
    iterate 3 (go_big_quiet_step (fail))
    iterate 1 (go_big_quiet_step (exact Calls.regrown_of (HWk.out _ _)))
    iterate 2 (go_big_quiet_step (fail))
    refine wpQuiet_nil ?_
    intro w2 hw'
    have HB2 : Hid (Below w.heap.size w w2) := by
      obtain ⟨⟨dq, osq⟩, rfl⟩ := hw'
      exact HX.out.below.trans ((below_regrown W1 dq osq).mono HX.out.below.size)
    clear hw'
    go_wp2_with fail
    go_ret
    exact ⟨rfl, HB2.out⟩
end Go.Proofs.YtdmkfdaddacdhaaGreatDoor
namespace Go.Proofs.YtdmkfdaddacdhaaGreatDoor.syntaxFormed
open Go.ChangeShapes Go.WideShapes Go.ChangeAt Go.RowKit
set_option linter.unusedVariables false

theorem laidOut : laidOutB Tryz.prog = true := by kernel_rfl

set_option maxRecDepth 100000 in
theorem contract (H : Type) (enc : TypeId × Value → H) (W : World) (base : Nat) (args : Array Value) (ds gs : List (DataW H)) (before : List MemPlace)
    (hval : ∀ (j : Nat) t v, Tryz.f4.params[j]? = some t → args[j]? = some v → Value.okWide Tryz.prog W .any base t v)
    (hW : DataW.Whole enc Tryz.prog Tryz.f4.params.toList Rows.syntaxFormedSpec.vars false W args.toList ds gs before) (hL : laidMetH Tryz.prog Rows.syntaxFormedRow.laid W) (hsz : (DataW.weightsEach Tryz.prog (Tryz.f4.params.toList ++ Rows.syntaxFormedSpec.plain.varTypes Tryz.prog) (ds ++ gs)).all (· ≤ reachBytes) = true) :
    Calls Tryz.prog 4 args W fun e W' => ∃ v, e = .returned v ∧ Rows.syntaxFormedSpec.post enc Tryz.prog Tryz.f4 false true false false W args v W' := by
  have hW' := hW
  obtain ⟨p, q, hA0, hV, rfl, hfz, hnd⟩ := hW
  have hA : DataW.TrodAll enc Tryz.prog W 0 (fun _ => true) true Tryz.f4.params.toList args.toList ds p := hA0
  rw [Tryz.params4] at hA hval hsz
  obtain ⟨v0, vs0, d0, ds0, p0, q0, hargs0, rfl, rfl, h0, r0⟩ := trodAll_cons hA
  obtain ⟨rfl, rfl, rfl⟩ := trodAll_nil r0
  obtain rfl : args = #[v0] := by cases args; simp_all
  obtain ⟨rfl, rfl⟩ := trodVars_none hV
  clear hA0
  simp only [List.append_nil] at hW'
  have hlt0 : ∀ x ∈ p0, x.block < W.heap.size := fun x hx => hW'.lt x (by simp [hx])
  have hk0 := h0
  have again : ∀ (W' : World), Below W.heap.size W W' → DataW.TrodAll enc Tryz.prog W' 0 (fun b => decide (b < W.heap.size)) true [28] [v0] [d0] (p0 ++ []) := fun W' hb =>
    (trodAll_cons_mk (WideElems.Trod_stays laidOut (by kernel_rfl) (of_decide_eq_true (by kernel_rfl)) hk0 (fun x hx => hb.same (hlt0 x hx)) (fun x hx => by simpa using hlt0 x hx)) trodAll_mk0)
  suffices hx : Calls Tryz.prog 4 #[v0] W fun e w' => e = .returned (.bool true) ∧ Below W.heap.size W w' by
    refine hx.mono fun e W' ⟨he, hb⟩ => ?_
    subst he
    exact ⟨_, rfl, _, _, _, [], _, [], hW', trodAll_cons_mk (shut_bool Tryz.underlying4 _) trodAll_mk0, again W' hb, rfl, hb.frame _, fun h => by cases h⟩
  clear again hW'
  obtain ⟨cs0, rfl, hcs0⟩ := okWide_struct Tryz.underlying28 (hval 0 28 v0 rfl rfl)
  obtain ⟨fuel0, hf0⟩ := h0
  have hf0' : DataW.trod enc Tryz.prog W 0 (fun _ => true) true fuel0 28 cs0.toList = some (d0, p0) := hf0
  have hwt0 : WtOk ((d0, p0).1.weights Tryz.prog 28) := by
    intro x hx
    have h1 : x ∈ DataW.weightsEach Tryz.prog ([28] ++ Rows.syntaxFormedSpec.plain.varTypes Tryz.prog) ([d0] ++ []) := by
      simp only [List.cons_append, List.nil_append, DataW.weightsEach]
      simp only [List.mem_append]
      exact Or.inl hx
    have h2 := List.all_eq_true.1 hsz x h1
    have h3 : x ≤ reachBytes := by simpa using h2
    have h4 := reachBytes_lt
    omega
  obtain ⟨T0, c0_0, c0_1, c0_2, c0_3, c0_4, c0_5, c0_6, c0_7, c0_8, c0_9, hc0, hU0⟩ := nn_open fuel0 cs0.toList (d0, p0) hf0' hwt0
  obtain rfl : cs0 = #[c0_0, c0_1, c0_2, c0_3, c0_4, c0_5, c0_6, c0_7, c0_8, c0_9] := by cases cs0; simp_all
  have hT0 := InN.le hU0 (h' := (fuel0)) (by omega)
  exact w_SyntaxFormed fuel0 T0 _ W hT0 (errIn hL) (opsIn hL)

theorem reads (os : Os) {H : Type} (enc : TypeId × Value → H) : ∃ places, DataW.whole enc Tryz.prog ((laidWorld3 os).forCall (fun _ _ => 0) ⟨#[], #[.agg #[.int .i64 0, .int .i64 0, .string .empty, .int .i64 0, .string .empty, .string .empty, .slice none 0 0, .slice none 0 0, .slice none 0 0, .slice none 0 0]], []⟩).memory Tryz.f4.params.toList Rows.syntaxFormedSpec.vars false (#[.agg #[.int .i64 0, .int .i64 0, .string .empty, .int .i64 0, .string .empty, .string .empty, .slice none 0 0, .slice none 0 0, .slice none 0 0, .slice none 0 0]] : Array Value).toList 8 = some ([.agg [.lit (.int .i64 0), .lit (.int .i64 0), .lit (.string []), .agg [.lit (.int .i64 0), .lit (.string []), .lit (.string []), .nil, .nil], .nil, .nil]], [], places) :=
  ⟨[], by kernel_rfl⟩

set_option maxRecDepth 100000 in
theorem lifted (os : Os) (started : os.Started) (H : Type) (enc : TypeId × Value → H) (F : Stop.Interp) :
    ReturnsInHanded {} Tryz.checked os 4 .any ((OpenSpec.ofChange Rows.syntaxFormedSpec).preRow enc Tryz.prog Tryz.f4 Rows.syntaxFormedRow.domain false Rows.syntaxFormedRow.laid) (((OpenSpec.ofChange Rows.syntaxFormedSpec).at F).post enc Tryz.prog Tryz.f4 false true false false) := by
  obtain ⟨places, hx⟩ := reads os enc
  refine returnsInHanded_of_row (C := Tryz.checked) (s := OpenSpec.ofChange Rows.syntaxFormedSpec) own3 started (by kernel_rfl) Tryz.func4
    (witness_row_at (enc := enc) (C := Tryz.checked) false (laidWorld3 os) #[.agg #[.int .i64 0, .int .i64 0, .string .empty, .int .i64 0, .string .empty, .string .empty, .slice none 0 0, .slice none 0 0, .slice none 0 0, .slice none 0 0]] rfl (by kernel_rfl) (by kernel_rfl) (by kernel_rfl)
      (OpenSpec.preRow_of_cond 8 hx (by kernel_rfl) (fun k hk => by cases hk) (by kernel_rfl) (laid_met3 os _))) ?_
  intro W base args ds gs before hval hW _ _ hsz hL _ _
  exact contract H enc W base args ds gs before hval hW hL hsz

theorem said : Rows.SyntaxFormedSaid :=
  OpenClaim.holds_of_cond 4 Tryz.f4 rfl rfl rfl rfl rfl rfl rfl ⟨rfl, rfl, rfl, rfl, rfl⟩ rfl rfl rfl rfl rfl (by kernel_rfl) Tryz.func4 (by kernel_rfl)
    (of_decide_eq_true (by kernel_rfl)) (by unfold Func.isWrapper; first | (rw [if_pos (by decide +kernel)]; kernel_rfl) | (rw [if_neg (by decide +kernel)]; exact ⟨rfl, rfl⟩))
    (fun os started H enc _ F => by rw [OpenClaim.pre_eq_preRow]; exact lifted os started H enc F)

theorem plain (f : FuncId) (fn : Func) (hf : Tryz.pinned.checked.prog.funcNamed "hallmark/hallmarklaw17.SyntaxFormed" = some f) (hfn : Tryz.pinned.checked.prog.funcs[f]? = some fn) :
    true = Tryz.pinned.checked.prog.looks [] ∧ ∀ (j : Nat) t, fn.params[j]? = some t → Tryz.pinned.checked.prog.wantsStandIn t = false := by
  obtain rfl : f = 4 := Option.some.inj ((show Tryz.prog.funcNamed "hallmark/hallmarklaw17.SyntaxFormed" = some 4 by kernel_rfl).symm.trans hf) |>.symm
  obtain rfl : fn = Tryz.f4 := (Option.some.inj (Tryz.func4.symm.trans hfn)).symm
  refine ⟨by kernel_rfl, fun j t ht => ?_⟩
  rw [Tryz.params4] at ht
  obtain rfl : t = 28 := by simpa using Array.mem_of_getElem? ht
  exact (show Tryz.prog.wantsStandIn 28 = false by kernel_rfl)

theorem card : Rows.SyntaxFormedCardSaid :=
  Claim7.holds_tied_plain_at .later [] _ _ _ _ said (fun _ h => by cases h) (by kernel_rfl) (fun _ h => by cases h) syntaxFormed_row_tie rfl ⟨rfl, rfl⟩ (by kernel_rfl) rfl plain (by kernel_rfl)
end Go.Proofs.YtdmkfdaddacdhaaGreatDoor.syntaxFormed
namespace Go.Proofs.YtdmkfdaddacdhaaGreatDoor
theorem syntaxFormed_card : Rows.SyntaxFormedCardSaid := syntaxFormed.card
end Go.Proofs.YtdmkfdaddacdhaaGreatDoor
