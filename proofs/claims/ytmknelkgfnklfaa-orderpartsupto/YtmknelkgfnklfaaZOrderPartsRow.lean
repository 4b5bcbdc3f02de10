import Derived.Test.YtmknelkgfnklfaaRows
import Derived.Test.YtmknelkgfnklfaaZG6
import Derived.Test.YtmknelkgfnklfaaZZt
import Derived.WalkKit
import Derived.ProofKit
import Derived.OpenShut
import Derived.ShutString
import Derived.SizedLaws
import Derived.Stop.LaidErr
import Derived.Deep.DeepHandedRow
import Derived.Lib.LaidTab
import Derived.WideKeyArgs
import Derived.WideKeyElems4
namespace Go.Proofs.Ytmknelkgfnklfaa.orderParts
open Go.ChangeShapes Go.WideShapes Go.ChangeAt Go.RowKit
set_option linter.unusedVariables false

theorem own : ownKnob Try.prog.godebug = none := by kernel_rfl
theorem laidOut : laidOutB Try.prog = true := by kernel_rfl
noncomputable def bareWorld (os : Os) : World := World.holding Try.prog os ⟨#[], #[], []⟩

set_option maxRecDepth 100000 in
theorem contract (H : Type) (enc : TypeId × Value → H) (W : World) (base : Nat) (args : Array Value) (ds gs : List (DataW H)) (before : List MemPlace)
    (hval : ∀ (j : Nat) t v, Try.f7.params[j]? = some t → args[j]? = some v → Value.okWide Try.prog W .any base t v)
    (hW : DataW.Whole enc Try.prog Try.f7.params.toList Rows.orderPartsSpec.vars false W args.toList ds gs before) (hk : Rows.uptoSmall H (ds ++ gs) = true) (hsz : (DataW.weightsEach Try.prog (Try.f7.params.toList ++ Rows.orderPartsSpec.plain.varTypes Try.prog) (ds ++ gs)).all (· ≤ reachBytes) = true) :
    Calls Try.prog 7 args W fun e W' => ∃ v, e = .returned v ∧ Rows.orderPartsSpec.post enc Try.prog Try.f7 false true false false W args v W' := by
  have hW' := hW
  obtain ⟨p, q, hA0, hV, rfl, hfz, hnd⟩ := hW
  have hA : DataW.TrodAll enc Try.prog W 0 (fun _ => true) true Try.f7.params.toList args.toList ds p := hA0
  rw [Try.params7] at hA hval hsz
  obtain ⟨v0, vs0, d0, ds0, p0, q0, hargs0, rfl, rfl, h0, r0⟩ := trodAll_cons hA
  obtain ⟨v1, vs1, d1, ds1, p1, q1, hargs1, rfl, rfl, h1, r1⟩ := trodAll_cons r0
  obtain ⟨rfl, rfl, rfl⟩ := trodAll_nil r1
  obtain rfl : args = #[v0, v1] := by cases args; simp_all
  obtain ⟨rfl, rfl⟩ := trodVars_none hV
  clear hA0
  simp only [List.append_nil] at hW'
  have hlt0 : ∀ x ∈ p0, x.block < W.heap.size := fun x hx => hW'.lt x (by simp [hx])
  have hk0 := h0
  have hlt1 : ∀ x ∈ p1, x.block < W.heap.size := fun x hx => hW'.lt x (by simp [hx])
  have hk1 := h1
  have again : ∀ (W' : World), Below W.heap.size W W' → DataW.TrodAll enc Try.prog W' 0 (fun b => decide (b < W.heap.size)) true [22, 22] [v0, v1] [d0, d1] (p0 ++ (p1 ++ [])) := fun W' hb =>
    (trodAll_cons_mk (WideElems.Trod_stays laidOut (by kernel_rfl) (of_decide_eq_true (by kernel_rfl)) hk0 (fun x hx => hb.same (hlt0 x hx)) (fun x hx => by simpa using hlt0 x hx)) (trodAll_cons_mk (WideElems.Trod_stays laidOut (by kernel_rfl) (of_decide_eq_true (by kernel_rfl)) hk1 (fun x hx => hb.same (hlt1 x hx)) (fun x hx => by simpa using hlt1 x hx)) trodAll_mk0))
  suffices hx : Calls Try.prog 7 #[v0, v1] W fun e w' => e = .returned (.bool true) ∧ Below W.heap.size W w' by
    refine hx.mono fun e W' ⟨he, hb⟩ => ?_
    subst he
    exact ⟨_, rfl, _, _, _, [], _, [], hW', trodAll_cons_mk (shut_bool Try.underlying4 _) trodAll_mk0, again W' hb, rfl, hb.frame _, fun h => by cases h⟩
  clear again hW'
  have hbulk : Rows.uptoBulkAll [d0, d1] ≤ 1048576 := by
    have h := of_decide_eq_true hk
    simpa using h
  simp only [Rows.uptoBulkAll] at hbulk
  obtain ⟨fuel0, hf0⟩ := h0
  obtain ⟨lo0, ln0, lcp0, hlv0⟩ : ∃ io N c, v0 = .slice io N c := okWide_slice Try.underlying22 (hval 0 22 v0 rfl rfl)
  subst hlv0
  have hf0' : DataW.trod enc Try.prog W 0 (fun _ => true) true fuel0 22 [.slice lo0 ln0 lcp0] = some (d0, p0) := hf0
  have hwt0 : WtOk ((d0, p0).1.weights Try.prog 22) := by
    intro x hx
    have h1 : x ∈ DataW.weightsEach Try.prog ([22, 22] ++ Rows.orderPartsSpec.plain.varTypes Try.prog) ([d0, d1] ++ []) := by
      simp only [List.cons_append, List.nil_append, DataW.weightsEach]
      simp only [List.mem_append]
      exact Or.inl hx
    have h2 := List.all_eq_true.1 hsz x h1
    have h3 : x ≤ reachBytes := by simpa using h2
    have h4 := reachBytes_lt
    omega
  obtain ⟨io0, icap0, ts0, hl0, hcap0, hN0, hI0, hbk0, hnl0⟩ := vs_openB fuel0 _ (d0, p0) hf0' hwt0
  have hbk0' : ts0.length + sumL (ts0.map (szN fuel0)) ≤ Rows.uptoBulk d0 := hbk0
  simp only [List.cons.injEq, Value.slice.injEq, and_true] at hl0
  obtain ⟨rfl, rfl, rfl⟩ := hl0
  obtain ⟨fuel1, hf1⟩ := h1
  obtain ⟨lo1, ln1, lcp1, hlv1⟩ : ∃ io N c, v1 = .slice io N c := okWide_slice Try.underlying22 (hval 1 22 v1 rfl rfl)
  subst hlv1
  have hf1' : DataW.trod enc Try.prog W 0 (fun _ => true) true fuel1 22 [.slice lo1 ln1 lcp1] = some (d1, p1) := hf1
  have hwt1 : WtOk ((d1, p1).1.weights Try.prog 22) := by
    intro x hx
    have h1 : x ∈ DataW.weightsEach Try.prog ([22, 22] ++ Rows.orderPartsSpec.plain.varTypes Try.prog) ([d0, d1] ++ []) := by
      simp only [List.cons_append, List.nil_append, DataW.weightsEach]
      simp only [List.mem_append]
      exact Or.inr (Or.inl hx)
    have h2 := List.all_eq_true.1 hsz x h1
    have h3 : x ≤ reachBytes := by simpa using h2
    have h4 := reachBytes_lt
    omega
  obtain ⟨io1, icap1, ts1, hl1, hcap1, hN1, hI1, hbk1, hnl1⟩ := vs_openB fuel1 _ (d1, p1) hf1' hwt1
  have hbk1' : ts1.length + sumL (ts1.map (szN fuel1)) ≤ Rows.uptoBulk d1 := hbk1
  simp only [List.cons.injEq, Value.slice.injEq, and_true] at hl1
  obtain ⟨rfl, rfl, rfl⟩ := hl1
  exact w_OrderParts (fuel0 + fuel1) _ _ _ _ _ _ ts0 ts1 W (hI0.le (by omega)) rfl hcap0 (by have := (hI0.szB (m := fuel0) (Nat.le_refl _) hbk0').2; omega) (hI1.le (by omega)) rfl hcap1 (by have := (hI1.szB (m := fuel1) (Nat.le_refl _) hbk1').2; omega) (fun T hT => by have := (hI0.szB (m := fuel0 + fuel1) (by omega) hbk0').1 T hT; omega)

theorem reads (os : Os) {H : Type} (enc : TypeId × Value → H) : ∃ places, DataW.whole enc Try.prog ((bareWorld os).forCall (fun _ _ => 0) ⟨#[], #[.slice none 0 0, .slice none 0 0], []⟩).memory Try.f7.params.toList Rows.orderPartsSpec.vars false (#[.slice none 0 0, .slice none 0 0] : Array Value).toList 8 = some ([.nil, .nil], [], places) :=
  ⟨[], by kernel_rfl⟩

set_option maxRecDepth 100000 in
theorem lifted (os : Os) (started : os.Started) (H : Type) (enc : TypeId × Value → H) (F : Stop.Interp) :
    ReturnsInHanded {} Try.checked os 7 .any ((Rows.OpenSpec.upto Rows.orderPartsSpec).preRow enc Try.prog Try.f7 Rows.orderPartsUptoRow.domain false Rows.orderPartsUptoRow.laid) (((Rows.OpenSpec.upto Rows.orderPartsSpec).at F).post enc Try.prog Try.f7 false true false false) := by
  obtain ⟨places, hx⟩ := reads os enc
  refine returnsInHanded_of_row (C := Try.checked) (s := Rows.OpenSpec.upto Rows.orderPartsSpec) own started (by kernel_rfl) Try.func7
    (witness_row_at (enc := enc) (C := Try.checked) false (bareWorld os) #[.slice none 0 0, .slice none 0 0] rfl (by kernel_rfl) (by kernel_rfl) (by kernel_rfl)
      (OpenSpec.preRow_of_cond 8 hx (by kernel_rfl) (fun k hk => by cases hk; kernel_rfl) (by kernel_rfl) (laidMet_of_run' 8 (by kernel_rfl) (by kernel_rfl)))) ?_
  intro W base args ds gs before hval hW _ hcond hsz _ _ _
  exact contract H enc W base args ds gs before hval hW (hcond _ rfl) hsz

theorem said : Rows.OrderPartsUptoSaid :=
  OpenClaim.holds_of_cond 7 Try.f7 rfl rfl rfl rfl rfl rfl rfl ⟨rfl, rfl, rfl, rfl, rfl⟩ rfl rfl rfl rfl rfl (by kernel_rfl) Try.func7 (by kernel_rfl)
    (of_decide_eq_true (by kernel_rfl)) (by unfold Func.isWrapper; first | (rw [if_pos (by decide +kernel)]; kernel_rfl) | (rw [if_neg (by decide +kernel)]; exact ⟨rfl, rfl⟩))
    (fun os started H enc _ F => by rw [OpenClaim.pre_eq_preRow]; exact lifted os started H enc F)
end Go.Proofs.Ytmknelkgfnklfaa.orderParts
namespace Go.Proofs.Ytmknelkgfnklfaa
theorem orderParts_said : Rows.OrderPartsUptoSaid := orderParts.said
end Go.Proofs.Ytmknelkgfnklfaa
