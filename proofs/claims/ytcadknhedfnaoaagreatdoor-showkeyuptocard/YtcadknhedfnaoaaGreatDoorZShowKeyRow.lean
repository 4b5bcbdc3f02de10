import Derived.Test.YtcadknhedfnaoaaGreatDoorCards
import Derived.Test.YtcadknhedfnaoaaGreatDoorTie
import Derived.Test.YtcadknhedfnaoaaGreatDoorM30
import GoSem.PinnedTables
import Derived.WalkKit
import Derived.ProofKit
import Derived.OpenShut
import Derived.ShutString
import Derived.SizedLaws
import Derived.Stop.LaidErr
import Derived.Deep.DeepHandedRow
import Derived.Lib.LaidTab
import Derived.Test.YtcadknhedfnaoaaGreatDoorM54
namespace Go.Proofs.YtcadknhedfnaoaaGreatDoor
open Go.ChangeShapes Go.WideShapes Go.ChangeAt Go.RowKit
set_option linter.unusedVariables false

theorem own18 : ownKnob Tryz.prog.godebug = none := by kernel_rfl
theorem reach47 {s : ByteArray} (h : s.data.toList.length ≤ reachBytes) : s.size ≤ 140737488355328 := by
  have e0 : s.data.toList.length = s.size := by rw [Array.length_toList]; rfl
  have := reachBytes_lt
  omega


/-- a world for the witness: the variable holds what its initialiser lays -/
noncomputable def laidWorld18 (os : Os) : World :=
  let w0 := World.holding Tryz.prog os ⟨#[], #[], []⟩
  { w0 with heap := w0.heap.modify 0 fun
      | .cells _ t frozen => .cells pTabA t frozen
      | o => o }
set_option maxRecDepth 100000 in
theorem laid_met18 (os : Os) (args : Array Value) : laidMet Tryz.prog [("hallmark/show.operations", Rows.laid_hallmark_show_operations)] ((laidWorld18 os).forCall (fun _ _ => 0) ⟨#[], args, []⟩).memory :=
  laidMet_of_run' 8 (by kernel_rfl) (by kernel_rfl)
theorem arr_el {H : Type} {enc : TypeId × Value → H} {P : Program} {w : World} {base : Nat} {sp : Nat → Bool} {held : Bool} {fuel : Nat} {t e : TypeId} {n : Nat} {cs : List Value} {ds : List (DataW H)} {p : List MemPlace} (ht : P.underlying t = some (.array n e))
    (h : DataW.trod enc P w base sp held fuel t cs = some (.agg ds, p)) (i : Nat) (hi : i < n) :
    ∃ fuel' d q, ds[i]? = some d ∧ DataW.trod enc P w base sp held fuel' e ((cs.drop (i * P.cellsOf e)).take (P.cellsOf e)) = some (d, q) := by
  cases fuel with
  | zero => simp [DataW.trod] at h
  | succ fuel =>
    simp only [DataW.trod, ht] at h
    split at h
    · obtain ⟨xs, hm, hx⟩ := Option.map_eq_some_iff.1 h
      obtain ⟨b, hb, hf⟩ := Lib.mapM_at hm i i (by simp [hi])
      have hds : xs.map (·.1) = ds := by
        have := congrArg Prod.fst hx
        simpa using this
      exact ⟨fuel, b.1, b.2, by rw [← hds]; simp [hb], hf⟩
    · cases h
theorem cells152 : Tryz.prog.cellsOf 96 = 4 := by kernel_rfl
theorem cells9 : Tryz.prog.cellsOf 9 = 1 := by kernel_rfl
theorem cells3o : Tryz.prog.cellsOf 3 = 1 := by kernel_rfl
theorem gOps : Tryz.prog.globalNamed "hallmark/show.operations" = some 0 := by kernel_rfl
theorem gOpsType : (Tryz.prog.globals[(0 : Nat)]?).map (·.type) = some 97 := by kernel_rfl
/-- the datum of the operations -/
def opD {H : Type} (r : List UInt8 × Nat × Nat × Nat) : DataW H := .agg [.lit (.string r.1), .lit (.int .i64 (r.2.1 : Int)), .lit (.int .i64 (r.2.2.1 : Int)), .lit (.int .i64 (r.2.2.2 : Int))]
theorem flatRow (i : Nat) (hi : i < pTab.length) : (pTabA.toList.drop (i * 4)).take 4 = [.string ⟨pTab[i].1.toArray⟩, .int .i64 (pTab[i].2.1 : Int), .int .i64 (pTab[i].2.2.1 : Int), .int .i64 (pTab[i].2.2.2 : Int)] := by
  apply List.ext_getElem?
  intro j
  by_cases hj : j < 4
  · simp only [List.getElem?_take, List.getElem?_drop, if_pos hj]
    exact flat4 (fun r : List UInt8 × Nat × Nat × Nat => ([.string ⟨r.1.toArray⟩, .int .i64 (r.2.1 : Int), .int .i64 (r.2.2.1 : Int), .int .i64 (r.2.2.2 : Int)] : List Value)) (fun _ => rfl) pTab i j hj hi
  · simp only [List.getElem?_take, if_neg hj]
    rw [List.getElem?_eq_none]
    simp
    omega
set_option maxRecDepth 100000 in
theorem laid_ops {H : Type} : (Rows.laid_hallmark_show_operations : DataW H) = .agg (pTab.map opD) := rfl
set_option maxRecDepth 100000 in
theorem op_cells {H : Type} {enc : TypeId × Value → H} {w : World} {fuel : Nat} {cs : List Value} {r : List UInt8 × Nat × Nat × Nat} {q : List MemPlace} (h : DataW.trod enc Tryz.prog w 0 (fun _ => true) false fuel 96 cs = some (opD r, q)) : cs = [.string ⟨r.1.toArray⟩, .int .i64 (r.2.1 : Int), .int .i64 (r.2.2.1 : Int), .int .i64 (r.2.2.2 : Int)] := by
  obtain ⟨xs, n, rfl, hx, hl, hxl, hall⟩ := DataW.trod_struct Tryz.underlying96 h
  rw [cells152] at hl
  have hx4 : xs.length = 4 := hxl
  have h0 := hall 0 _ rfl
  have h1 := hall 1 _ rfl
  have h2 := hall 2 _ rfl
  have h3 := hall 3 _ rfl
  match xs, hx4, cs, hl with
  | [y0, y1, y2, y3], _, [v0, v1, v2, v3], _ =>
    simp [cells9, cells3o] at h0 h1 h2 h3
    have hx' : opD r = _ := congrArg Prod.fst hx
    simp only [opD, List.map_cons, List.map_nil, DataW.agg.injEq, List.cons.injEq, and_true] at hx'
    obtain ⟨g0, g1, g2, g3⟩ := hx'
    obtain ⟨s, e0, d0, _⟩ := DataW.trod_string Tryz.underlying9 h0
    obtain ⟨z1, e1, d1, _⟩ := DataW.trod_int Tryz.underlying3 h1
    obtain ⟨z2, e2, d2, _⟩ := DataW.trod_int Tryz.underlying3 h2
    obtain ⟨z3, e3, d3, _⟩ := DataW.trod_int Tryz.underlying3 h3
    rw [d0] at g0
    rw [d1] at g1
    rw [d2] at g2
    rw [d3] at g3
    simp only [DataW.lit.injEq, Lit.string.injEq, Lit.int.injEq, true_and] at g0 g1 g2 g3
    simp at e0 e1 e2 e3
    subst e0 e1 e2 e3
    rw [g1, g2, g3]
    have : (⟨r.1.toArray⟩ : ByteArray) = s := by rw [g0]
    rw [this]
theorem cut4 {α : Type} : ∀ (n : Nat) (l m : List α), l.length = 4 * n → m.length = 4 * n → (∀ i, i < n → (l.drop (i * 4)).take 4 = (m.drop (i * 4)).take 4) → l = m := by
  intro n l m hl hm h
  apply List.ext_getElem?
  intro j
  by_cases hj : j < 4 * n
  · have h1 := congrArg (fun z => z[j % 4]?) (h (j / 4) (by omega))
    simp only [List.getElem?_take, List.getElem?_drop] at h1
    rw [if_pos (by omega), if_pos (by omega), show j / 4 * 4 + j % 4 = j by omega] at h1
    exact h1
  · rw [List.getElem?_eq_none (by omega), List.getElem?_eq_none (by omega)]
set_option maxRecDepth 100000 in
theorem tabIn {W : World} (h : laidMetH Tryz.prog [("hallmark/show.operations", Rows.laid_hallmark_show_operations)] W) : PTabIn W := by
  have h' : laidMet Tryz.prog [("hallmark/show.operations", Rows.laid_hallmark_show_operations)] W := h
  obtain ⟨ps, ⟨g, t, cs, fuel, p, q, hg, ht, hv, hd, _, e⟩, _, hrows⟩ := h'
  obtain rfl := Option.some.inj (gOps.symm.trans hg)
  obtain rfl := Option.some.inj (gOpsType.symm.trans ht)
  rw [laid_ops] at hd
  have hlen : cs.toList.length = 4 * 44 := by
    cases fuel with
    | zero => simp [DataW.trod] at hd
    | succ fuel =>
      simp only [DataW.trod, Tryz.underlying97] at hd
      split at hd
      · rename_i hs
        have h176 : Tryz.prog.cellsOf 97 = 176 := by kernel_rfl
        simpa [h176] using hs
      · cases hd
  have hcs : cs = pTabA := by
    apply Array.toList_inj.1
    refine cut4 44 _ _ hlen rfl fun i hi => ?_
    obtain ⟨f', d, q', h1, h2⟩ := arr_el Tryz.underlying97 hd i hi
    rw [cells152] at h2
    obtain ⟨r, hr, rfl⟩ : ∃ r, pTab[i]? = some r ∧ opD r = d := by
      rw [List.getElem?_map] at h1
      cases hr : pTab[i]? with
      | none => rw [hr] at h1; cases h1
      | some r => rw [hr] at h1; exact ⟨r, rfl, by simpa using h1⟩
    rw [op_cells h2]
    have hi' : i < pTab.length := by rw [pTab_len]; exact hi
    obtain rfl : pTab[i] = r := by rw [List.getElem?_eq_getElem hi'] at hr; exact Option.some.inj hr
    exact (flatRow i hi').symm
  subst hcs
  have hc : MemPlace.cell 0 0 ∈ ps := by
    rw [e]
    have : pTabA.size = 176 := rfl
    simp [MemPlace.row, this]
  obtain ⟨⟨c, t, hh⟩, _⟩ := hrows 0 0 hc
  have : c = pTabA := by
    unfold World.var? at hv
    rw [gOps] at hv
    simp only [Option.bind_some, hh, Option.some.injEq] at hv
    exact hv
  subst this
  exact ⟨t, hh⟩
end Go.Proofs.YtcadknhedfnaoaaGreatDoor
namespace Go.Proofs.YtcadknhedfnaoaaGreatDoor.showKey
open Go.ChangeShapes Go.WideShapes Go.ChangeAt Go.RowKit
open Go.ChangeMaps (open_string shut_string)
set_option linter.unusedVariables false

/-- what the bound gives: the texts' lengths -/
theorem short {H : Type} {a0 : ByteArray} (hk : Rows.uptoSmall H [.lit (.string a0.data.toList)] = true) : a0.size ≤ 1048576 := by
  have h : Rows.uptoBulkAll [DataW.lit (H := H) (.string a0.data.toList)] ≤ 1048576 := of_decide_eq_true hk
  simp only [Rows.uptoBulkAll, Rows.uptoBulk] at h
  have e0 : a0.data.toList.length = a0.size := by rw [Array.length_toList]; rfl
  omega

set_option maxRecDepth 100000 in
theorem contract (H : Type) (enc : TypeId × Value → H) (W : World) (base : Nat) (args : Array Value) (ds gs : List (DataW H)) (before : List MemPlace)
    (hval : ∀ (j : Nat) t v, Tryz.f4.params[j]? = some t → args[j]? = some v → Value.okWide Tryz.prog W .any base t v)
    (hW : DataW.Whole enc Tryz.prog Tryz.f4.params.toList Rows.showKeySpec.vars false W args.toList ds gs before) (hL : laidMetH Tryz.prog Rows.showKeyUptoRow.laid W) (hk : Rows.uptoSmall H (ds ++ gs) = true) :
    Calls Tryz.prog 4 args W fun e W' => ∃ v, e = .returned v ∧ Rows.showKeySpec.post enc Tryz.prog Tryz.f4 false true false false W args v W' := by
  have hW' := hW
  obtain ⟨p, q, hA0, hV, rfl, hfz, hnd⟩ := hW
  have hA : DataW.TrodAll enc Tryz.prog W 0 (fun _ => true) true Tryz.f4.params.toList args.toList ds p := hA0
  rw [Tryz.params4] at hA hval
  obtain ⟨v0, vs0, d0, ds0, p0, q0, hargs, rfl, rfl, h0, r0⟩ := trodAll_cons hA
  obtain ⟨rfl, rfl, rfl⟩ := trodAll_nil r0
  obtain rfl : args = #[v0] := by cases args; simp_all
  obtain ⟨rfl, rfl⟩ := trodVars_none hV
  obtain ⟨a0, rfl, rfl, rfl, w0⟩ := open_string Tryz.underlying9 (hval 0 9 v0 rfl rfl) h0
  clear hA0
  simp only [List.append_nil] at hW' hk
  have hs := short hk
  refine (w_ShowKey a0 (by omega) W (tabIn hL)).mono fun e W' ⟨he, hb⟩ => ?_
  subst he
  exact ⟨_, rfl, _, _, _, [], [], [], hW', trodAll_cons_mk (shut_bool Tryz.underlying4 _) trodAll_mk0, trodAll_cons_mk (shut_string Tryz.underlying9 w0) trodAll_mk0, rfl, hb.frame _, fun h => by cases h⟩

theorem reads (os : Os) {H : Type} (enc : TypeId × Value → H) : ∃ places, DataW.whole enc Tryz.prog ((laidWorld18 os).forCall (fun _ _ => 0) ⟨#[], #[.string .empty], []⟩).memory Tryz.f4.params.toList Rows.showKeySpec.vars false (#[.string .empty] : Array Value).toList 8 = some ([.lit (.string [])], [], places) :=
  ⟨[], by kernel_rfl⟩

set_option maxRecDepth 100000 in
theorem lifted (os : Os) (started : os.Started) (H : Type) (enc : TypeId × Value → H) (F : Stop.Interp) :
    ReturnsInHanded {} Tryz.checked os 4 .any ((Rows.OpenSpec.upto Rows.showKeySpec).preRow enc Tryz.prog Tryz.f4 Rows.showKeyUptoRow.domain false Rows.showKeyUptoRow.laid) (((Rows.OpenSpec.upto Rows.showKeySpec).at F).post enc Tryz.prog Tryz.f4 false true false false) := by
  obtain ⟨places, hx⟩ := reads os enc
  refine returnsInHanded_of_row (C := Tryz.checked) (s := Rows.OpenSpec.upto Rows.showKeySpec) own18 started (by kernel_rfl) Tryz.func4
    (witness_row_at (enc := enc) (C := Tryz.checked) false (laidWorld18 os) #[.string .empty] rfl (by kernel_rfl) (by kernel_rfl) (by kernel_rfl)
      (OpenSpec.preRow_of_cond 8 hx (by kernel_rfl) (fun k hk => by cases hk; kernel_rfl) (by kernel_rfl) (laid_met18 os _))) ?_
  intro W base args ds gs before hval hW _ hcond _ hL _ _
  exact contract H enc W base args ds gs before hval hW hL (hcond _ rfl)

theorem said : Rows.ShowKeyUptoSaid :=
  OpenClaim.holds_of_cond 4 Tryz.f4 rfl rfl rfl rfl rfl rfl rfl ⟨rfl, rfl, rfl, rfl, rfl⟩ rfl rfl rfl rfl rfl (by kernel_rfl) Tryz.func4 (by kernel_rfl)
    (of_decide_eq_true (by kernel_rfl)) (by unfold Func.isWrapper; first | (rw [if_pos (by decide +kernel)]; kernel_rfl) | (rw [if_neg (by decide +kernel)]; exact ⟨rfl, rfl⟩))
    (fun os started H enc _ F => by rw [OpenClaim.pre_eq_preRow]; exact lifted os started H enc F)

theorem plain (f : FuncId) (fn : Func) (hf : Tryz.pinned.checked.prog.funcNamed "hallmark/hallmarklaw18.ShowKey" = some f) (hfn : Tryz.pinned.checked.prog.funcs[f]? = some fn) :
    false = Tryz.pinned.checked.prog.looks [] ∧ ∀ (j : Nat) t, fn.params[j]? = some t → Tryz.pinned.checked.prog.wantsStandIn t = false := by
  obtain rfl : f = 4 := Option.some.inj ((show Tryz.prog.funcNamed "hallmark/hallmarklaw18.ShowKey" = some 4 by kernel_rfl).symm.trans hf) |>.symm
  obtain rfl : fn = Tryz.f4 := (Option.some.inj (Tryz.func4.symm.trans hfn)).symm
  refine ⟨by kernel_rfl, fun j t ht => ?_⟩
  rw [Tryz.params4] at ht
  obtain rfl : t = 9 := by simpa using Array.mem_of_getElem? ht
  exact (show Tryz.prog.wantsStandIn 9 = false by kernel_rfl)

theorem card : Rows.ShowKeyUptoCardSaid :=
  Claim7.holds_tied_plain_at .later [] _ _ _ _ said (fun _ h => by cases h) (by kernel_rfl) (fun _ h => by cases h) showKeyUpto_row_tie rfl ⟨rfl, rfl⟩ (by kernel_rfl) rfl plain (by kernel_rfl)
end Go.Proofs.YtcadknhedfnaoaaGreatDoor.showKey
namespace Go.Proofs.YtcadknhedfnaoaaGreatDoor
theorem showKey_card : Rows.ShowKeyUptoCardSaid := showKey.card
end Go.Proofs.YtcadknhedfnaoaaGreatDoor
