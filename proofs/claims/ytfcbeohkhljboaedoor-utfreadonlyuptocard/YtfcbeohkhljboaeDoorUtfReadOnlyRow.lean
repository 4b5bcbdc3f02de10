import Derived.Test.YtfcbeohkhljboaeDoorULawRow
import Derived.Test.YtfcbeohkhljboaeDoorRO2
import Derived.WideKeyArgs
import Derived.WideKeyElems4
namespace Go.Proofs.YtfcbeohkhljboaeDoor.utfReadOnly
open Go.ChangeShapes Go.WideShapes Go.ChangeAt Go.RowKit
open Go.ChangeMaps (open_string shut_string)
set_option linter.unusedVariables false

theorem laidOut : laidOutB Tryd.prog = true := by kernel_rfl
theorem cellsR : Tryd.prog.cellsOf 21 = 1 := by kernel_rfl

theorem bulk_len {H : Type} (ds : List (DataW H)) : ds.length ≤ Rows.uptoBulkAll ds := by
  induction ds with
  | nil => simp [Rows.uptoBulkAll]
  | cons d ds ih =>
    have h1 : 1 ≤ Rows.uptoBulk d := by
      cases d with
      | lit x => cases x <;> simp [Rows.uptoBulk]
      | _ => simp [Rows.uptoBulk]
    simp only [Rows.uptoBulkAll, List.length_cons]
    omega

theorem cell_of_cells1 {w : World} {b : Nat} {a : Addr} {c : Value} (h : w.cells? b a 1 = some [c]) : w.cell? a = some c := by
  unfold World.cells? at h
  split at h
  · have h1 : (List.range 1).mapM (fun i => w.cell? (a.add i)) = (w.cell? a).map fun c => [c] := by
      rw [show List.range 1 = [0] from rfl]
      simp [Addr.add, List.mapM_cons]
      cases w.cell? a <;> rfl
    rw [h1] at h
    obtain ⟨x, hx, he⟩ := Option.map_eq_some_iff.1 h
    rw [hx]; simpa using he
  · cases h

/-- a slice of runes, opened -/
theorem open_runes {H : Type} {enc : TypeId × Value → H} {W : World} {base : Nat} {v : Value} {d : DataW H} {p : List MemPlace} (hok : Value.okWide Tryd.prog W .any base 22 v) (h : DataW.Trod enc Tryd.prog W 0 (fun _ => true) true 22 v d p) :
    ∃ xs : List Int, Ints .i32 W v xs ∧ (∀ i, i < xs.length → -2147483648 ≤ xs.getD i 0 ∧ xs.getD i 0 ≤ 2147483647) ∧ xs.length ≤ Rows.uptoBulk d := by
  obtain ⟨ao, ln, cp, rfl⟩ := okWide_slice Tryd.underlying22 hok
  obtain ⟨fuel, hf⟩ := h
  rcases DataW.trod_slice Tryd.underlying22 hf with ⟨hc, hx⟩ | ⟨a, len, cap, elems, rest, n, rfl, hc, hx, hb, hle, hm, hel, hin, _⟩
  · have hc' : Value.slice ao ln cp = .slice none 0 0 := by simpa [Value.cells] using hc
    cases hc'
    exact ⟨[], ⟨none, 0, rfl, Nat.le_refl _, (fun h => absurd h (by simp))⟩, (fun i hi => absurd hi (by simp)), Nat.zero_le _⟩
  · have hc' : Value.slice ao ln cp = .slice (some a) len cap := by simpa [Value.cells] using hc
    cases hc'
    have hd : d = .slice (elems.map (·.1)) (rest.map (·.1)) := congrArg Prod.fst hx
    have hall : ∀ i, i < ln → ∃ z : Int, W.cell? (a.add i) = some (.int .i32 z) ∧ (Lit.int .i32 z).wf = true := by
      intro i hi
      have h1 := hin i hi
      rw [cellsR, Nat.mul_one] at h1
      obtain ⟨y, hy⟩ : ∃ y, elems[i]? = some y := ⟨_, List.getElem?_eq_getElem (by omega)⟩
      rw [hy] at h1
      obtain ⟨cs, h2, h3⟩ := Option.bind_eq_some_iff.1 h1
      obtain ⟨z, hz, _, hw⟩ := DataW.trod_int Tryd.underlying21 h3
      rw [hz] at h2
      exact ⟨z, cell_of_cells1 h2, hw⟩
    obtain ⟨xs, hxl, hxs⟩ : ∃ xs : List Int, xs.length = ln ∧ ∀ i, i < ln → W.cell? (a.add i) = some (.int .i32 (xs.getD i 0)) ∧ (Lit.int .i32 (xs.getD i 0)).wf = true := by
      refine ⟨(List.range ln).map fun i => if hi : i < ln then (hall i hi).choose else 0, by simp, fun i hi => ?_⟩
      have e : ((List.range ln).map fun i => if hi : i < ln then (hall i hi).choose else 0).getD i 0 = (hall i hi).choose := by
        simp [List.getD, hi]
      rw [e]; exact (hall i hi).choose_spec
    refine ⟨xs, ⟨some a, cp, by rw [hxl], by rw [hxl]; exact hle, fun hp => ?_⟩, fun i hi => bounds_i32 (hxs i (by omega)).2, ?_⟩
    · obtain ⟨b, off, rfl, hcc⟩ := ints_at (zs := xs) (fun i hi => (hxs i (by omega)).1) hp
      refine ⟨b, off, rfl, ?_, fun i hi => hcc i hi⟩
      rcases Nat.lt_or_ge b W.heap.size with h | h
      · exact h
      · have := hcc 0 hp
        simp [World.cell?, Array.getElem?_eq_none h] at this
    · rw [hd]
      have := bulk_len (elems.map (·.1))
      rw [List.length_map] at this
      simp only [Rows.uptoBulk]
      omega

set_option maxRecDepth 100000 in
theorem contract (H : Type) (enc : TypeId × Value → H) (W : World) (base : Nat) (args : Array Value) (ds gs : List (DataW H)) (before : List MemPlace)
    (hval : ∀ (j : Nat) t v, Tryd.f3.params[j]? = some t → args[j]? = some v → Value.okWide Tryd.prog W .any base t v)
    (hW : DataW.Whole enc Tryd.prog Tryd.f3.params.toList Rows.utfReadOnlySpec.vars false W args.toList ds gs before) (hL : laidMetH Tryd.prog Rows.utfReadOnlyUptoRow.laid W) (hcn : Rows.uptoSmall H (ds ++ gs) = true) :
    Calls Tryd.prog 3 args W fun e W' => ∃ v, e = .returned v ∧ Rows.utfReadOnlySpec.post enc Tryd.prog Tryd.f3 false true false false W args v W' := by
  have hW' := hW
  obtain ⟨p, q, hA0, hV, rfl, hfz, hnd⟩ := hW
  have hA : DataW.TrodAll enc Tryd.prog W 0 (fun _ => true) true Tryd.f3.params.toList args.toList ds p := hA0
  rw [Tryd.params3] at hA hval
  obtain ⟨v0, vs0, d0, ds0, p0, q0, hargs, rfl, rfl, h0, r0⟩ := trodAll_cons hA
  obtain ⟨v1, vs1, d1, ds1, p1, q1, rfl, rfl, rfl, h1, r1⟩ := trodAll_cons r0
  obtain ⟨rfl, rfl, rfl⟩ := trodAll_nil r1
  obtain rfl : args = #[v0, v1] := by cases args; simp_all
  obtain ⟨rfl, rfl⟩ := trodVars_none hV
  clear hA0
  simp only [List.append_nil] at hW' hcn
  have hlt : ∀ x ∈ p0 ++ p1, x.block < W.heap.size := fun x hx => hW'.lt x (by simpa using hx)
  have h0k := h0
  have h1k := h1
  have again : ∀ (W' : World), Below W.heap.size W W' → DataW.TrodAll enc Tryd.prog W' 0 (fun b => decide (b < W.heap.size)) true [22, 22] [v0, v1] [d0, d1] (p0 ++ (p1 ++ [])) := fun W' hb =>
    trodAll_cons_mk (WideElems.Trod_stays laidOut (by kernel_rfl) (of_decide_eq_true (by kernel_rfl)) h0k (fun x hx => hb.same (hlt x (List.mem_append_left _ hx))) (fun x hx => by simpa using hlt x (List.mem_append_left _ hx)))
      (trodAll_cons_mk (WideElems.Trod_stays laidOut (by kernel_rfl) (of_decide_eq_true (by kernel_rfl)) h1k (fun x hx => hb.same (hlt x (List.mem_append_right _ hx))) (fun x hx => by simpa using hlt x (List.mem_append_right _ hx))) trodAll_mk0)
  suffices hx : Calls Tryd.prog 3 #[v0, v1] W fun e w' => e = .returned (.bool true) ∧ Below W.heap.size W w' by
    refine hx.mono fun e W' ⟨he, hb⟩ => ?_
    subst he
    exact ⟨_, rfl, _, _, _, [], _, [], hW', trodAll_cons_mk (shut_bool Tryd.underlying4 _) trodAll_mk0, again W' hb, rfl, hb.frame _, fun h => by cases h⟩
  clear again hlt hW'
  have hbk : Rows.uptoBulkAll [d0, d1] ≤ 1048576 := of_decide_eq_true hcn
  obtain ⟨xs, hx1, hx2, hx3⟩ := open_runes (hval 0 22 v0 rfl rfl) h0
  obtain ⟨ys, hy1, hy2, hy3⟩ := open_runes (hval 1 22 v1 rfl rfl) h1
  simp only [Rows.uptoBulkAll] at hbk
  exact w_UtfReadOnly v0 v1 xs ys W hx1 hy1 hx2 hy2 (by omega) (by omega)

theorem reads (os : Os) {H : Type} (enc : TypeId × Value → H) : ∃ places, DataW.whole enc Tryd.prog ((laidWorld2 os).forCall (fun _ _ => 0) ⟨#[], #[.slice none 0 0, .slice none 0 0], []⟩).memory Tryd.f3.params.toList Rows.utfReadOnlySpec.vars false (#[.slice none 0 0, .slice none 0 0] : Array Value).toList 8 = some ([.nil, .nil], [], places) :=
  ⟨[], by kernel_rfl⟩

set_option maxRecDepth 100000 in
theorem lifted (os : Os) (started : os.Started) (H : Type) (enc : TypeId × Value → H) (F : Stop.Interp) :
    ReturnsInHanded {} Tryd.checked os 3 .any ((Rows.OpenSpec.upto Rows.utfReadOnlySpec).preRow enc Tryd.prog Tryd.f3 Rows.utfReadOnlyUptoRow.domain false Rows.utfReadOnlyUptoRow.laid) (((Rows.OpenSpec.upto Rows.utfReadOnlySpec).at F).post enc Tryd.prog Tryd.f3 false true false false) := by
  obtain ⟨places, hx⟩ := reads os enc
  refine returnsInHanded_of_row (C := Tryd.checked) (s := Rows.OpenSpec.upto Rows.utfReadOnlySpec) own2 started (by kernel_rfl) Tryd.func3
    (witness_row_at (enc := enc) (C := Tryd.checked) false (laidWorld2 os) #[.slice none 0 0, .slice none 0 0] rfl (by kernel_rfl) (by kernel_rfl) (by kernel_rfl)
      (OpenSpec.preRow_of_cond 8 hx (by kernel_rfl) (fun k hk => by cases hk; kernel_rfl) (by kernel_rfl) (laid_met2 os _))) ?_
  intro W base args ds gs before hval hW _ hcond _ hL _ _
  exact contract H enc W base args ds gs before hval hW hL (hcond _ rfl)

theorem said : Rows.UtfReadOnlyUptoSaid :=
  OpenClaim.holds_of_cond 3 Tryd.f3 rfl rfl rfl rfl rfl rfl rfl ⟨rfl, rfl, rfl, rfl, rfl⟩ rfl rfl rfl rfl rfl (by kernel_rfl) Tryd.func3 (by kernel_rfl)
    (of_decide_eq_true (by kernel_rfl)) (by unfold Func.isWrapper; first | (rw [if_pos (by decide +kernel)]; kernel_rfl) | (rw [if_neg (by decide +kernel)]; exact ⟨rfl, rfl⟩))
    (fun os started H enc _ F => by rw [OpenClaim.pre_eq_preRow]; exact lifted os started H enc F)

theorem plain (f : FuncId) (fn : Func) (hf : Tryd.pinned.checked.prog.funcNamed "hallmark/hallmarklaw02.UtfReadOnly" = some f) (hfn : Tryd.pinned.checked.prog.funcs[f]? = some fn) :
    true = Tryd.pinned.checked.prog.looks [] ∧ ∀ (j : Nat) t, fn.params[j]? = some t → Tryd.pinned.checked.prog.wantsStandIn t = false := by
  obtain rfl : f = 3 := Option.some.inj ((show Tryd.prog.funcNamed "hallmark/hallmarklaw02.UtfReadOnly" = some 3 by kernel_rfl).symm.trans hf) |>.symm
  obtain rfl : fn = Tryd.f3 := (Option.some.inj (Tryd.func3.symm.trans hfn)).symm
  refine ⟨by kernel_rfl, fun j t ht => ?_⟩
  rw [Tryd.params3] at ht
  obtain rfl : t = 22 := by simpa using Array.mem_of_getElem? ht
  exact (show Tryd.prog.wantsStandIn 22 = false by kernel_rfl)

theorem card : Rows.UtfReadOnlyUptoCardSaid :=
  Claim7.holds_tied_plain_at .later [] _ _ _ _ said (fun _ h => by cases h) (by kernel_rfl) (fun _ h => by cases h) utfReadOnlyUpto_row_tie rfl ⟨rfl, rfl⟩ (by kernel_rfl) rfl plain (by kernel_rfl)
end Go.Proofs.YtfcbeohkhljboaeDoor.utfReadOnly
namespace Go.Proofs.YtfcbeohkhljboaeDoor
theorem utfReadOnly_card : Rows.UtfReadOnlyUptoCardSaid := utfReadOnly.card
end Go.Proofs.YtfcbeohkhljboaeDoor
