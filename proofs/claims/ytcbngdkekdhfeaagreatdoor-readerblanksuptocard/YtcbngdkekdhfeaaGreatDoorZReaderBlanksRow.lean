import Derived.Test.YtcbngdkekdhfeaaGreatDoorZRLawRow
import Derived.Test.YtcbngdkekdhfeaaGreatDoorZB3
import Derived.WideKeyArgs
import Derived.WideKeyElems4
import Derived.Deep.Slices
namespace Go.Proofs.YtcbngdkekdhfeaaGreatDoor.readerBlanks
open Go.ChangeShapes Go.WideShapes Go.ChangeAt Go.RowKit
open Go.ChangeMaps (open_string shut_string)
set_option linter.unusedVariables false

theorem laidOut : laidOutB Tryz.prog = true := by kernel_rfl
theorem cells3 : Tryz.prog.cellsOf 3 = 1 := by kernel_rfl
theorem cells4 : Tryz.prog.cellsOf 4 = 1 := by kernel_rfl

section
variable {H : Type} {enc : TypeId × Value → H} {W : World}
theorem bulk_pos (d : DataW H) : 1 ≤ Rows.uptoBulk d := by
  cases d with
  | lit l => cases l <;> simp [Rows.uptoBulk]
  | _ => simp [Rows.uptoBulk]
theorem bulk_mem {d : DataW H} : ∀ {l : List (DataW H)}, d ∈ l → Rows.uptoBulk d ≤ Rows.uptoBulkAll l
  | a :: r, h => by
    simp only [Rows.uptoBulkAll]
    rcases List.mem_cons.1 h with rfl | h
    · omega
    · have := bulk_mem h; omega
theorem bulk_len : ∀ (l : List (DataW H)), l.length ≤ Rows.uptoBulkAll l
  | [] => Nat.zero_le _
  | a :: r => by
    have := bulk_len r
    have := bulk_pos a
    simp only [Rows.uptoBulkAll, List.length_cons]; omega

set_option maxRecDepth 100000 in
theorem gap_open {fuel : Nat} {cs : List Value} {x : DataW H × List MemPlace} (h : DataW.trod enc Tryz.prog W 0 (fun _ => true) true fuel 46 cs = some x) :
    ∃ (A B : ByteArray), cs = [.string A, .string B] ∧ A.size + B.size ≤ Rows.uptoBulk x.1 := by
  obtain ⟨xs, m, rfl, rfl, hl, hn, hi⟩ := DataW.trod_struct Tryz.underlying46 h
  rw [show Tryz.prog.cellsOf 46 = 2 by kernel_rfl] at hl
  have hn2 : xs.length = 2 := hn
  have h0 := hi 0 _ rfl
  have h1 := hi 1 _ rfl
  match xs, hn2, cs, hl with
  | [y0, y1], _, [v0, v1], _ =>
    simp [cells9] at h0 h1
    obtain ⟨A, e0, rfl, _⟩ := DataW.trod_string Tryz.underlying9 h0
    obtain ⟨B, e1, rfl, _⟩ := DataW.trod_string Tryz.underlying9 h1
    simp at e0 e1
    subst e0 e1
    have l0 : A.data.toList.length = A.size := by rw [Array.length_toList]; rfl
    have l1 : B.data.toList.length = B.size := by rw [Array.length_toList]; rfl
    refine ⟨A, B, rfl, ?_⟩
    simp only [List.map_cons, List.map_nil, Rows.uptoBulk, Rows.uptoBulkAll]; omega
theorem gsz_le (f : Nat → ByteArray × ByteArray) (D : Nat → DataW H) : ∀ l : List Nat, (∀ i ∈ l, (f i).1.size + (f i).2.size ≤ Rows.uptoBulk (D i)) → gsz (l.map f) ≤ Rows.uptoBulkAll (l.map D)
  | [], _ => Nat.zero_le _
  | a :: r, h => by
    have ih := gsz_le f D r (fun i hi => h i (List.mem_cons_of_mem _ hi))
    have h0 := h a (List.mem_cons_self ..)
    simp only [List.map_cons, gsz, Rows.uptoBulkAll]; omega
end

set_option maxRecDepth 100000 in
theorem contract (H : Type) (enc : TypeId × Value → H) (W : World) (base : Nat) (args : Array Value) (ds gs : List (DataW H)) (before : List MemPlace)
    (hval : ∀ (j : Nat) t v, Tryz.f6.params[j]? = some t → args[j]? = some v → Value.okWide Tryz.prog W .any base t v)
    (hW : DataW.Whole enc Tryz.prog Tryz.f6.params.toList Rows.readerBlanksSpec.vars false W args.toList ds gs before) (hL : laidMetH Tryz.prog Rows.readerBlanksUptoRow.laid W) (hk : Rows.uptoSmall H (ds ++ gs) = true) :
    Calls Tryz.prog 6 args W fun e W' => ∃ v, e = .returned v ∧ Rows.readerBlanksSpec.post enc Tryz.prog Tryz.f6 false true false false W args v W' := by
  have hW' := hW
  obtain ⟨p, q, hA0, hV, rfl, hfz, hnd⟩ := hW
  have hA : DataW.TrodAll enc Tryz.prog W 0 (fun _ => true) true Tryz.f6.params.toList args.toList ds p := hA0
  rw [Tryz.params6] at hA hval
  obtain ⟨v0, vs0, d0, ds0, p0, q0, hargs, rfl, rfl, h0, r0⟩ := trodAll_cons hA
  obtain ⟨rfl, rfl, rfl⟩ := trodAll_nil r0
  obtain rfl : args = #[v0] := by cases args; simp_all
  obtain ⟨rfl, rfl⟩ := trodVars_none hV
  clear hA0
  simp only [List.append_nil] at hW' hk
  have hbulk : Rows.uptoBulk d0 ≤ 1048576 := by
    have h : Rows.uptoBulkAll [d0] ≤ 1048576 := of_decide_eq_true hk
    simp only [Rows.uptoBulkAll] at h
    omega
  have hlt : ∀ x ∈ p0, x.block < W.heap.size := fun x hx => hW'.lt x (by simpa using hx)
  have h0k := h0
  have again : ∀ (W' : World), Below W.heap.size W W' → DataW.TrodAll enc Tryz.prog W' 0 (fun b => decide (b < W.heap.size)) true [44] [v0] [d0] (p0 ++ []) := fun W' hb =>
    trodAll_cons_mk (WideElems.Trod_stays laidOut (by kernel_rfl) (of_decide_eq_true (by kernel_rfl)) h0k (fun x hx => hb.same (hlt x hx)) (fun x hx => by simpa using hlt x hx)) trodAll_mk0
  suffices hx : Calls Tryz.prog 6 #[v0] W fun e w' => Below W.heap.size W w' ∧ e = .returned (.bool true) by
    refine hx.mono fun e W' ⟨hb, he⟩ => ?_
    subst he
    exact ⟨_, rfl, _, _, _, [], _, [], hW', trodAll_cons_mk (shut_bool Tryz.underlying4 _) trodAll_mk0, again W' hb, rfl, hb.frame _, fun h => by cases h⟩
  clear again hlt hW'
  obtain ⟨a, len, cap, rfl⟩ := okWide_slice Tryz.underlying44 (hval 0 44 v0 rfl rfl)
  obtain ⟨fuel, hf⟩ := h0
  have hf' : DataW.trod enc Tryz.prog W 0 (fun _ => true) true fuel 44 [.slice a len cap] = some (d0, p0) := hf
  rcases Go.Deep.open_slice Tryz.underlying44 hf' with ⟨hcs, _⟩ | ⟨ad, ln, cp, m, n, D, Pl, hcs, hb0, hl, hm, hmm, hx, hel⟩
  · simp at hcs
    obtain ⟨rfl, rfl, rfl⟩ := hcs
    exact w_ReaderBlanks [] 0 0 none W rfl ⟨fun h => absurd h (by show ¬ 0 < 0; omega)⟩ (Nat.le_refl _) (by omega) (Nat.zero_le _) (errIn hL)
  · simp at hcs
    obtain ⟨rfl, rfl, rfl⟩ := hcs
    have hmc : m = cap := by simpa using hmm
    have hd : d0 = .slice ((List.range len).map D) ((List.range (m - len)).map fun j => D (len + j)) := congrArg Prod.fst hx
    rw [hd] at hbulk
    simp only [Rows.uptoBulk] at hbulk
    have hbl := bulk_len ((List.range len).map D)
    simp only [List.length_map, List.length_range] at hbl
    obtain ⟨f, hfz⟩ := Go.Deep.choose_lt (α := ByteArray × ByteArray) (n := len) (p := fun i z => (∀ j, j < 2 → W.cell? (ad.add (i * 2 + j)) = ([.string z.1, .string z.2] : List Value)[j]?) ∧ z.1.size + z.2.size ≤ Rows.uptoBulk (D i)) (fun i hi => by
      obtain ⟨cs', h1, h2⟩ := hel i (by omega)
      rw [show Tryz.prog.cellsOf 46 = 2 by kernel_rfl] at h1
      obtain ⟨_, hlen, hcell⟩ := World.cells?_some h1
      obtain ⟨A, B, rfl, b1⟩ := gap_open h2
      refine ⟨(A, B), fun j hj => ?_, b1⟩
      rw [← Go.Deep.add_add]; exact hcell j hj)
    have hsum := gsz_le f D (List.range len) (fun i hi => (hfz i (List.mem_range.1 hi)).2)
    refine w_ReaderBlanks ((List.range len).map f) len cap (some ad) W (by simp) ⟨fun hpos => ?_⟩ hl (by omega) (by omega) (errIn hL)
    have hpos' : 0 < len := by simpa using hpos
    have hc00 := (hfz 0 hpos').1 0 (by omega)
    obtain ⟨b, off, spot⟩ := ad
    have hspot : spot = none := by
      have : W.cell? ((⟨b, off, spot⟩ : Addr).add 0) = some (.string (f 0).1) := by simpa using hc00
      simpa [Addr.add] using World.cell?_spot this
    subst hspot
    refine ⟨b, off, rfl, ?_, fun i hi => ?_⟩
    · have : W.cell? ((⟨b, off, none⟩ : Addr).add 0) = some (.string (f 0).1) := by simpa using hc00
      have h := World.block_lt_of_cell? W _ this
      simpa [Addr.add] using h
    · have hi' : i < len := by simpa using hi
      have hc := (hfz i hi').1
      have hcj : ∀ j, j < 2 → W.cell? ⟨b, off + i * 2 + j, none⟩ = ([.string (f i).1, .string (f i).2] : List Value)[j]? := by
        intro j hj
        rw [← hc j hj, Go.WideShapes.add_plain, Nat.add_assoc]
      simp only [List.getElem_map, List.getElem_range]
      exact ⟨hcj 0 (by omega), hcj 1 (by omega)⟩

theorem reads (os : Os) {H : Type} (enc : TypeId × Value → H) : ∃ places, DataW.whole enc Tryz.prog ((laidWorld3 os).forCall (fun _ _ => 0) ⟨#[], #[.slice none 0 0], []⟩).memory Tryz.f6.params.toList Rows.readerBlanksSpec.vars false (#[.slice none 0 0] : Array Value).toList 8 = some ([.nil], [], places) :=
  ⟨[], by kernel_rfl⟩

set_option maxRecDepth 100000 in
theorem lifted (os : Os) (started : os.Started) (H : Type) (enc : TypeId × Value → H) (F : Stop.Interp) :
    ReturnsInHanded {} Tryz.checked os 6 .any ((Rows.OpenSpec.upto Rows.readerBlanksSpec).preRow enc Tryz.prog Tryz.f6 Rows.readerBlanksUptoRow.domain false Rows.readerBlanksUptoRow.laid) (((Rows.OpenSpec.upto Rows.readerBlanksSpec).at F).post enc Tryz.prog Tryz.f6 false true false false) := by
  obtain ⟨places, hx⟩ := reads os enc
  refine returnsInHanded_of_row (C := Tryz.checked) (s := Rows.OpenSpec.upto Rows.readerBlanksSpec) own3 started (by kernel_rfl) Tryz.func6
    (witness_row_at (enc := enc) (C := Tryz.checked) false (laidWorld3 os) #[.slice none 0 0] rfl (by kernel_rfl) (by kernel_rfl) (by kernel_rfl)
      (OpenSpec.preRow_of_cond 8 hx (by kernel_rfl) (fun k hk => by cases hk; kernel_rfl) (by kernel_rfl) (laid_met3 os _))) ?_
  intro W base args ds gs before hval hW _ hcond _ hL _ _
  exact contract H enc W base args ds gs before hval hW hL (hcond _ rfl)

theorem said : Rows.ReaderBlanksUptoSaid :=
  OpenClaim.holds_of_cond 6 Tryz.f6 rfl rfl rfl rfl rfl rfl rfl ⟨rfl, rfl, rfl, rfl, rfl⟩ rfl rfl rfl rfl rfl (by kernel_rfl) Tryz.func6 (by kernel_rfl)
    (of_decide_eq_true (by kernel_rfl)) (by unfold Func.isWrapper; first | (rw [if_pos (by decide +kernel)]; kernel_rfl) | (rw [if_neg (by decide +kernel)]; exact ⟨rfl, rfl⟩))
    (fun os started H enc _ F => by rw [OpenClaim.pre_eq_preRow]; exact lifted os started H enc F)

theorem plain (f : FuncId) (fn : Func) (hf : Tryz.pinned.checked.prog.funcNamed "hallmark/hallmarklaw05.ReaderBlanks" = some f) (hfn : Tryz.pinned.checked.prog.funcs[f]? = some fn) :
    true = Tryz.pinned.checked.prog.looks [] ∧ ∀ (j : Nat) t, fn.params[j]? = some t → Tryz.pinned.checked.prog.wantsStandIn t = false := by
  obtain rfl : f = 6 := Option.some.inj ((show Tryz.prog.funcNamed "hallmark/hallmarklaw05.ReaderBlanks" = some 6 by kernel_rfl).symm.trans hf) |>.symm
  obtain rfl : fn = Tryz.f6 := (Option.some.inj (Tryz.func6.symm.trans hfn)).symm
  refine ⟨by kernel_rfl, fun j t ht => ?_⟩
  rw [Tryz.params6] at ht
  obtain rfl : t = 44 := by simpa using Array.mem_of_getElem? ht
  exact (show Tryz.prog.wantsStandIn 44 = false by kernel_rfl)

theorem card : Rows.ReaderBlanksUptoCardSaid :=
  Claim7.holds_tied_plain_at .later [] _ _ _ _ said (fun _ h => by cases h) (by kernel_rfl) (fun _ h => by cases h) readerBlanksUpto_row_tie rfl ⟨rfl, rfl⟩ (by kernel_rfl) rfl plain (by kernel_rfl)
end Go.Proofs.YtcbngdkekdhfeaaGreatDoor.readerBlanks
namespace Go.Proofs.YtcbngdkekdhfeaaGreatDoor
theorem readerBlanks_card : Rows.ReaderBlanksUptoCardSaid := readerBlanks.card
end Go.Proofs.YtcbngdkekdhfeaaGreatDoor
