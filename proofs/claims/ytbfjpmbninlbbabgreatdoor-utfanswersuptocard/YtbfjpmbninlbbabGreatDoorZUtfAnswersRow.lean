import Derived.Test.YtbfjpmbninlbbabGreatDoorZULawRow
import Derived.Test.YtbfjpmbninlbbabGreatDoorZY11
import Derived.WideKeyArgs
import Derived.WideKeyElems4
import Derived.Deep.Slices
namespace Go.Proofs.YtbfjpmbninlbbabGreatDoor.utfAnswers
open Go.ChangeShapes Go.WideShapes Go.ChangeAt Go.RowKit
open Go.ChangeMaps (open_string shut_string)
set_option linter.unusedVariables false

theorem gSyn : Tryz.prog.globalNamed "strconv.ErrSyntax" = some 1 := by kernel_rfl
theorem gSynType : (Tryz.prog.globals[1]?).map (·.type) = some 93 := by kernel_rfl
theorem cellsES : Tryz.prog.cellsOf 110 = 1 := by kernel_rfl
theorem cells9 : Tryz.prog.cellsOf 9 = 1 := by kernel_rfl
theorem star : "*" ++ "errors.errorString" = "*errors.errorString" := by decide
theorem rowES (u : TypeId) (h : Tryz.prog.typeName? 3 u = some "*errors.errorString") : u = 108 :=
  typeName_ptr_named (nm := "errors.errorString") (by rw [star]; kernel_rfl) (by kernel_rfl) (by decide) u (by rw [star]; exact h)
theorem errIn {W : World} (h : laidMetH Tryz.prog Rows.utfAnswersUptoRow.laid W) : ErrIn W := by
  have h' : laidMet Tryz.prog [("math/bits.deBruijn32tab", Rows.laid_math_bits_deBruijn32tab), ("math/bits.deBruijn64tab", Rows.laid_math_bits_deBruijn64tab), ("internal/strconv.uint64pow10", Rows.laid_internal_strconv_uint64pow10), ("strconv.ErrRange", Rows.laid_strconv_ErrRange), ("strconv.ErrSyntax", Rows.laid_strconv_ErrSyntax)] W := h
  obtain ⟨a, s, hv, _⟩ := laid_sentinel h'.tail.tail.tail.tail gSyn gSynType Tryz.underlying93 rowES Tryz.underlying108 Tryz.underlying110 rfl rfl Tryz.underlying9 cellsES cells9
  exact ⟨_, by simpa using World.var?_cell gSyn hv 0, Or.inr ⟨_, _, rfl⟩⟩

theorem laidOut : laidOutB Tryz.prog = true := by kernel_rfl
theorem cellsR : Tryz.prog.cellsOf 21 = 1 := by kernel_rfl
theorem cells3 : Tryz.prog.cellsOf 3 = 1 := by kernel_rfl
theorem cellsRs : Tryz.prog.cellsOf 25 = 1 := by kernel_rfl
theorem cellsO : Tryz.prog.cellsOf 27 = 6 := by kernel_rfl

section
variable {H : Type} {enc : TypeId × Value → H} {W : World}
theorem bulk_pos (d : DataW H) : 1 ≤ Rows.uptoBulk d := by
  cases d with
  | lit l => cases l <;> simp [Rows.uptoBulk]
  | _ => simp [Rows.uptoBulk]
theorem bulk_mem {d : DataW H} : ∀ {l : List (DataW H)}, d ∈ l → Rows.uptoBulk d ≤ Rows.uptoBulkAll l
  | a :: r, h => by
    simp only [Rows.uptoBulkAll]
    rcases List.mem_cons.1 h with rfl | h
    · omega
    · have := bulk_mem h; omega
theorem bulk_len : ∀ (l : List (DataW H)), l.length ≤ Rows.uptoBulkAll l
  | [] => Nat.zero_le _
  | a :: r => by
    have := bulk_len r
    have := bulk_pos a
    simp only [Rows.uptoBulkAll, List.length_cons]; omega

theorem runes_open {fuel : Nat} {cs : List Value} {x : DataW H × List MemPlace} (h : DataW.trod enc Tryz.prog W 0 (fun _ => true) true fuel 25 cs = some x) :
    ∃ (ao : Option Addr) (n cap : Nat) (zs : List Int), cs = [.slice ao n cap] ∧ zs.length = n ∧ Ints .i32 W (.slice ao n cap) zs ∧ (∀ i, i < zs.length → -2147483648 ≤ zs.getD i 0 ∧ zs.getD i 0 ≤ 2147483647) ∧ n ≤ Rows.uptoBulk x.1 := by
  rcases Go.Deep.open_slice1 Tryz.underlying25 cellsR h with ⟨rfl, rfl⟩ | ⟨a, len, cap, m, n, V, D, Pl, rfl, hb, hl, hm, hmm, rfl, hx⟩
  · exact ⟨none, 0, 0, [], rfl, rfl, ⟨none, 0, rfl, Nat.le_refl _, fun h => by cases h⟩, (fun i hi => by cases hi), Nat.zero_le _⟩
  · have hmc : m = cap := by simpa using hmm
    obtain ⟨z, hz⟩ := Go.Deep.choose_lt (α := Int) (n := len) (p := fun i z => W.cell? (a.add i) = some (.int .i32 z) ∧ (-2147483648 ≤ z ∧ z ≤ 2147483647)) (fun i hi => by
      obtain ⟨h1, h2⟩ := hx i (by omega)
      obtain ⟨z, hz, _, hw⟩ := DataW.trod_int Tryz.underlying21 h2
      have : V i = .int .i32 z := by simpa using hz
      rw [this] at h1
      exact ⟨z, h1, bounds_i32 hw⟩)
    have hg : ∀ i, i < len → ((List.range len).map z).getD i 0 = z i := fun i hi => by simp [List.getD, hi]
    refine ⟨some a, len, cap, (List.range len).map z, rfl, by simp, ⟨some a, cap, by simp, by simpa using hl, fun hp => ?_⟩, ?_, ?_⟩
    · have hp' : 0 < len := by simpa using hp
      have h0 := (hz 0 hp').1
      obtain ⟨b, off, spot⟩ := a
      have hspot : spot = none := by simpa [Addr.add] using World.cell?_spot h0
      subst hspot
      refine ⟨b, off, rfl, ?_, fun i hi => ?_⟩
      · have := World.block_lt_of_cell? W _ h0
        simpa [Addr.add] using this
      · have hi' : i < len := by simpa using hi
        rw [hg i hi', ← Go.WideShapes.add_plain]; exact (hz i hi').1
    · intro i hi
      have hi' : i < len := by simpa using hi
      rw [hg i hi']; exact (hz i hi').2
    · have := bulk_len ((List.range len).map D)
      simp only [List.length_map, List.length_range] at this
      simp only [Rows.uptoBulk]; omega

set_option maxRecDepth 100000 in
theorem op_open {fuel : Nat} {cs : List Value} {x : DataW H × List MemPlace} (h : DataW.trod enc Tryz.prog W 0 (fun _ => true) true fuel 27 cs = some x) :
    ∃ (k f t : Int) (S P : ByteArray) (ao : Option Addr) (n cap : Nat) (zs : List Int), cs = [.int .i64 k, .string S, .string P, .int .i64 f, .int .i64 t, .slice ao n cap] ∧ S.size ≤ Rows.uptoBulk x.1 ∧ P.size ≤ Rows.uptoBulk x.1 ∧ n ≤ Rows.uptoBulk x.1 ∧ zs.length = n ∧ Ints .i32 W (.slice ao n cap) zs ∧ (∀ i, i < zs.length → -2147483648 ≤ zs.getD i 0 ∧ zs.getD i 0 ≤ 2147483647) := by
  obtain ⟨xs, m, rfl, rfl, hl, hn, hi⟩ := DataW.trod_struct Tryz.underlying27 h
  rw [cellsO] at hl
  have hn6 : xs.length = 6 := hn
  have h0 := hi 0 _ rfl
  have h1 := hi 1 _ rfl
  have h2 := hi 2 _ rfl
  have h3 := hi 3 _ rfl
  have h4 := hi 4 _ rfl
  have h5 := hi 5 _ rfl
  match xs, hn6, cs, hl with
  | [y0, y1, y2, y3, y4, y5], _, [v0, v1, v2, v3, v4, v5], _ =>
    simp [cells3, cells9, cellsRs] at h0 h1 h2 h3 h4 h5
    obtain ⟨k, e0, rfl, _⟩ := DataW.trod_int Tryz.underlying3 h0
    obtain ⟨S, e1, rfl, _⟩ := DataW.trod_string Tryz.underlying9 h1
    obtain ⟨P, e2, rfl, _⟩ := DataW.trod_string Tryz.underlying9 h2
    obtain ⟨f, e3, rfl, _⟩ := DataW.trod_int Tryz.underlying3 h3
    obtain ⟨t, e4, rfl, _⟩ := DataW.trod_int Tryz.underlying3 h4
    obtain ⟨ao, n, cap, zs, e5, hz, hI, hw, hb⟩ := runes_open h5
    simp at e0 e1 e2 e3 e4 e5
    subst e0 e1 e2 e3 e4 e5
    have l1 : S.data.toList.length = S.size := by rw [Array.length_toList]; rfl
    have l2 : P.data.toList.length = P.size := by rw [Array.length_toList]; rfl
    refine ⟨k, f, t, S, P, ao, n, cap, zs, rfl, ?_, ?_, ?_, hz, hI, hw⟩
    · simp only [List.map_cons, List.map_nil, Rows.uptoBulk, Rows.uptoBulkAll]; omega
    · simp only [List.map_cons, List.map_nil, Rows.uptoBulk, Rows.uptoBulkAll]; omega
    · simp only [List.map_cons, List.map_nil, Rows.uptoBulk, Rows.uptoBulkAll]; omega
end

set_option maxRecDepth 100000 in
theorem contract (H : Type) (enc : TypeId × Value → H) (W : World) (base : Nat) (args : Array Value) (ds gs : List (DataW H)) (before : List MemPlace)
    (hval : ∀ (j : Nat) t v, Tryz.f3.params[j]? = some t → args[j]? = some v → Value.okWide Tryz.prog W .any base t v)
    (hW : DataW.Whole enc Tryz.prog Tryz.f3.params.toList Rows.utfAnswersSpec.vars false W args.toList ds gs before) (hL : laidMetH Tryz.prog Rows.utfAnswersUptoRow.laid W) (hk : Rows.uptoSmall H (ds ++ gs) = true) :
    Calls Tryz.prog 3 args W fun e W' => ∃ v, e = .returned v ∧ Rows.utfAnswersSpec.post enc Tryz.prog Tryz.f3 false true false false W args v W' := by
  have hW' := hW
  obtain ⟨p, q, hA0, hV, rfl, hfz, hnd⟩ := hW
  have hA : DataW.TrodAll enc Tryz.prog W 0 (fun _ => true) true Tryz.f3.params.toList args.toList ds p := hA0
  rw [Tryz.params3] at hA hval
  obtain ⟨v0, vs0, d0, ds0, p0, q0, hargs, rfl, rfl, h0, r0⟩ := trodAll_cons hA
  obtain ⟨rfl, rfl, rfl⟩ := trodAll_nil r0
  obtain rfl : args = #[v0] := by cases args; simp_all
  obtain ⟨rfl, rfl⟩ := trodVars_none hV
  clear hA0
  simp only [List.append_nil] at hW' hk
  have hbulk : Rows.uptoBulk d0 ≤ 1048576 := by
    have h : Rows.uptoBulkAll [d0] ≤ 1048576 := of_decide_eq_true hk
    simp only [Rows.uptoBulkAll] at h
    omega
  have hlt : ∀ x ∈ p0, x.block < W.heap.size := fun x hx => hW'.lt x (by simpa using hx)
  have h0k := h0
  have again : ∀ (W' : World), Below W.heap.size W W' → DataW.TrodAll enc Tryz.prog W' 0 (fun b => decide (b < W.heap.size)) true [22] [v0] [d0] (p0 ++ []) := fun W' hb =>
    trodAll_cons_mk (WideElems.Trod_stays laidOut (by kernel_rfl) (of_decide_eq_true (by kernel_rfl)) h0k (fun x hx => hb.same (hlt x hx)) (fun x hx => by simpa using hlt x hx)) trodAll_mk0
  suffices hx : Calls Tryz.prog 3 #[v0] W fun e w' => e = .returned (.bool true) ∧ Below W.heap.size W w' by
    refine hx.mono fun e W' ⟨he, hb⟩ => ?_
    subst he
    exact ⟨_, rfl, _, _, _, [], _, [], hW', trodAll_cons_mk (shut_bool Tryz.underlying4 _) trodAll_mk0, again W' hb, rfl, hb.frame _, fun h => by cases h⟩
  clear again hlt hW'
  obtain ⟨a, len, cap, rfl⟩ := okWide_slice Tryz.underlying22 (hval 0 22 v0 rfl rfl)
  obtain ⟨fuel, hf⟩ := h0
  have hf' : DataW.trod enc Tryz.prog W 0 (fun _ => true) true fuel 22 [.slice a len cap] = some (d0, p0) := hf
  rcases Go.Deep.open_slice Tryz.underlying22 hf' with ⟨hcs, _⟩ | ⟨ad, ln, cp, m, n, D, Pl, hcs, hb0, hl, hm, hmm, hx, hel⟩
  · simp at hcs
    obtain ⟨rfl, rfl, rfl⟩ := hcs
    exact w_UtfAnswers none 0 0 W (by omega) (Nat.le_refl _) (fun h => by omega) (errIn hL)
  · simp at hcs
    obtain ⟨rfl, rfl, rfl⟩ := hcs
    have hmc : m = cap := by simpa using hmm
    have hd : d0 = .slice ((List.range len).map D) ((List.range (m - len)).map fun j => D (len + j)) := congrArg Prod.fst hx
    rw [hd] at hbulk
    simp only [Rows.uptoBulk] at hbulk
    have hbl := bulk_len ((List.range len).map D)
    simp only [List.length_map, List.length_range] at hbl
    refine w_UtfAnswers (some ad) len cap W (by omega) hl (fun hpos => ?_) (errIn hL)
    have get : ∀ i, i < len → ∃ (k f t : Int) (S P : ByteArray) (ao : Option Addr) (n cap : Nat) (zs : List Int), (∀ j, j < 6 → W.cell? (ad.add (i * 6 + j)) = ([.int .i64 k, .string S, .string P, .int .i64 f, .int .i64 t, .slice ao n cap] : List Value)[j]?) ∧ S.size ≤ 1048576 ∧ P.size ≤ 1048576 ∧ n ≤ 1048576 ∧ zs.length = n ∧ Ints .i32 W (.slice ao n cap) zs ∧ (∀ i, i < zs.length → -2147483648 ≤ zs.getD i 0 ∧ zs.getD i 0 ≤ 2147483647) := by
      intro i hi
      obtain ⟨cs', h1, h2⟩ := hel i (by omega)
      rw [cellsO] at h1
      obtain ⟨_, hlen, hcell⟩ := World.cells?_some h1
      obtain ⟨k, f, t, S, P, ao, n', cap', zs, rfl, b1, b2, b3, hz, hI, hw⟩ := op_open h2
      have hbm : Rows.uptoBulk (D i) ≤ Rows.uptoBulkAll ((List.range len).map D) := bulk_mem (List.mem_map.2 ⟨i, List.mem_range.2 hi, rfl⟩)
      have b1' : S.size ≤ Rows.uptoBulk (D i) := b1
      have b2' : P.size ≤ Rows.uptoBulk (D i) := b2
      have b3' : n' ≤ Rows.uptoBulk (D i) := b3
      refine ⟨k, f, t, S, P, ao, n', cap', zs, fun j hj => ?_, by omega, by omega, by omega, hz, hI, hw⟩
      rw [← Go.Deep.add_add]; exact hcell j hj
    obtain ⟨k0, f0, t0, S0, P0, ao0, n0, cap0, zs0, hc0, _⟩ := get 0 hpos
    have hc00 := hc0 0 (by omega)
    obtain ⟨b, off, spot⟩ := ad
    have hspot : spot = none := by
      have : W.cell? ((⟨b, off, spot⟩ : Addr).add 0) = some (.int .i64 k0) := by simpa using hc00
      simpa [Addr.add] using World.cell?_spot this
    subst hspot
    refine ⟨b, off, rfl, ?_, fun i hi => ?_⟩
    · have : W.cell? ((⟨b, off, none⟩ : Addr).add 0) = some (.int .i64 k0) := by simpa using hc00
      have h := World.block_lt_of_cell? W _ this
      simpa [Addr.add] using h
    · obtain ⟨k, f, t, S, P, ao, n', cap', zs, hc, b1, b2, b3, hz, hI, hw⟩ := get i hi
      have hcj : ∀ j, j < 6 → W.cell? ⟨b, off + i * 6 + j, none⟩ = ([.int .i64 k, .string S, .string P, .int .i64 f, .int .i64 t, .slice ao n' cap'] : List Value)[j]? := by
        intro j hj
        rw [← hc j hj, Go.WideShapes.add_plain, Nat.add_assoc]
      exact ⟨k, f, t, S, P, ao, n', cap', zs, hcj 0 (by omega), hcj 1 (by omega), hcj 2 (by omega), hcj 3 (by omega), hcj 4 (by omega), hcj 5 (by omega), b1, b2, b3, hz, hI, hw⟩

theorem reads (os : Os) {H : Type} (enc : TypeId × Value → H) : ∃ places, DataW.whole enc Tryz.prog ((laidWorld2 os).forCall (fun _ _ => 0) ⟨#[], #[.slice none 0 0], []⟩).memory Tryz.f3.params.toList Rows.utfAnswersSpec.vars false (#[.slice none 0 0] : Array Value).toList 8 = some ([.nil], [], places) :=
  ⟨[], by kernel_rfl⟩

set_option maxRecDepth 100000 in
theorem lifted (os : Os) (started : os.Started) (H : Type) (enc : TypeId × Value → H) (F : Stop.Interp) :
    ReturnsInHanded {} Tryz.checked os 3 .any ((Rows.OpenSpec.upto Rows.utfAnswersSpec).preRow enc Tryz.prog Tryz.f3 Rows.utfAnswersUptoRow.domain false Rows.utfAnswersUptoRow.laid) (((Rows.OpenSpec.upto Rows.utfAnswersSpec).at F).post enc Tryz.prog Tryz.f3 false true false false) := by
  obtain ⟨places, hx⟩ := reads os enc
  refine returnsInHanded_of_row (C := Tryz.checked) (s := Rows.OpenSpec.upto Rows.utfAnswersSpec) own2 started (by kernel_rfl) Tryz.func3
    (witness_row_at (enc := enc) (C := Tryz.checked) false (laidWorld2 os) #[.slice none 0 0] rfl (by kernel_rfl) (by kernel_rfl) (by kernel_rfl)
      (OpenSpec.preRow_of_cond 8 hx (by kernel_rfl) (fun k hk => by cases hk; kernel_rfl) (by kernel_rfl) (laid_met2 os _))) ?_
  intro W base args ds gs before hval hW _ hcond _ hL _ _
  exact contract H enc W base args ds gs before hval hW hL (hcond _ rfl)

theorem said : Rows.UtfAnswersUptoSaid :=
  OpenClaim.holds_of_cond 3 Tryz.f3 rfl rfl rfl rfl rfl rfl rfl ⟨rfl, rfl, rfl, rfl, rfl⟩ rfl rfl rfl rfl rfl (by kernel_rfl) Tryz.func3 (by kernel_rfl)
    (of_decide_eq_true (by kernel_rfl)) (by unfold Func.isWrapper; first | (rw [if_pos (by decide +kernel)]; kernel_rfl) | (rw [if_neg (by decide +kernel)]; exact ⟨rfl, rfl⟩))
    (fun os started H enc _ F => by rw [OpenClaim.pre_eq_preRow]; exact lifted os started H enc F)

theorem plain (f : FuncId) (fn : Func) (hf : Tryz.pinned.checked.prog.funcNamed "hallmark/hallmarklaw02.UtfAnswers" = some f) (hfn : Tryz.pinned.checked.prog.funcs[f]? = some fn) :
    true = Tryz.pinned.checked.prog.looks [] ∧ ∀ (j : Nat) t, fn.params[j]? = some t → Tryz.pinned.checked.prog.wantsStandIn t = false := by
  obtain rfl : f = 3 := Option.some.inj ((show Tryz.prog.funcNamed "hallmark/hallmarklaw02.UtfAnswers" = some 3 by kernel_rfl).symm.trans hf) |>.symm
  obtain rfl : fn = Tryz.f3 := (Option.some.inj (Tryz.func3.symm.trans hfn)).symm
  refine ⟨by kernel_rfl, fun j t ht => ?_⟩
  rw [Tryz.params3] at ht
  obtain rfl : t = 22 := by simpa using Array.mem_of_getElem? ht
  exact (show Tryz.prog.wantsStandIn 22 = false by kernel_rfl)

theorem card : Rows.UtfAnswersUptoCardSaid :=
  Claim7.holds_tied_plain_at .later [] _ _ _ _ said (fun _ h => by cases h) (by kernel_rfl) (fun _ h => by cases h) utfAnswersUpto_row_tie rfl ⟨rfl, rfl⟩ (by kernel_rfl) rfl plain (by kernel_rfl)
end Go.Proofs.YtbfjpmbninlbbabGreatDoor.utfAnswers
namespace Go.Proofs.YtbfjpmbninlbbabGreatDoor
theorem utfAnswers_card : Rows.UtfAnswersUptoCardSaid := utfAnswers.card
end Go.Proofs.YtbfjpmbninlbbabGreatDoor
