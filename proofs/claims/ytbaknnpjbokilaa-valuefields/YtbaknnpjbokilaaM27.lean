import Derived.Test.YtbaknnpjbokilaaM26
import Derived.Test.YtbaknnpjbokilaaM21
import Derived.Maps.OwnIn
namespace Go.Proofs.Ytbaknnpjbokilaa
open Go.RowKit Go.Maps Go.Sort Go.Shelf
set_option linter.unusedVariables false
set_option linter.unusedSimpArgs false
attribute [local go_sem] Oper.semAt_some

/-- a block of one of the two rows that the object in box B holds -/
def rwAt (W : World) (B b : Nat) : Prop := ∃ v, (W.cell? ⟨B, 3, none⟩ = some v ∨ W.cell? ⟨B, 4, none⟩ = some v) ∧ v.ownBlock = some b
/-- what a round that gathers into box B keeps -/
structure KpG (n₀ B : Nat) (W W' : World) : Prop where
  below : Below n₀ W W'
  same : ∀ b o, b ≠ B → ¬ rwAt W B b → W.heap[b]? = some o → o.isCells = true → W'.heap[b]? = some o
  rows : ∀ b, rwAt W' B b → rwAt W B b ∨ W.heap.size ≤ b
theorem KpG.trans {n₀ B : Nat} {X Y Z : World} (h : KpG n₀ B X Y) (k : KpG n₀ B Y Z) : KpG n₀ B X Z := by
  refine ⟨h.below.trans k.below, fun b o hb hr ho hc => ?_, fun b hb => ?_⟩
  · refine k.same b o hb (fun hy => ?_) (h.same b o hb hr ho hc) hc
    have := (Array.getElem?_eq_some_iff.1 ho).1
    rcases h.rows b hy with hx | hx
    · exact hr hx
    · omega
  · rcases k.rows b hb with hy | hy
    · exact h.rows b hy
    · exact .inr (Nat.le_trans h.below.size hy)
theorem rwAt_same {W W' : World} {B b : Nat} (h : W'.heap[B]? = W.heap[B]?) : rwAt W' B b ↔ rwAt W B b := by
  unfold rwAt
  rw [World.cell?_of_block (a := ⟨B, 3, none⟩) h, World.cell?_of_block (a := ⟨B, 4, none⟩) h]
theorem KpG.put {n₀ B : Nat} {w : World} (hm : n₀ ≤ w.heap.size) (hB : B < w.heap.size) (W : World) (l : Nat) (o o' : Obj) (hl : w.heap.size ≤ l) (h : W.heap[l]? = some o) (hc : o.isCells = false) (hw : o.isWalk = false) : KpG n₀ B W (W.putObj l o') := by
  refine ⟨belowK_b (w := w) hm W l o o' hl h hc hw, fun b x hb hr hx hxc => ?_, fun b hb => .inl ?_⟩
  · rw [World.putObj_heap_other (by rintro rfl; rw [h] at hx; cases hx; rw [hc] at hxc; cases hxc)]; exact hx
  · exact (rwAt_same (World.putObj_heap_other (by omega))).1 hb
theorem KpG.of_below {n₀ B : Nat} {W W' : World} (hn : n₀ ≤ W.heap.size) (hB : B < W.heap.size) (hb : Below W.heap.size W W') : KpG n₀ B W W' :=
  ⟨hb.mono hn, fun b o _ _ ho _ => (hb.block b (Array.getElem?_eq_some_iff.1 ho).1).trans ho, fun b h => .inl ((rwAt_same (hb.block B hB)).1 h)⟩

theorem ownsMap_low {w w' : World} {n : Nat} {P : Program} {k : TypeId} {R : Value → Option (DataW Unit × List MemPlace)} {b m : Nat} {D : DataW Unit} (h : w.ownsMap P k R b m D) (hb : Below n w w') (hlt : b < n) : w'.ownsMap P k R b m D := by
  obtain ⟨es, clock, h1, rest⟩ := h
  exact ⟨es, clock, (hb.block b hlt).trans h1, rest⟩

/-- what latest's iterator reads -/
structure LtS (W : World) (n₀ Bm Bi mb N K : Nat) (io : Option Addr) (icap : Nat) (D : DataW Unit) (c : Nat → Fin 5 → Value) : Prop where
  bi : W.cell? ⟨Bi, 0, none⟩ = some (.slice io N icap)
  bm : W.cell? ⟨Bm, 0, none⟩ = some (.map (some mb))
  map : W.ownsMap Try.prog 9 (plainElem Try.prog 3) mb K D
  items : ∀ i, i < N → ∃ b off, io = some ⟨b, off, none⟩ ∧ b < n₀ ∧ W.cell? ⟨b, off + i * 5, none⟩ = some (c i 0) ∧ W.cell? ⟨b, off + i * 5 + 1, none⟩ = some (c i 1) ∧ W.cell? ⟨b, off + i * 5 + 2, none⟩ = some (c i 2) ∧ W.cell? ⟨b, off + i * 5 + 3, none⟩ = some (c i 3) ∧ W.cell? ⟨b, off + i * 5 + 4, none⟩ = some (c i 4)
  lt : Bi < n₀ ∧ Bm < n₀ ∧ mb < n₀
theorem LtS.keep {W W' : World} {n₀ Bm Bi mb N K : Nat} {io : Option Addr} {icap : Nat} {D : DataW Unit} {c : Nat → Fin 5 → Value} (h : LtS W n₀ Bm Bi mb N K io icap D c) (hb : Below n₀ W W') : LtS W' n₀ Bm Bi mb N K io icap D c := by
  obtain ⟨l1, l2, l3⟩ := h.lt
  refine ⟨(hb.cell (p := ⟨_, _, _⟩) l1).trans h.bi, (hb.cell (p := ⟨_, _, _⟩) l2).trans h.bm, ownsMap_low h.map hb l3, fun i hi => ?_, h.lt⟩
  obtain ⟨b, off, e, hl, a0, a1, a2, a3, a4⟩ := h.items i hi
  exact ⟨b, off, e, hl, (hb.cell (p := ⟨_, _, _⟩) hl).trans a0, (hb.cell (p := ⟨_, _, _⟩) hl).trans a1, (hb.cell (p := ⟨_, _, _⟩) hl).trans a2, (hb.cell (p := ⟨_, _, _⟩) hl).trans a3, (hb.cell (p := ⟨_, _, _⟩) hl).trans a4⟩

/-- the row of sorted keys, and where it lies -/
structure SrS (W : World) (B M : Nat) (so : Option Addr) (S : List (List UInt8)) : Prop where
  row : 0 < M → ∃ g, so = some ⟨g, 0, none⟩ ∧ g ≠ B ∧ ¬ rwAt W B g ∧ g < W.heap.size ∧ ∀ i, i < M → W.cell? ⟨g, i, none⟩ = some (.string ⟨(S.getD i []).toArray⟩)
theorem SrS.keep {W W' : World} {n₀ B M : Nat} {so : Option Addr} {S : List (List UInt8)} (h : SrS W B M so S) (hk : KpG n₀ B W W') : SrS W' B M so S := by
  refine ⟨fun h0 => ?_⟩
  obtain ⟨g, e, h1, h2, h3, h4⟩ := h.row h0
  have hs := hk.below.size
  refine ⟨g, e, h1, fun hr => ?_, by omega, fun i hi => ?_⟩
  · rcases hk.rows g hr with hx | hx
    · exact h2 hx
    · omega
  · have hc := h4 i hi
    obtain ⟨o, ho, hoc⟩ : ∃ o : Obj, W.heap[g]? = some o ∧ o.isCells = true := by
      unfold World.cell? at hc
      cases ho : W.heap[g]? with
      | none => simp [ho] at hc
      | some o => exact ⟨o, rfl, by cases o <;> simp_all [Obj.isCells]⟩
    exact (World.cell?_of_block (a := ⟨g, i, none⟩) ((hk.same g o h1 h2 ho hoc).trans ho.symm)).trans hc

def encG (S : List (List UInt8)) (c : Nat → Fin 5 → Value) (idx : Nat → Nat) (i : Nat) : Array Value := #[.string ⟨(S.getD i []).toArray⟩, .agg #[c (idx i) 0, c (idx i) 1, c (idx i) 2, c (idx i) 3, c (idx i) 4]]
end Go.Proofs.Ytbaknnpjbokilaa
namespace Go.Proofs.Ytbaknnpjbokilaa
open Go.RowKit Go.Maps Go.Sort Go.Shelf Go.WideMaps
set_option linter.unusedVariables false
set_option linter.unusedSimpArgs false
attribute [local go_sem] Oper.semAt_some

set_option maxRecDepth 100000 in
set_option maxHeartbeats 4000000 in
theorem latest1_in (l n₀ B Bm Bi mb N K M : Nat) (io : Option Addr) (icap : Nat) (D : DataW Unit) (S : List (List UInt8)) (c : Nat → Fin 5 → Value) (idx : Nat → Nat) (hN : N ≤ icap) (hone : ∀ i, i < N → OneC (c i))
    (hS : (strKeys D).mergeSort leB = S) (hM : S.length = M) (hidx : ∀ i, i < M → D.atKey (.string (S.getD i [])) (.lit (.int .i64 0)) = .lit (.int .i64 (idx i : Int)) ∧ idx i < N) (hlen : ∀ i, i < M → (S.getD i []).length ≤ maxLen) (hM2 : M ≤ 100000) (hD : Maps.size D ≤ 100000)
    (J Jx : List { i : Nat // i < M } → World → Prop) (W : World) (hn0 : n₀ ≤ W.heap.size) (hBl : B < W.heap.size) (hS0 : LtS W n₀ Bm Bi mb N K io icap D c) (hrw : ∀ b, ¬ rwAt W B b) (hJ : AbidesFrom W.heap.size J) (hJx : AbidesFrom W.heap.size Jx)
    (hY : ∀ pre (x : { i : Nat // i < M }) W1, J pre W1 → pre.length < M → YieldAt Fence.wide (6 - 1) Try.prog l (encG S c idx x.1) W1 fun e W' =>
      (e = .returned (.bool true) ∧ J (pre ++ [x]) W' ∧ KpG n₀ B W1 W') ∨ (e = .returned (.bool false) ∧ Jx (pre ++ [x]) W')) (h0 : J [] W) :
    CallsIn Fence.wide 6 Try.prog 35 #[.func (.yield l) #[] #[], .pointer (some ⟨Bm, 0, none⟩), .pointer (some ⟨Bi, 0, none⟩)] W fun e W' => (∃ v, e = .returned v) ∧
      ((∃ xs, xs.map (·.1) = List.range M ∧ J xs W') ∨ (∃ pre, True ∧ Jx pre W')) := by
  have HJ := Hid.mk hJ
  have HY := Hid.mk hY
  have H0 := Hid.mk h0
  have HO := Hid.mk hone
  have HSt := Hid.mk hS0
  have HSS := Hid.mk hS
  have HMM := Hid.mk hM
  have HIx := Hid.mk hidx
  have HLen := Hid.mk hlen
  have HRw := Hid.mk hrw
  have gm := hS0.bm
  have hown0 := hS0.map
  clear hJ hJx hY h0 hone hS0 hS hM hidx hlen hrw
  refine callsIn_of_wp Try.func35 rfl trivial ?_ rfl
  simp only [Try.ntmps35, List.size_toArray, List.length_cons, List.length_nil, Nat.reduceAdd, Nat.reduceSub, Array.replicate_succ, Array.replicate_zero, List.push_toArray, List.append_toArray, List.nil_append, List.cons_append]
  gi_wp2_with fail
  refine ⟨trivial, (Try.maps_Keys_37 (some mb) W).mono ?_⟩
  rintro e w1 ⟨rfl, rfl⟩
  gi_wp2_with fail
  refine ⟨trivial, (Try.slices_Sorted_keys_36_37 mb K D _ W hown0 (by unfold maxLen; omega) (by omega)).mono ?_⟩
  rintro e w2 ⟨v, ss, rfl, hP, hrow, hnil, hb2⟩
  have hSe : ss.mergeSort (fun x y => decide (x ≤ y)) = S := by rw [← HSS.out]; exact mergeSort_of_perm hP
  have hlen2 : ss.length = M := by rw [← HMM.out, ← hSe]; simp
  rw [hSe, hlen2] at hrow
  obtain ⟨so, sc, hv⟩ : ∃ so sc, v = .slice so M sc := by
    rcases hrow.2 with ⟨e, h0⟩ | ⟨g, cap, cur, e, _⟩
    · exact ⟨none, 0, by rw [e, h0]⟩
    · exact ⟨_, _, e⟩
  subst hv
  have hbW : Below W.heap.size W w2 := below_more (below1 W _) hb2
  have hSr : SrS w2 B M so S := by
    refine ⟨fun hp => ?_⟩
    rcases hrow.2 with ⟨e, h0⟩ | ⟨g, cap, cur, e, hg, hb, _, _, _, hx⟩
    · omega
    · simp only [Value.slice.injEq] at e
      obtain ⟨rfl, _, _⟩ := e
      have hg' : W.heap.size < g := by simp at hg; omega
      refine ⟨g, rfl, by omega, fun hr => ?_, (Array.getElem?_eq_some_iff.1 hb).1, fun i hi => ?_⟩
      · exact HRw.out g ((rwAt_same (hbW.block B hBl)).1 hr)
      · have := own_cellAt hrow (j := i) (by omega)
        rw [this, List.getElem?_map]
        have hil : i < S.length := by rw [HMM.out]; exact hi
        rw [List.getElem?_eq_getElem hil]
        simp [List.getD, hil]
  have HSr := Hid.mk hSr
  have HSw := Hid.mk (HSt.out.keep (hbW.mono hn0))
  have HJw : Hid (J [] w2) := HJ.out _ _ _ none H0.out ⟨hbW.os, hbW.tape, hbW.output, hbW.size, fun j hj _ => hbW.block j hj⟩ (fun r e => by cases e)
  have hsz2 := hbW.size
  have hsm : sc = sc := rfl
  have hMs : M ≤ sc ∨ M = 0 := by
    rcases hrow.2 with ⟨e, h0⟩ | ⟨g, cap, cur, e, hg, hb, h1, _⟩
    · exact .inr h0
    · simp only [Value.slice.injEq] at e
      exact .inl (by omega)
  clear hP hrow hnil hb2 hSe hlen2 hbW hSr hown0 gm hsm
  gi_wp2_with fail
  gi_loopw [10] (fun i wr => ∃ (k : Nat), k ≤ M ∧ i = .int .i64 (k : Int) ∧ n₀ ≤ wr.heap.size ∧ W.heap.size ≤ wr.heap.size ∧ Hid (LtS wr n₀ Bm Bi mb N K io icap D c ∧ SrS wr B M so S ∧ ∃ pre : List { i : Nat // i < M }, pre.map (·.1) = List.range k ∧ J pre wr)) (fun i _ => M - (intOf i).toNat)
  case atStart => exact ⟨0, Nat.zero_le _, rfl, by omega, by omega, HSw.out, HSr.out, [], rfl, HJw.out⟩
  case round =>
    clear HSw HSr HJw
    obtain ⟨k, hk, rfl, hn1, hw1, HQ⟩ := hrel
    by_cases hlt : k < M
    · have hl1 : (k : Int) < (M : Int) := by omega
      have gi := HQ.out.1.bi
      have gm := HQ.out.1.bm
      have hown := HQ.out.1.map
      obtain ⟨g, hso, _, _, _, hrow⟩ := HQ.out.2.1.row (by omega)
      subst hso
      have ck := hrow k hlt
      obtain ⟨hat0, hix⟩ := HIx.out k hlt
      obtain ⟨b, off, hio, hb, a0, a1, a2, a3, a4⟩ := HQ.out.1.items (idx k) hix
      subst hio
      obtain ⟨ik, inm, itx, iio, iN, iicap, iko, iK, ikcap, o0, o1, o2, o3, o4⟩ := HO.out (idx k) hix
      rw [o0] at a0; rw [o1] at a1; rw [o2] at a2; rw [o3] at a3; rw [o4] at a4
      obtain ⟨pre, hpre, hJp⟩ := HQ.out.2.2
      have hpl : pre.length = k := by have := congrArg List.length hpre; simpa using this
      obtain ⟨fn, tmps, assign, body, hy, hR⟩ := HY.out pre ⟨k, hlt⟩ _ hJp (by omega)
      unfold encG at hy
      dsimp only at hy
      rw [o0, o1, o2, o3, o4] at hy
      have hkey : keyOf Try.prog 9 (.string ⟨(S.getD k []).toArray⟩) = some (.string (S.getD k [])) := by
        have := keyOf_string_mk Try.underlying9 (s := ⟨(S.getD k []).toArray⟩) (by show (S.getD k []).toArray.size ≤ maxLen; rw [List.size_toArray]; exact HLen.out k hlt)
        simpa using this
      have HRd := Hid.mk hR
      have HAt := Hid.mk hat0
      have HPr : Hid ((pre ++ [(⟨k, hlt⟩ : { i : Nat // i < M })]).map (·.1) = List.range (k + 1)) := by show _ = _; rw [List.map_append, hpre, List.range_succ]; rfl
      generalize S.getD k [] = sk at ck hkey hy HAt
      have hi1 : (idx k : Int) < (N : Int) := by omega
      generalize idx k = ix at *
      clear hat0 hJp hpre hpl hR o0 o1 o2 o3 o4 hrow
      gi_wp2_with (gi_at_lookup; refine wpListIn_lookup_own_int _ (by rfl) _ _ 58 (by rfl) 9 3 .i64 mlaw Try.underlying58 Try.underlying3 (mzero _) mb K _ (by rfl) hown _ _ (by rfl) hkey ?_)
      intro cc hat hwc
      have hcc : cc = (ix : Int) := by
        have h1 := hat
        rw [HAt.out] at h1
        simp only [DataW.lit.injEq, Lit.int.injEq, true_and] at h1
        exact h1.symm
      subst hcc
      clear hat hwc
      gi_wp2_with fail
      refine HRd.out.mono ?_
      rintro e W4 (⟨rfl, hJ4, hk4⟩ | ⟨rfl, hJx4⟩)
      · have HN : Hid (LtS W4 n₀ Bm Bi mb N K (some ⟨b, off, none⟩) icap D c ∧ SrS W4 B M (some ⟨g, 0, none⟩) S ∧ ∃ pre : List { i : Nat // i < M }, pre.map (·.1) = List.range (k + 1) ∧ J pre W4) := ⟨HQ.out.1.keep hk4.below, HQ.out.2.1.keep hk4, _, HPr.out, hJ4⟩
        have hs4 := hk4.below.size
        clear hJ4 hk4 hy
        gi_wp2_with fail
        go_roundw
        case rel => exact ⟨k + 1, hlt, by go_num, by omega, by omega, HN⟩
        case measure => simp [intOf]; omega
      · have HX := Hid.mk hJx4
        clear hJx4 hy
        gi_wp2_with fail
        refine bodyPost_ret (results_none rfl _ _ _) rfl ?_
        exact ⟨⟨_, rfl⟩, .inr ⟨_, trivial, HX.out⟩⟩
    · have hl1 : ¬ (k : Int) < (M : Int) := by omega
      have hie : k = M := by omega
      obtain ⟨pre, hpre, hJp⟩ := HQ.out.2.2
      have HF : Hid (∃ xs : List { i : Nat // i < M }, xs.map (·.1) = List.range M ∧ J xs wr) := ⟨pre, by rw [hpre, hie], hJp⟩
      clear hie hpre hJp
      gi_wp2_with fail
      go_end0
      exact ⟨⟨_, rfl⟩, .inl HF.out⟩
end Go.Proofs.Ytbaknnpjbokilaa
