import Derived.Test.YtjfbbdhmcljhnaaZT5
namespace Go.Proofs.Ytjfbbdhmcljhnaa
open Go.RowKit Go.Maps Go.Sort Go.Shelf Go.WideMaps
set_option linter.unusedVariables false
set_option linter.unusedSimpArgs false
attribute [local go_sem] Oper.semAt_some

set_option maxRecDepth 100000 in
set_option maxHeartbeats 4000000 in
theorem latest1_in (l n₀ B Bm Bi mb N K M : Nat) (io : Option Addr) (icap : Nat) (D : DataW Unit) (S : List (List UInt8)) (c : Nat → Fin 5 → Value) (idx : Nat → Nat) (hN : N ≤ icap) (hone : ∀ i, i < N → OneC (c i))
    (hS : (strKeys D).mergeSort leB = S) (hM : S.length = M) (hidx : ∀ i, i < M → D.atKey (.string (S.getD i [])) (.lit (.int .i64 0)) = .lit (.int .i64 (idx i : Int)) ∧ idx i < N) (hlen : ∀ i, i < M → (S.getD i []).length ≤ maxLen) (hM2 : M ≤ 10001) (hD : Maps.size D ≤ 10001)
    (J Jx : List { i : Nat // i < M } → World → Prop) (W : World) (hn0 : n₀ ≤ W.heap.size) (hBl : B < W.heap.size) (hS0 : LtS W n₀ Bm Bi mb N K io icap D c) (hrw : ∀ b, ¬ rwAt W B b) (hJ : AbidesFrom W.heap.size J) (hJx : AbidesFrom W.heap.size Jx)
    (hY : ∀ pre (x : { i : Nat // i < M }) W1, J pre W1 → pre.length < M → YieldAt Fence.wide (6 - 1) Try.prog l (encG S c idx x.1) W1 fun e W' =>
      (e = .returned (.bool true) ∧ J (pre ++ [x]) W' ∧ KpG n₀ B W1 W') ∨ (e = .returned (.bool false) ∧ Jx (pre ++ [x]) W')) (h0 : J [] W) :
    CallsIn Fence.wide 6 Try.prog 72 #[.func (.yield l) #[] #[], .pointer (some ⟨Bm, 0, none⟩), .pointer (some ⟨Bi, 0, none⟩)] W fun e W' => (∃ v, e = .returned v) ∧
      ((∃ xs, xs.map (·.1) = List.range M ∧ J xs W') ∨ (∃ pre, True ∧ Jx pre W')) := by
  have HJ := Hid.mk hJ
  have HY := Hid.mk hY
  have H0 := Hid.mk h0
  have HO := Hid.mk hone
  have HSt := Hid.mk hS0
  have HSS := Hid.mk hS
  have HMM := Hid.mk hM
  have HIx := Hid.mk hidx
  have HLen := Hid.mk hlen
  have HRw := Hid.mk hrw
  have gm := hS0.bm
  have hown0 := hS0.map
  clear hJ hJx hY h0 hone hS0 hS hM hidx hlen hrw
  refine callsIn_of_wp Try.func72 rfl trivial ?_ rfl
  simp only [Try.ntmps72, List.size_toArray, List.length_cons, List.length_nil, Nat.reduceAdd, Nat.reduceSub, Array.replicate_succ, Array.replicate_zero, List.push_toArray, List.append_toArray, List.nil_append, List.cons_append]
  gi_wp2_with fail
  refine ⟨trivial, (Try.maps_Keys_74 (some mb) W).mono ?_⟩
  rintro e w1 ⟨rfl, rfl⟩
  gi_wp2_with fail
  refine ⟨trivial, (Try.slices_Sorted_keys_73_74 mb K D _ W hown0 (by unfold maxLen; omega) (by omega)).mono ?_⟩
  rintro e w2 ⟨v, ss, rfl, hP, hrow, hnil, hb2⟩
  have hSe : ss.mergeSort (fun x y => decide (x ≤ y)) = S := by rw [← HSS.out]; exact mergeSort_of_perm hP
  have hlen2 : ss.length = M := by rw [← HMM.out, ← hSe]; simp
  rw [hSe, hlen2] at hrow
  obtain ⟨so, sc, hv⟩ : ∃ so sc, v = .slice so M sc := by
    rcases hrow.2 with ⟨e, h0⟩ | ⟨g, cap, cur, e, _⟩
    · exact ⟨none, 0, by rw [e, h0]⟩
    · exact ⟨_, _, e⟩
  subst hv
  have hbW : Below W.heap.size W w2 := below_more (below1 W _) hb2
  have hSr : SrS w2 B M so S := by
    refine ⟨fun hp => ?_⟩
    rcases hrow.2 with ⟨e, h0⟩ | ⟨g, cap, cur, e, hg, hb, _, _, _, hx⟩
    · omega
    · simp only [Value.slice.injEq] at e
      obtain ⟨rfl, _, _⟩ := e
      have hg' : W.heap.size < g := by simp at hg; omega
      refine ⟨g, rfl, by omega, fun hr => ?_, (Array.getElem?_eq_some_iff.1 hb).1, fun i hi => ?_⟩
      · exact HRw.out g ((rwAt_same (hbW.block B hBl)).1 hr)
      · have := own_cellAt hrow (j := i) (by omega)
        rw [this, List.getElem?_map]
        have hil : i < S.length := by rw [HMM.out]; exact hi
        rw [List.getElem?_eq_getElem hil]
        simp [List.getD, hil]
  have HSr := Hid.mk hSr
  have HSw := Hid.mk (HSt.out.keep (hbW.mono hn0))
  have HJw : Hid (J [] w2) := HJ.out _ _ _ none H0.out ⟨hbW.os, hbW.tape, hbW.output, hbW.size, fun j hj _ => hbW.block j hj⟩ (fun r e => by cases e)
  have hsz2 := hbW.size
  have hsm : sc = sc := rfl
  have hMs : M ≤ sc ∨ M = 0 := by
    rcases hrow.2 with ⟨e, h0⟩ | ⟨g, cap, cur, e, hg, hb, h1, _⟩
    · exact .inr h0
    · simp only [Value.slice.injEq] at e
      exact .inl (by omega)
  clear hP hrow hnil hb2 hSe hlen2 hbW hSr hown0 gm hsm
  gi_wp2_with fail
  gi_loopw [10] (fun i wr => ∃ (k : Nat), k ≤ M ∧ i = .int .i64 (k : Int) ∧ n₀ ≤ wr.heap.size ∧ W.heap.size ≤ wr.heap.size ∧ Hid (LtS wr n₀ Bm Bi mb N K io icap D c ∧ SrS wr B M so S ∧ ∃ pre : List { i : Nat // i < M }, pre.map (·.1) = List.range k ∧ J pre wr)) (fun i _ => M - (intOf i).toNat)
  case atStart => exact ⟨0, Nat.zero_le _, rfl, by omega, by omega, HSw.out, HSr.out, [], rfl, HJw.out⟩
  case round =>
    clear HSw HSr HJw
    obtain ⟨k, hk, rfl, hn1, hw1, HQ⟩ := hrel
    by_cases hlt : k < M
    · have hl1 : (k : Int) < (M : Int) := by omega
      have gi := HQ.out.1.bi
      have gm := HQ.out.1.bm
      have hown := HQ.out.1.map
      obtain ⟨g, hso, _, _, _, hrow⟩ := HQ.out.2.1.row (by omega)
      subst hso
      have ck := hrow k hlt
      obtain ⟨hat0, hix⟩ := HIx.out k hlt
      obtain ⟨b, off, hio, hb, a0, a1, a2, a3, a4⟩ := HQ.out.1.items (idx k) hix
      subst hio
      obtain ⟨ik, inm, itx, iio, iN, iicap, iko, iK, ikcap, o0, o1, o2, o3, o4⟩ := HO.out (idx k) hix
      rw [o0] at a0; rw [o1] at a1; rw [o2] at a2; rw [o3] at a3; rw [o4] at a4
      obtain ⟨pre, hpre, hJp⟩ := HQ.out.2.2
      have hpl : pre.length = k := by have := congrArg List.length hpre; simpa using this
      obtain ⟨fn, tmps, assign, body, hy, hR⟩ := HY.out pre ⟨k, hlt⟩ _ hJp (by omega)
      unfold encG at hy
      dsimp only at hy
      rw [o0, o1, o2, o3, o4] at hy
      have hkey : keyOf Try.prog 9 (.string ⟨(S.getD k []).toArray⟩) = some (.string (S.getD k [])) := by
        have := keyOf_string_mk Try.underlying9 (s := ⟨(S.getD k []).toArray⟩) (by show (S.getD k []).toArray.size ≤ maxLen; rw [List.size_toArray]; exact HLen.out k hlt)
        simpa using this
      have HRd := Hid.mk hR
      have HAt := Hid.mk hat0
      have HPr : Hid ((pre ++ [(⟨k, hlt⟩ : { i : Nat // i < M })]).map (·.1) = List.range (k + 1)) := by show _ = _; rw [List.map_append, hpre, List.range_succ]; rfl
      generalize S.getD k [] = sk at ck hkey hy HAt
      have hi1 : (idx k : Int) < (N : Int) := by omega
      generalize idx k = ix at *
      clear hat0 hJp hpre hpl hR o0 o1 o2 o3 o4 hrow
      gi_wp2_with (gi_at_lookup; refine wpListIn_lookup_own_int _ (by rfl) _ _ 79 (by rfl) 9 3 .i64 mlaw Try.underlying79 Try.underlying3 (mzero _) mb K _ (by rfl) hown _ _ (by rfl) hkey ?_)
      intro cc hat hwc
      have hcc : cc = (ix : Int) := by
        have h1 := hat
        rw [HAt.out] at h1
        simp only [DataW.lit.injEq, Lit.int.injEq, true_and] at h1
        exact h1.symm
      subst hcc
      clear hat hwc
      gi_wp2_with fail
      refine HRd.out.mono ?_
      rintro e W4 (⟨rfl, hJ4, hk4⟩ | ⟨rfl, hJx4⟩)
      · have HN : Hid (LtS W4 n₀ Bm Bi mb N K (some ⟨b, off, none⟩) icap D c ∧ SrS W4 B M (some ⟨g, 0, none⟩) S ∧ ∃ pre : List { i : Nat // i < M }, pre.map (·.1) = List.range (k + 1) ∧ J pre W4) := ⟨HQ.out.1.keep hk4.below, HQ.out.2.1.keep hk4, _, HPr.out, hJ4⟩
        have hs4 := hk4.below.size
        clear hJ4 hk4 hy
        gi_wp2_with fail
        go_roundw
        case rel => exact ⟨k + 1, hlt, by go_num, by omega, by omega, HN⟩
        case measure => simp [intOf]; omega
      · have HX := Hid.mk hJx4
        clear hJx4 hy
        gi_wp2_with fail
        refine bodyPost_ret (results_none rfl _ _ _) rfl ?_
        exact ⟨⟨_, rfl⟩, .inr ⟨_, trivial, HX.out⟩⟩
    · have hl1 : ¬ (k : Int) < (M : Int) := by omega
      have hie : k = M := by omega
      obtain ⟨pre, hpre, hJp⟩ := HQ.out.2.2
      have HF : Hid (∃ xs : List { i : Nat // i < M }, xs.map (·.1) = List.range M ∧ J xs wr) := ⟨pre, by rw [hpre, hie], hJp⟩
      clear hie hpre hJp
      gi_wp2_with fail
      go_end0
      exact ⟨⟨_, rfl⟩, .inl HF.out⟩
end Go.Proofs.Ytjfbbdhmcljhnaa
