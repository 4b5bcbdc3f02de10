import Derived.Test.YtdehejadiofomaaDoorZD28b
import Derived.Sort.CutIn
namespace Go.Proofs.YtdehejadiofomaaDoor
open Go.RowKit Go.Shelf
set_option linter.unusedVariables false
set_option linter.unusedSimpArgs false
attribute [local go_sem] Oper.semAt_some

set_option maxRecDepth 100000 in
set_option maxHeartbeats 6400000 in
theorem w_TokenSeq_ok (s : ByteArray) (most : Int) (w : World) (ss : s.size ≤ 1048576) (hE : ErrIn w) (hC : ∀ t ∈ allY s.data.toList, t.err = 0) : Calls Tryd.prog 3 #[.string s, .int .i64 most] w fun e w' => e = .returned (.bool true) ∧ Below w.heap.size w w' := by
  obtain ⟨i0, hi0, hz0, hz1, hz2⟩ := info_parts Tryd.infoTok
  have HE := Hid.mk hE
  have HA := Hid.mk (fun u => w_rAhead s u ss)
  have HC := Hid.mk hC
  have HEl : Hid (3 < w.heap.size) := by
    obtain ⟨ev, hc, _⟩ := hE
    obtain ⟨o, ho, _⟩ := isCells_of_cell hc
    exact (Array.getElem?_eq_some_iff.1 ho).1
  obtain ⟨l, hl⟩ : ∃ l, l = s.data.toList := ⟨_, rfl⟩
  have HL : Hid (l.length = s.size) := by show _ = _; rw [hl]; exact size_lst s
  have HLL := Hid.mk hl
  rw [← hl] at HA HC
  clear hl hE hC
  refine (callsIn_wide (n := 9)).1 ?_
  refine callsIn_of_wp_marks Tryd.func3 rfl trivial ?_ rfl
  simp only [Tryd.ntmps3, List.size_toArray, List.length_cons, List.length_nil, Nat.reduceAdd, Nat.reduceSub, Array.replicate_succ, Array.replicate_zero, List.push_toArray, List.append_toArray, List.nil_append, List.cons_append]
  gi_wp2_with fail
  refine ⟨trivial, (callsIn_wide.2 (HA.out _)).mono ?_⟩
  rintro e w1 ⟨⟨hall, so, sc, rfl, HR⟩ | ⟨pre, x, so, sc, hpx, hx, hxx, rfl, HR⟩, hb1⟩
  · clear HC
    obtain ⟨N, hN⟩ : ∃ N, N = (allY l).length := ⟨_, rfl⟩
    obtain ⟨t1, c1⟩ := trow_own HR.out
    have T1 := Hid.mk t1
    have HErr : Hid (ErrOf (allY l) 0) := .inl ⟨hall, rfl⟩
    rw [← hN] at c1 ⊢
    have HN := Hid.mk hN
    have HNs : Hid (N ≤ 1048576) := by have := allY_len l; rw [HL.out, ← hN] at this; show _ ≤ _; omega
    clear hN t1 HR hall
    have hs1 := hb1.size
    simp at hs1
    have HB1 : Hid (Below w.heap.size w w1) := below_more ((below1 w _).alloc (by simp) _) hb1
    have HM1 : Hid (w1.heap[w.heap.size]? = some (.cells #[.int .i64 most] 3 (0, 0))) := heap_lowT hb1 (by simp; omega) ((Below.heap_alloc _ _ _ (by simp)).trans (heap_alloc_new w _))
    have HRR : Hid (w1.heap[w.heap.size + 1]? = some (.cells #[.bool false] 4 (0, 0))) := heap_lowT hb1 (by simp) (by
      have := heap_alloc_new (w.alloc (.cells #[.int .i64 most] 3)) (.cells #[.bool false] 4)
      rwa [World.size_alloc] at this)
    clear hb1
    gi_wp2_with fail
    refine ⟨trivial, (callsIn_wide.2 (w_Seq s _)).mono ?_⟩
    rintro e w2 ⟨rfl, hw2⟩
    have HS : Hid (SqAt l w w2 w1.heap.size N sc 0 so most) := by
      rw [hw2]
      have hba := (below1 w1 (.cells #[.slice so N sc] 22)).alloc (by simp) (.cells #[.int .i64 0] 23)
      refine ⟨below_more HB1.out hba, by omega, heap_lowT hba (by omega) HM1.out, heap_lowT hba (by omega) HRR.out, (Below.heap_alloc _ _ _ (by simp)).trans (heap_alloc_new w1 _), ?_, HN.out.symm, T1.out.keep hba, c1, HErr.out⟩
      have := heap_alloc_new (w1.alloc (.cells #[.slice so N sc] 22)) (.cells #[.int .i64 0] 23)
      rwa [World.size_alloc] at this
    clear hw2 HB1 HM1 HRR T1 HErr
    have hnil := run_seqNil4 s
    gi_wp2_with fail
    refine wpIn_loop_rounds 3 ?_
    rw [roundsIn_succ]
    gi_wp2_with fail
    clear hnil
    obtain ⟨v0, hv⟩ : ∃ v, w2.alloc (.cells #[.int .i64 0] 3) = v := ⟨_, rfl⟩
    have hvs : v0.heap.size = w2.heap.size + 1 := by rw [← hv]; simp
    have HVB0 : Hid (Below w2.heap.size w2 v0) := by rw [← hv]; exact below1 w2 _
    have HVR0 : Hid (v0.heap[w2.heap.size]? = some (.cells #[.int .i64 0] 3 (0, 0))) := by show _ = _; rw [← hv]; exact heap_alloc_new w2 _
    have HVS0 := Hid.mk hvs
    have hz0 : (v0.alloc (.cells #[.int .i64 0] 3)).heap.size = w2.heap.size + 2 := by simp [hvs]
    have HA0 : Hid ((v0.alloc (.cells #[.int .i64 0] 3)).heap[w2.heap.size + 1]? = some (.cells #[.int .i64 0] 3 (0, 0))) := by
      have := heap_alloc_new v0 (.cells #[.int .i64 0] 3)
      rw [hvs] at this
      exact this
    have hbU := HS.out.below.size
    have hlo := HS.out.lo
    have hgU := (Array.getElem?_eq_some_iff.1 HS.out.cE).1
    have HEV : Hid (ErrIn (v0.alloc (.cells #[.int .i64 0] 3))) := HE.out.keep ((HS.out.below.trans (HVB0.out.mono hbU)).alloc (by omega) _)
    rw [hv]
    clear hv
    refine rf_block (M := fun D W => D = w2.heap.size + 2 ∧ W.heap[D]? = some (.deferred (some [])) ∧ Below w2.heap.size w2 W ∧ ∃ k : Nat, W.heap[w2.heap.size + 1]? = some (.cells #[.int .i64 (k : Int)] 3 (0, 0)) ∧ W.heap[w2.heap.size]? = some (.cells #[.int .i64 0] 3 (0, 0)) ∧ (k = N ∨ (k : Int) = most)) ?_ ?_
    · refine wpIn_range_any (α := Tok) (by omega) (gf := 14) (s := .string s) rfl (enters_of Tryd.func14 (by kernel_rfl) rfl) (encs := encT) (fun _ => rfl) (Kp := KpT (fun b => b = w2.heap.size + 1) (w2.heap.size + 1)) (S := fun xs => xs = allY s.data.toList) (Sp := fun pre => pre <+: allY s.data.toList) (N := s.size + 1)
        (fun J Jx W hW hJ hJx hY h0 => cut_inS (fun b => b = w2.heap.size + 1) (9 - 1) (by omega) _ (w2.heap.size + 1) s (by omega) _ (by unfold rowAt; rw [cell_of_row _ _ 0 _ _ _ HA0.out]; rfl) (by rw [hz0]; omega) (fun b hb => by rw [hz0, hb]; omega) HEV.out (by have := HEl.out; omega) (by have := HEl.out; rw [hz0]; omega) J Jx W hW hJ hJx hY h0)
        (fun h k => h.trans k) (fun W r r' hb => KpT.put (w := v0.alloc (.cells #[.int .i64 0] 3)) (by rw [hz0]; omega) W _ _ _ (by omega) hb.book rfl rfl)
        (SqI v0 (w2.heap.size + 1)) (SqX v0 (w2.heap.size + 1) most 2) (SqI.own (by rw [hz0]; omega) (by rw [hvs]; exact Nat.le_refl _)) (SqX.own (by rw [hz0]; omega) (by rw [hvs]; exact Nat.le_refl _)) ⟨HA0.out, (Below.refl _ _).alloc (by rw [hvs]; exact Nat.le_refl _) _⟩
        (fun x a' W => ∃ Bx, TBox W Bx x ∧ a' = { tmps := #[Value.string s, Value.int IntKind.i64 most, undef, Value.pointer (some { block := w.heap.size, off := 0 }), Value.pointer (some { block := w.heap.size + 1, off := 0 }), Value.pointer (some { block := w1.heap.size, off := 0 }), Value.pointer (some { block := w1.heap.size + 1, off := 0 }), Value.int IntKind.i64 0, Value.func (Fn.func 14) #[Value.string s] #[], Value.pointer (some { block := w2.heap.size, off := 0 }), Value.pointer (some { block := w2.heap.size + 1, off := 0 }), Value.pointer (some ⟨Bx, 0, none⟩), Value.int IntKind.i64 (x.err : Int), Value.tuple #[Value.slice so N sc, Value.int IntKind.i64 0, Value.int IntKind.i64 0], Value.string s, Value.tuple #[Value.slice so N sc, Value.int IntKind.i64 0, Value.int IntKind.i64 0], Value.slice so N sc, Value.int IntKind.i64 0, Value.int IntKind.i64 0, Value.int IntKind.i64 0, Value.bool false, undef, undef, undef, undef, undef, Value.string s, Value.func (Fn.func 14) #[Value.string s] #[], Value.func (Fn.func 14) #[Value.string s] #[], Value.bool false, Value.int IntKind.i64 0, Value.bool true, undef, undef, Value.func (Fn.func 14) #[Value.string s] #[], tokV x, Value.int IntKind.i64 (x.err : Int), undef, undef, undef, undef, undef, undef, undef, undef, undef, undef, undef, undef, undef, undef, undef, undef, undef, undef, undef, undef, undef, undef, undef, undef, undef, undef, undef, undef, undef, undef, undef, undef, undef, undef, undef, undef, undef, undef, undef, undef, undef, undef, undef, undef, undef, undef, undef, undef, undef, undef, undef, undef, undef, undef, undef, undef, undef, undef, undef], defers := [] })
        (fun x a' _ X Y row hs hg hr => by
          obtain ⟨Bx, h1, h2⟩ := hs
          exact ⟨Bx, cells_own hg hr h1, h2⟩)
        ?assign0 ?body0 ?done0 ?stop0
      case assign0 =>
        rintro pre x W KK ⟨hA, hB⟩ hKK
        have hBl := (Array.getElem?_eq_some_iff.1 hA).1
        obtain ⟨kd, pa, fi, tx, er⟩ := x
        have FIN := hKK _ _ ((KeepsOthers.alloc W (.cells #[.int .i64 (kd : Int), .int .i64 (pa : Int), .int .i64 (fi : Int), .string ⟨tx.toArray⟩] 27)).from _) (kpT_below hBl (below1 W _)) ⟨heap_lowT (below1 W _) hBl hA, hB.alloc (Nat.le_of_lt hBl) _⟩ ⟨W.heap.size, heap_alloc_new W _, rfl⟩
        unfold encT
        unfold tokV at FIN ⊢
        dsimp only at FIN ⊢
        have HF := Hid.mk FIN
        clear FIN hKK hA hB hvs hbU hlo hgU hBl
        gi_wp2_with fail
        exact HF.out
      case body0 =>
        rintro pre x a' W ⟨hA, hB⟩ ⟨Bx, hX, rfl⟩ hlt hSp
        rw [← HLL.out] at hSp
        have hbW : Below w2.heap.size w2 W := HVB0.out.trans (hB.mono (Nat.le_succ _))
        have HSW := Hid.mk (HS.out.keep hbW)
        have hrd : W.heap[w2.heap.size]? = some (.cells #[.int .i64 0] 3 (0, 0)) := (hB.block w2.heap.size (Nat.lt_succ_self _)).trans HVR0.out
        obtain ⟨hj, hjx⟩ := pre_at hSp
        have hjN : pre.length < N := by rw [← HS.out.len]; exact hj
        obtain ⟨g, off, hso, hg, a0, a1, a2, a3⟩ := HSW.out.row pre.length hj
        have herr := HSW.out.err
        have hok := herr.ok hj
        have hbad := herr.bad hj
        rw [hjx] at a0 a1 a2 a3 hok hbad
        rw [HS.out.len] at hok hbad
        have HB0 : Hid (SqB W (w2.heap.size + 1) w2.heap.size w.heap.size w1.heap.size Bx (pre.length : Int) 0 most so N sc 0 x) := ⟨hA, hrd, HSW.out.cM, HSW.out.cW, HSW.out.cE, hX⟩
        have HBW := Hid.mk (And.intro hA hB)
        obtain ⟨q1, q2, q3, q4, q5, q6⟩ := HB0.out.cells
        obtain ⟨x0, x1, x2, x3, _⟩ := tbox_cells hX
        have hscN := HSW.out.cap
        have HST := Hid.mk (fun u => w_SameToken x u)
        have HFIN : Hid (∀ (W2 : World) (z : Int), Below W.heap.size W W2 → z = (pre.length : Int) + 1 → KeepsFrom (w2.heap.size + 2) W (W2.setCell ⟨w2.heap.size + 1, 0, none⟩ (.int .i64 z)) ∧ KpT (fun b => b = w2.heap.size + 1) (w2.heap.size + 1) W (W2.setCell ⟨w2.heap.size + 1, 0, none⟩ (.int .i64 z)) ∧ SqI v0 (w2.heap.size + 1) (pre ++ [x]) (W2.setCell ⟨w2.heap.size + 1, 0, none⟩ (.int .i64 z))) := by
          intro W2 z h2 hz
          have hA2 := heap_lowT h2 (Array.getElem?_eq_some_iff.1 hA).1 hA
          have hAl := (Array.getElem?_eq_some_iff.1 hA).1
          refine ⟨⟨?_, fun k o hBk hk ho => ?_⟩, kpT_at hA rfl h2 rfl, ?_, ?_⟩
          · rw [World.size_setCell]; exact h2.size
          · exact (Below.heap_setCell _ _ _ _ (by show k ≠ w2.heap.size + 1; omega)).trans (heap_lowT h2 (Array.getElem?_eq_some_iff.1 hk).1 hk)
          · rw [box_set1 _ hA2, List.length_append, hz]; rfl
          · exact (hB.trans (h2.mono (Nat.le_of_lt hAl))).setCell (p := ⟨w2.heap.size + 1, 0, none⟩) (Nat.le_refl _) _
        subst hso
        clear hA hB hX hrd hbW hj hjx herr hSp
        generalize hJ : pre.length = j at *
        have HJ := Hid.mk hJ
        clear hJ
        have g1 : (j : Int) < (N : Int) := by omega
        have g2 : decide ((N : Int) ≤ (j : Int)) = false := decide_eq_false (by omega)
        have g3 : decide (N ≤ j) = false := decide_eq_false (by omega)
        have g0 : (0 : Int) ≤ (j : Int) := by omega
        have HOK := Hid.mk hok
        have HBAD := Hid.mk hbad
        clear hok hbad
        obtain ⟨kd, pa, fi, tx, er⟩ := x
        unfold tokV at HST ⊢
        dsimp only at x0 x1 x2 x3 a0 a1 a2 a3 HST ⊢
        have hmx : Tryd.prog.follows .mixedOrders = true := by kernel_rfl
        gi_wp2_with fail
        gi_cut [49] from 37 (fun v wx => v = .bool false ∧ Hid (Below W.heap.size W wx))
        case first =>
          gi_region_with_o (refine ⟨trivial, ?_⟩; gi_at_call 7; refine (CallsIn.inRound _ (callsIn_wide.2 (HST.out _))).mono ?_; rintro e w' ⟨rfl, hbw⟩; have HBB := Hid.mk (((Below.refl W.heap.size W).drew).trans hbw))
          all_goals
            gi_wp2_with fail
            gi_meet
            exact ⟨rfl, HBB⟩
        case rest =>
          obtain ⟨rfl, HWX⟩ := hcut
          clear q1 q2 q3 q4 q5 q6 x0 x1 x2 x3 a0 a1 a2 a3 hmx
          have HB1 := Hid.mk (HB0.out.keep HWX.out)
          obtain ⟨r1, r2, r3, r4, r5, r6⟩ := HB1.out.cells
          clear g2 g3
          have hjj : (j : Int) ≤ 4294967296 := by have := HNs.out; omega
          have hNb : (N : Int) ≤ 1048576 := by have := HNs.out; omega
          have hNp : (1 : Int) ≤ (N : Int) := by omega
          have her : er = 0 := Classical.byContradiction fun h => h (HBAD.out h).2.symm
          subst her
          by_cases hjl : j + 1 = N
          · have l1 : ((j : Int) == (N : Int) - 1) = true := by rw [beq_iff_eq]; omega
            clear hjl
            by_cases hm : (j : Int) + 1 = most
            · have m1 : ((j : Int) + 1 == most) = true := by rw [beq_iff_eq]; exact hm
              have HHM := Hid.mk hm
              clear hm
              gi_wp2_with fail
              have hf := HFIN.out _ _ HWX.out rfl
              exact ⟨hf.1, rfl, by rw [List.length_append, HJ.out]; show ((j + 1 : Nat) : Int) = most; have := HHM.out; omega, hf.2.2⟩
            · have m1 : ((j : Int) + 1 == most) = false := by rw [beq_eq_false_iff_ne]; exact hm
              clear hm
              gi_wp2_with fail
              exact HFIN.out _ _ HWX.out rfl
          · have l1 : ((j : Int) == (N : Int) - 1) = false := by rw [beq_eq_false_iff_ne]; omega
            clear hjl
            by_cases hm : (j : Int) + 1 = most
            · have m1 : ((j : Int) + 1 == most) = true := by rw [beq_iff_eq]; exact hm
              have HHM := Hid.mk hm
              clear hm
              gi_wp2_with fail
              have hf := HFIN.out _ _ HWX.out rfl
              exact ⟨hf.1, rfl, by rw [List.length_append, HJ.out]; show ((j + 1 : Nat) : Int) = most; have := HHM.out; omega, hf.2.2⟩
            · have m1 : ((j : Int) + 1 == most) = false := by rw [beq_eq_false_iff_ne]; exact hm
              clear hm
              gi_wp2_with fail
              exact HFIN.out _ _ HWX.out rfl

      case done0 =>
        rintro xs W rfl ⟨hA, hB⟩ hK
        exact ⟨.inl rfl, _, rfl, hz0, hK, HVB0.out.trans (hB.mono (Nat.le_succ _)), _, hA, (hB.block w2.heap.size (Nat.lt_succ_self _)).trans HVR0.out, .inl (by rw [← HLL.out]; exact HS.out.len)⟩
      case stop0 =>
        rintro c pre W hSp ⟨rfl, hm, hA, hB⟩ hK
        exact wpIn_exit ⟨.inr rfl, _, rfl, hz0, hK, HVB0.out.trans (hB.mono (Nat.le_succ _)), _, hA, (hB.block w2.heap.size (Nat.lt_succ_self _)).trans HVR0.out, .inr hm⟩
    rintro D w5 ⟨rfl, hKD, hbW, k, hAk, hrk, hk⟩
    have HS5 := Hid.mk (HS.out.keep hbW)
    have HKD0 := Hid.mk hKD
    have HLD0 : Hid (w2.heap.size + 2 < w5.heap.size) := (Array.getElem?_eq_some_iff.1 hKD).1
    have HUW0 := Hid.mk hbW
    have p1 := cell_of_row _ _ 0 _ _ _ hAk
    have p2 := cell_of_row _ _ 0 _ _ _ hrk
    have p3 := cell_of_row _ _ 0 _ _ _ HS5.out.cW
    have p4 := cell_of_row _ _ 0 _ _ _ HS5.out.cM
    simp only [List.getElem?_toArray, List.getElem?_cons_zero] at p1 p2 p3 p4
    clear hKD hbW hvs hz0 hbU hlo hgU HA0 HEV
    gi_upto_region 20 with fail
    gi_cut [93] from 80 (fun v wx => v = .bool false ∧ wx = w5)
    case first =>
      by_cases hkn : k = N
      · have n1 : ((k : Int) == (N : Int)) = true := by rw [beq_iff_eq]; omega
        clear hkn hk
        gi_wp2_with fail
        all_goals
          gi_meet
          exact ⟨by first | rfl | simp [bne, n1], rfl⟩
      · have n1 : ((k : Int) == (N : Int)) = false := by rw [beq_eq_false_iff_ne]; omega
        have m1 : ((k : Int) == most) = true := by rw [beq_iff_eq]; rcases hk with h | h
                                                   · exact absurd h hkn
                                                   · exact h
        clear hkn hk
        gi_wp2_with fail
        all_goals
          gi_meet
          exact ⟨by first | rfl | simp [bne, n1, m1], rfl⟩
    case rest =>
    obtain ⟨rfl, hwc⟩ := hcut
    rw [hwc]
    clear hwc
    clear hk hAk hrk p1 p3 p4
    gi_wp2_with fail
    rw [roundsIn_succ]
    clear p2
    gi_wp2_with fail
    obtain ⟨v1, hv⟩ : ∃ v, w5.alloc (.cells #[.int .i64 1] 3) = v := ⟨_, rfl⟩
    have hvs : v1.heap.size = w5.heap.size + 1 := by rw [← hv]; simp
    have HVB1 : Hid (Below w5.heap.size w5 v1) := by rw [← hv]; exact below1 w5 _
    have HVR1 : Hid (v1.heap[w5.heap.size]? = some (.cells #[.int .i64 1] 3 (0, 0))) := by show _ = _; rw [← hv]; exact heap_alloc_new w5 _
    have HVS1 := Hid.mk hvs
    have hz1 : (v1.alloc (.cells #[.int .i64 0] 3)).heap.size = w5.heap.size + 2 := by simp [hvs]
    have HA0 : Hid ((v1.alloc (.cells #[.int .i64 0] 3)).heap[w5.heap.size + 1]? = some (.cells #[.int .i64 0] 3 (0, 0))) := by
      have := heap_alloc_new v1 (.cells #[.int .i64 0] 3)
      rw [hvs] at this
      exact this
    have hbU := HS5.out.below.size
    have hlo := HS5.out.lo
    have hgU := (Array.getElem?_eq_some_iff.1 HS5.out.cE).1
    have HEV : Hid (ErrIn (v1.alloc (.cells #[.int .i64 0] 3))) := HE.out.keep ((HS5.out.below.trans (HVB1.out.mono hbU)).alloc (by omega) _)
    rw [hv]
    clear hv
    refine rf_block (M := fun D W => D = w5.heap.size + 2 ∧ W.heap[D]? = some (.deferred (some [])) ∧ Below w5.heap.size w5 W ∧ ∃ k : Nat, W.heap[w5.heap.size + 1]? = some (.cells #[.int .i64 (k : Int)] 3 (0, 0)) ∧ W.heap[w5.heap.size]? = some (.cells #[.int .i64 1] 3 (0, 0)) ∧ (k = N ∨ False)) ?_ ?_
    · refine wpIn_range_any (α := Tok) (by omega) (gf := 14) (s := .string s) rfl (enters_of Tryd.func14 (by kernel_rfl) rfl) (encs := encT) (fun _ => rfl) (Kp := KpT (fun b => b = w5.heap.size + 1) (w5.heap.size + 1)) (S := fun xs => xs = allY s.data.toList) (Sp := fun pre => pre <+: allY s.data.toList) (N := s.size + 1)
        (fun J Jx W hW hJ hJx hY h0 => cut_inS (fun b => b = w5.heap.size + 1) (9 - 1) (by omega) _ (w5.heap.size + 1) s (by omega) _ (by unfold rowAt; rw [cell_of_row _ _ 0 _ _ _ HA0.out]; rfl) (by rw [hz1]; omega) (fun b hb => by rw [hz1, hb]; omega) HEV.out (by have := HEl.out; omega) (by have := HEl.out; rw [hz1]; omega) J Jx W hW hJ hJx hY h0)
        (fun h k => h.trans k) (fun W r r' hb => KpT.put (w := v1.alloc (.cells #[.int .i64 0] 3)) (by rw [hz1]; omega) W _ _ _ (by omega) hb.book rfl rfl)
        (SqI v1 (w5.heap.size + 1)) (fun _ _ _ => False) (SqI.own (by rw [hz1]; omega) (by rw [hvs]; exact Nat.le_refl _)) (fun c xs A A2 row h hg hr => h) ⟨HA0.out, (Below.refl _ _).alloc (by rw [hvs]; exact Nat.le_refl _) _⟩
        (fun x a' W => ∃ Bx, TBox W Bx x ∧ a' = { tmps := #[Value.string s, Value.int IntKind.i64 most, undef, Value.pointer (some { block := w.heap.size, off := 0 }), Value.pointer (some { block := w.heap.size + 1, off := 0 }), Value.pointer (some { block := w1.heap.size, off := 0 }), Value.pointer (some { block := w1.heap.size + 1, off := 0 }), Value.int IntKind.i64 0, Value.func (Fn.func 14) #[Value.string s] #[], Value.pointer (some { block := w5.heap.size, off := 0 }), Value.pointer (some { block := w5.heap.size + 1, off := 0 }), Value.pointer (some ⟨Bx, 0, none⟩), Value.int IntKind.i64 (x.err : Int), Value.tuple #[Value.slice so N sc, Value.int IntKind.i64 0, Value.int IntKind.i64 0], Value.string s, Value.tuple #[Value.slice so N sc, Value.int IntKind.i64 0, Value.int IntKind.i64 0], Value.slice so N sc, Value.int IntKind.i64 0, Value.int IntKind.i64 0, Value.int IntKind.i64 0, Value.bool false, undef, undef, undef, undef, undef, Value.string s, Value.func (Fn.func 14) #[Value.string s] #[], Value.func (Fn.func 14) #[Value.string s] #[], Value.bool false, Value.int IntKind.i64 1, Value.bool true, Value.int IntKind.i64 0, Value.int IntKind.i64 1, Value.func (Fn.func 14) #[Value.string s] #[], tokV x, Value.int IntKind.i64 (x.err : Int), undef, undef, undef, undef, undef, undef, undef, undef, undef, undef, undef, undef, undef, undef, undef, undef, undef, undef, undef, undef, undef, undef, undef, undef, undef, undef, undef, undef, undef, undef, undef, undef, undef, undef, undef, undef, undef, undef, undef, undef, undef, undef, undef, u80, u81, u82, u83, u84, u85, u86, u87, u88, u89, u90, u91, u92, Value.bool false, Value.int IntKind.i64 0, u95], defers := [] })
        (fun x a' _ X Y row hs hg hr => by
          obtain ⟨Bx, h1, h2⟩ := hs
          exact ⟨Bx, cells_own hg hr h1, h2⟩)
        ?assign1 ?body1 ?done1 ?stop1
      case assign1 =>
        rintro pre x W KK ⟨hA, hB⟩ hKK
        have hBl := (Array.getElem?_eq_some_iff.1 hA).1
        obtain ⟨kd, pa, fi, tx, er⟩ := x
        have FIN := hKK _ _ ((KeepsOthers.alloc W (.cells #[.int .i64 (kd : Int), .int .i64 (pa : Int), .int .i64 (fi : Int), .string ⟨tx.toArray⟩] 27)).from _) (kpT_below hBl (below1 W _)) ⟨heap_lowT (below1 W _) hBl hA, hB.alloc (Nat.le_of_lt hBl) _⟩ ⟨W.heap.size, heap_alloc_new W _, rfl⟩
        unfold encT
        unfold tokV at FIN ⊢
        dsimp only at FIN ⊢
        have HF := Hid.mk FIN
        clear FIN hKK hA hB hvs hbU hlo hgU hBl
        gi_wp2_with fail
        exact HF.out
      case body1 =>
        rintro pre x a' W ⟨hA, hB⟩ ⟨Bx, hX, rfl⟩ hlt hSp
        rw [← HLL.out] at hSp
        have hbW : Below w5.heap.size w5 W := HVB1.out.trans (hB.mono (Nat.le_succ _))
        have HSW := Hid.mk (HS5.out.keep hbW)
        have hrd : W.heap[w5.heap.size]? = some (.cells #[.int .i64 1] 3 (0, 0)) := (hB.block w5.heap.size (Nat.lt_succ_self _)).trans HVR1.out
        obtain ⟨hj, hjx⟩ := pre_at hSp
        have hjN : pre.length < N := by rw [← HS5.out.len]; exact hj
        obtain ⟨g, off, hso, hg, a0, a1, a2, a3⟩ := HSW.out.row pre.length hj
        have herr := HSW.out.err
        have hok := herr.ok hj
        have hbad := herr.bad hj
        rw [hjx] at a0 a1 a2 a3 hok hbad
        rw [HS5.out.len] at hok hbad
        have HB0 : Hid (SqB W (w5.heap.size + 1) w5.heap.size w.heap.size w1.heap.size Bx (pre.length : Int) 1 most so N sc 0 x) := ⟨hA, hrd, HSW.out.cM, HSW.out.cW, HSW.out.cE, hX⟩
        have HBW := Hid.mk (And.intro hA hB)
        obtain ⟨q1, q2, q3, q4, q5, q6⟩ := HB0.out.cells
        obtain ⟨x0, x1, x2, x3, _⟩ := tbox_cells hX
        have hscN := HSW.out.cap
        have HST := Hid.mk (fun u => w_SameToken x u)
        have HFIN : Hid (∀ (W2 : World) (z : Int), Below W.heap.size W W2 → z = (pre.length : Int) + 1 → KeepsFrom (w5.heap.size + 2) W (W2.setCell ⟨w5.heap.size + 1, 0, none⟩ (.int .i64 z)) ∧ KpT (fun b => b = w5.heap.size + 1) (w5.heap.size + 1) W (W2.setCell ⟨w5.heap.size + 1, 0, none⟩ (.int .i64 z)) ∧ SqI v1 (w5.heap.size + 1) (pre ++ [x]) (W2.setCell ⟨w5.heap.size + 1, 0, none⟩ (.int .i64 z))) := by
          intro W2 z h2 hz
          have hA2 := heap_lowT h2 (Array.getElem?_eq_some_iff.1 hA).1 hA
          have hAl := (Array.getElem?_eq_some_iff.1 hA).1
          refine ⟨⟨?_, fun k o hBk hk ho => ?_⟩, kpT_at hA rfl h2 rfl, ?_, ?_⟩
          · rw [World.size_setCell]; exact h2.size
          · exact (Below.heap_setCell _ _ _ _ (by show k ≠ w5.heap.size + 1; omega)).trans (heap_lowT h2 (Array.getElem?_eq_some_iff.1 hk).1 hk)
          · rw [box_set1 _ hA2, List.length_append, hz]; rfl
          · exact (hB.trans (h2.mono (Nat.le_of_lt hAl))).setCell (p := ⟨w5.heap.size + 1, 0, none⟩) (Nat.le_refl _) _
        subst hso
        clear hA hB hX hrd hbW hj hjx herr hSp
        generalize hJ : pre.length = j at *
        have HJ := Hid.mk hJ
        clear hJ
        have g1 : (j : Int) < (N : Int) := by omega
        have g2 : decide ((N : Int) ≤ (j : Int)) = false := decide_eq_false (by omega)
        have g3 : decide (N ≤ j) = false := decide_eq_false (by omega)
        have g0 : (0 : Int) ≤ (j : Int) := by omega
        have HOK := Hid.mk hok
        have HBAD := Hid.mk hbad
        clear hok hbad
        obtain ⟨kd, pa, fi, tx, er⟩ := x
        unfold tokV at HST ⊢
        dsimp only at x0 x1 x2 x3 a0 a1 a2 a3 HST ⊢
        have hmx : Tryd.prog.follows .mixedOrders = true := by kernel_rfl
        gi_wp2_with fail
        gi_cut [49] from 37 (fun v wx => v = .bool false ∧ Hid (Below W.heap.size W wx))
        case first =>
          gi_region_with_o (refine ⟨trivial, ?_⟩; gi_at_call 7; refine (CallsIn.inRound _ (callsIn_wide.2 (HST.out _))).mono ?_; rintro e w' ⟨rfl, hbw⟩; have HBB := Hid.mk (((Below.refl W.heap.size W).drew).trans hbw))
          all_goals
            gi_wp2_with fail
            gi_meet
            exact ⟨rfl, HBB⟩
        case rest =>
          obtain ⟨rfl, HWX⟩ := hcut
          clear q1 q2 q3 q4 q5 q6 x0 x1 x2 x3 a0 a1 a2 a3 hmx
          have HB1 := Hid.mk (HB0.out.keep HWX.out)
          obtain ⟨r1, r2, r3, r4, r5, r6⟩ := HB1.out.cells
          clear g2 g3
          have hjj : (j : Int) ≤ 4294967296 := by have := HNs.out; omega
          have hNb : (N : Int) ≤ 1048576 := by have := HNs.out; omega
          have hNp : (1 : Int) ≤ (N : Int) := by omega
          have her : er = 0 := Classical.byContradiction fun h => h (HBAD.out h).2.symm
          subst her
          by_cases hjl : j + 1 = N
          · have l1 : ((j : Int) == (N : Int) - 1) = true := by rw [beq_iff_eq]; omega
            clear hjl
            gi_wp2_with fail
            exact HFIN.out _ _ HWX.out rfl
          · have l1 : ((j : Int) == (N : Int) - 1) = false := by rw [beq_eq_false_iff_ne]; omega
            clear hjl
            gi_wp2_with fail
            exact HFIN.out _ _ HWX.out rfl

      case done1 =>
        rintro xs W rfl ⟨hA, hB⟩ hK
        exact ⟨.inl rfl, _, rfl, hz1, hK, HVB1.out.trans (hB.mono (Nat.le_succ _)), _, hA, (hB.block w5.heap.size (Nat.lt_succ_self _)).trans HVR1.out, .inl (by rw [← HLL.out]; exact HS5.out.len)⟩
      case stop1 =>
        rintro c pre W hSp hf hK
        exact hf.elim
    rintro D w6 ⟨rfl, hKD, hbW, k, hAk, hrk, hk⟩
    have HS6 := Hid.mk (HS5.out.keep hbW)
    have HKD1 := Hid.mk hKD
    have HLD1 : Hid (w5.heap.size + 2 < w6.heap.size) := (Array.getElem?_eq_some_iff.1 hKD).1
    have HUW1 := Hid.mk hbW
    have p1 := cell_of_row _ _ 0 _ _ _ hAk
    have p2 := cell_of_row _ _ 0 _ _ _ hrk
    have p3 := cell_of_row _ _ 0 _ _ _ HS6.out.cW
    have p4 := cell_of_row _ _ 0 _ _ _ HS6.out.cM
    simp only [List.getElem?_toArray, List.getElem?_cons_zero] at p1 p2 p3 p4
    clear hKD hbW hvs hz1 hbU hlo hgU HA0 HEV
    obtain rfl : k = N := by rcases hk with h | h
                             · exact h
                             · exact h.elim
    clear hk hAk hrk p4
    gi_wp2_with fail
    rw [roundsIn_succ]
    clear p1 p2 p3
    gi_wp2_with fail
    have HE6 : Hid (ErrIn (w6.alloc (.cells #[.int .i64 2] 3))) := HE.out.keep (HS6.out.below.alloc HS6.out.below.size _)
    refine ⟨trivial, (callsIn_wide.2 (w_lTokenKnown _ HE6.out)).mono ?_⟩
    rintro e w7 ⟨rfl, hb7⟩
    have hb67 : Below w6.heap.size w6 w7 := (below1 w6 _).trans (hb7.mono (by simp))
    have HS7 := Hid.mk (HS6.out.keep hb67)
    have HE7 : Hid (w7.heap[w5.heap.size + 2]? = some (.deferred (some []))) := heap_lowT hb67 HLD1.out HKD1.out
    have HD7 : Hid (w7.heap[w2.heap.size + 2]? = some (.deferred (some []))) := heap_lowT hb67 (Nat.lt_of_lt_of_le HLD0.out HUW1.out.size) (heap_lowT HUW1.out HLD0.out HKD0.out)
    have cR := cell_of_row _ _ 0 _ _ _ HS7.out.cR
    have fR := frozen_rowT (j := 0) HS7.out.cR
    simp only [List.getElem?_toArray, List.getElem?_cons_zero] at cR
    have hl0 := HS.out.lo
    have hl1 := (Array.getElem?_eq_some_iff.1 HS.out.cE).1
    have hl2 := HLD0.out
    have HNE : Hid (w.heap.size + 1 < w2.heap.size ∧ w2.heap.size + 2 < w5.heap.size) := ⟨by omega, hl2⟩
    clear hb7 hb67 hl0 hl1 hl2
    gi_wp2_with fail
    obtain ⟨hl0, hl1⟩ := HNE.out
    have hE' : (w7.setCell ⟨w.heap.size + 1, 0, none⟩ (.bool true)).heap[w5.heap.size + 2]? = some (.deferred (some [])) := (Below.heap_setCell _ _ _ _ (by show w5.heap.size + 2 ≠ w.heap.size + 1; omega)).trans HE7.out
    have hD' : ((w7.setCell ⟨w.heap.size + 1, 0, none⟩ (.bool true)).putObj (w5.heap.size + 2) (.deferred none)).heap[w2.heap.size + 2]? = some (.deferred (some [])) := (World.putObj_heap_other (by omega)).trans ((Below.heap_setCell _ _ _ _ (by show w2.heap.size + 2 ≠ w.heap.size + 1; omega)).trans HD7.out)
    refine ⟨by simp, .inl ⟨_, _, rfl, run_takeDeferred hE', by simp, .inl ⟨_, _, rfl, run_takeDeferred hD', ?_⟩⟩⟩
    have hc := cell_kept (World.cell?_setCell_same w7 ⟨w.heap.size + 1, 0, none⟩ (.bool true) cR) (grownBy_putObj' _ (w5.heap.size + 2) (.deferred none)) (fun r e => by cases e; exact ⟨_, hE', rfl⟩)
    have hc2 := cell_kept hc (grownBy_putObj' _ (w2.heap.size + 2) (.deferred none)) (fun r e => by cases e; exact ⟨_, hD', rfl⟩)
    refine ⟨.bool true, ?_, rfl, ((HS7.out.below.setCell (p := ⟨w.heap.size + 1, 0, none⟩) (by show _ ≤ w.heap.size + 1; omega) _).trans (belowK_b (w := w) (Nat.le_refl _) _ (w5.heap.size + 2) _ _ (by omega) hE' rfl rfl)).trans (belowK_b (w := w) (Nat.le_refl _) _ (w2.heap.size + 2) _ _ (by omega) hD' rfl rfl)⟩
    simp [results, Tryd.results3, go_sem, hc2]

  · exact absurd (HC.out x (by rw [hpx]; simp)) hx

end Go.Proofs.YtdehejadiofomaaDoor
