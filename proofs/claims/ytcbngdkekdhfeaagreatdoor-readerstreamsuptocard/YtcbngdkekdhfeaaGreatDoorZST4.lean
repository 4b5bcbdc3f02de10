import Derived.Test.YtcbngdkekdhfeaaGreatDoorZST3
import Derived.Sort.CutIn
namespace Go.Proofs.YtcbngdkekdhfeaaGreatDoor
open Go.RowKit Go.Shelf
set_option linter.unusedVariables false
set_option linter.unusedSimpArgs false
attribute [local go_sem] Oper.semAt_some

set_option maxRecDepth 100000 in
set_option maxHeartbeats 6400000 in
theorem w_ReaderStreams (s : ByteArray) (stop : Int) (w : World) (ss : s.size ≤ 1048576) (hE : ErrIn w) : Calls Tryz.prog 4 #[.string s, .int .i64 stop] w fun e w' => Below w.heap.size w w' ∧ e = .returned (.bool true) := by
  have HE := Hid.mk hE
  have HFx := Hid.mk (fun u (hu : ErrIn u) => w_fixed5 u hu)
  have gE : 3 < w.heap.size := by
    obtain ⟨ev, hc, _⟩ := hE
    exact World.block_lt_of_cell? w _ hc
  have HEl := Hid.mk gE
  have hle := eachL_len s (vL s) (vL_up (by omega)) (s.size + 1) [] 0 (Nat.zero_le _) (Nat.zero_le _)
  obtain ⟨xs, hxs⟩ : ∃ xs, (eachL s.data.toList (vL s) (s.size + 1) [] 0).1 = xs := ⟨_, rfl⟩
  rw [hxs] at hle
  have HLe := Hid.mk hle
  have HXS := Hid.mk hxs
  have HA := Hid.mk (fun u => w_5ManyS s ss xs hxs u)
  clear hxs hE hle gE
  refine (callsIn_wide (n := 9)).1 ?_
  refine callsIn_of_wp_marks Tryz.func4 rfl trivial ?_ rfl
  simp only [Tryz.ntmps4, List.size_toArray, List.length_cons, List.length_nil, Nat.reduceAdd, Nat.reduceSub, Array.replicate_succ, Array.replicate_zero, List.push_toArray, List.append_toArray, List.nil_append, List.cons_append]
  gi_wp2_with fail
  refine ⟨trivial, (callsIn_wide.2 (HFx.out _ (HE.out.keep ((below1 w _).alloc (by simp) _)))).mono ?_⟩
  rintro e w0 ⟨hb0, rfl⟩
  have hs0 := hb0.size
  simp at hs0
  have HB0 : Hid (Below w.heap.size w w0) := below_more ((below1 w _).alloc (by simp) _) hb0
  have HM0 : Hid (w0.heap[w.heap.size]? = some (.cells #[.int .i64 stop] 3 (0, 0))) := heap_lowT hb0 (by simp; omega) ((Below.heap_alloc _ _ _ (by simp)).trans (heap_alloc_new w _))
  have HRR0 : Hid (w0.heap[w.heap.size + 1]? = some (.cells #[.bool false] 4 (0, 0))) := heap_lowT hb0 (by simp) (by
    have := heap_alloc_new (w.alloc (.cells #[.int .i64 stop] 3)) (.cells #[.bool false] 4)
    rwa [World.size_alloc] at this)
  clear hb0
  gi_wp2_with fail
  refine ⟨trivial, (callsIn_wide.2 (HA.out _)).mono ?_⟩
  rintro e w1 ⟨hb1, tv0, tv1, tv2, so, N, sc, rfl, hrow, hlen, hcap⟩
  have hs1 := hb1.size
  have HB1 : Hid (Below w.heap.size w w1) := below_more HB0.out hb1
  have HM1 : Hid (w1.heap[w.heap.size]? = some (.cells #[.int .i64 stop] 3 (0, 0))) := heap_lowT hb1 (by omega) HM0.out
  have HRR : Hid (w1.heap[w.heap.size + 1]? = some (.cells #[.bool false] 4 (0, 0))) := heap_lowT hb1 (by omega) HRR0.out
  have T1 := Hid.mk hrow
  have HN := Hid.mk hlen
  have HNs : Hid (N ≤ 1048576) := by have := HLe.out; show _ ≤ _; omega
  clear hb1 hrow hlen HB0 HM0 HRR0 HA HFx
  gi_wp2_with fail
  refine ⟨trivial, (callsIn_wide.2 (w_Values s _)).mono ?_⟩
  rintro e w2 ⟨rfl, hw2⟩
  have HS : Hid (SmAt w w2 w1.heap.size N sc so stop xs s) := by
    rw [hw2]
    have hba := (below1 w1 (.cells #[.slice so N sc] 24)).alloc (by simp) (.cells #[.string s] 9)
    refine ⟨below_more HB1.out hba, by omega, heap_lowT hba (by omega) HM1.out, heap_lowT hba (by omega) HRR.out, (Below.heap_alloc _ _ _ (by simp)).trans (heap_alloc_new w1 _), ?_, HN.out, T1.out.keep hba, hcap⟩
    have := heap_alloc_new (w1.alloc (.cells #[.slice so N sc] 24)) (.cells #[.string s] 9)
    rwa [World.size_alloc] at this
  clear hw2 HB1 HM1 HRR T1
  have hnil := run_seqNilS
  gi_wp2_with fail
  refine wpIn_loop_rounds 4 ?_
  rw [roundsIn_succ]
  gi_wp2_with fail
  clear hnil
  obtain ⟨v0, hv⟩ : ∃ v, w2.alloc (.cells #[.int .i64 0] 3) = v := ⟨_, rfl⟩
  have hvs : v0.heap.size = w2.heap.size + 1 := by rw [← hv]; simp
  have HVB0 : Hid (Below w2.heap.size w2 v0) := by rw [← hv]; exact below1 w2 _
  have HVR0 : Hid (v0.heap[w2.heap.size]? = some (.cells #[.int .i64 0] 3 (0, 0))) := by show _ = _; rw [← hv]; exact heap_alloc_new w2 _
  have HVS0 := Hid.mk hvs
  have hz0 : (v0.alloc (.cells #[.int .i64 0] 3)).heap.size = w2.heap.size + 2 := by simp [hvs]
  have HZ0 := Hid.mk hz0
  have HA0 : Hid ((v0.alloc (.cells #[.int .i64 0] 3)).heap[w2.heap.size + 1]? = some (.cells #[.int .i64 0] 3 (0, 0))) := by
    have := heap_alloc_new v0 (.cells #[.int .i64 0] 3)
    rw [hvs] at this
    exact this
  have hbU := HS.out.below.size
  have hlo := HS.out.lo
  have hgU := (Array.getElem?_eq_some_iff.1 HS.out.cS).1
  have HbV : Hid (Below w2.heap.size w2 (v0.alloc (.cells #[.int .i64 0] 3))) := HVB0.out.alloc (by omega) _
  have HEV : Hid (ErrIn (v0.alloc (.cells #[.int .i64 0] 3))) := HE.out.keep (HS.out.below.trans (HbV.out.mono hbU))
  have HSV : Hid ((v0.alloc (.cells #[.int .i64 0] 3)).cell? ⟨w1.heap.size + 1, 0, none⟩ = some (.string s)) := by
    have := heap_lowT HbV.out hgU HS.out.cS
    show _ = _
    rw [cell_of_row _ _ 0 _ _ _ this]; rfl
  rw [hv]
  clear hv
  refine rf_blockS (M := fun D W => D = w2.heap.size + 2 ∧ W.heap[D]? = some (.deferred (some [])) ∧ Below w2.heap.size w2 W ∧ ∃ k : Nat, W.heap[w2.heap.size + 1]? = some (.cells #[.int .i64 (k : Int)] 3 (0, 0)) ∧ W.heap[w2.heap.size]? = some (.cells #[.int .i64 0] 3 (0, 0)) ∧ (k = N ∨ False)) ?_ ?_
  · refine wpIn_range_anyX (α := VT × Value) (by omega) (gf := 28) (s := .pointer (some ⟨w1.heap.size + 1, 0, none⟩)) rfl (enters_of Tryz.func28 (by kernel_rfl) rfl) (encs := fun x => #[x.2]) (fun _ => rfl) (Kp := KpV (w2.heap.size + 4)) (S := fun ys => ys.map (·.1) = (eachL s.data.toList (vL s) (s.size + 1) [] 0).1) (Sp := fun pre => pre.map (·.1) <+: (eachL s.data.toList (vL s) (s.size + 1) [] 0).1) (Vx := fun x W => InH W 65 x.1 x.2) (N := s.size + 1)
      (fun J Jx W hW hW2 hJ hJx hY h0 => values_in (9 - 1) (by omega) _ _ s (by omega) W (HEV.out.keep (hW.mono (Nat.le_refl _))) ((hW.cell (p := ⟨w1.heap.size + 1, 0, none⟩) (by rw [HZ0.out]; show w1.heap.size + 1 < _; omega)).trans HSV.out) J Jx hJ hJx (fun pre x W1 a1 a2 a3 a4 => yieldAt_any ((hY pre x W1 a1 a2 a3 a4).mono (fun e W' h => h.imp (fun h => ⟨h.1, h.2.1, h.2.2.wider (by rw [HZ0.out] at hW2; exact hW2)⟩) (fun h => ⟨h.1, h.2.1, h.2.2.wider (by rw [HZ0.out] at hW2; exact hW2)⟩)))) h0)
      (fun h k => h.trans k) (fun W r r' hb => kpV_put W _ (by rw [HZ0.out]; omega) (by rw [HZ0.out]; have := HEl.out; omega))
      (SmI v0 (w2.heap.size + 1)) (fun _ _ _ => False) (SmI.low (by rw [HZ0.out]; omega) (by rw [hvs]; exact Nat.le_refl _)) (fun c xs A A2 h _ _ _ _ _ => h) ⟨HA0.out, (Below.refl _ _).alloc (by rw [hvs]; exact Nat.le_refl _) _⟩
      (fun x a' W => ∃ Bx k n t io a ic ko b kc, GvB W Bx x k n t io a ic ko b kc ∧ a' = { tmps := #[Value.string s, Value.int IntKind.i64 stop, undef, Value.pointer (some { block := w.heap.size, off := 0 }), Value.pointer (some { block := w.heap.size + 1, off := 0 }), tv0, tv1, tv2, Value.pointer (some { block := w1.heap.size, off := 0 }), Value.func (Fn.func 28) #[] #[Value.pointer (some { block := w1.heap.size + 1, off := 0 })], Value.pointer (some { block := w2.heap.size, off := 0 }), Value.pointer (some { block := w2.heap.size + 1, off := 0 }), Value.pointer (some ⟨Bx, 0, none⟩), Value.bool true, Value.bool false, Value.tuple #[tv0, tv1, tv2, Value.slice so N sc], Value.string s, Value.tuple #[tv0, tv1, tv2, Value.slice so N sc], tv0, tv1, tv2, Value.slice so N sc, Value.string s, Value.func (Fn.func 28) #[] #[Value.pointer (some { block := w1.heap.size + 1, off := 0 })], Value.func (Fn.func 28) #[] #[Value.pointer (some { block := w1.heap.size + 1, off := 0 })], Value.bool false, Value.int IntKind.i64 0, Value.bool true, undef, undef, Value.func (Fn.func 28) #[] #[Value.pointer (some { block := w1.heap.size + 1, off := 0 })], x.2, undef, undef, undef, undef, undef, undef, undef, undef, undef, undef, undef, undef, undef, undef, undef, undef, undef, undef, undef, undef, undef, undef, undef, undef, undef, undef, undef, undef, undef, undef, undef, undef, undef, undef, undef, undef], defers := [] })
      (fun x a' _ X Y row hs hg hr => by
        obtain ⟨Bx, k, n, t, io, a, ic, ko, b, kc, h1, h2⟩ := hs
        exact ⟨Bx, k, n, t, io, a, ic, ko, b, kc, ⟨cells_ownS hg hr h1.box, h1.is_, h1.tree.own hg hr⟩, h2⟩)
      ?assign0 ?body0 ?done0 ?stop0
    case assign0 =>
      rintro pre x W KK ⟨hA, hB⟩ hV hKK
      have hBl := (Array.getElem?_eq_some_iff.1 hA).1
      obtain ⟨k, n, t, io, a, ic, ko, b, kc, hx⟩ := inH_shape hV
      have FIN := hKK _ _ ((KeepsOthers.alloc W (.cells #[.int .i64 k, .string n, .string t, .slice io a ic, .slice ko b kc] 27)).from _) (kpV_below (below1 W _)) ⟨heap_lowT (below1 W _) hBl hA, hB.alloc (Nat.le_of_lt hBl) _⟩ ⟨W.heap.size, k, n, t, io, a, ic, ko, b, kc, ⟨heap_alloc_new W _, hx, hV.keep (below1 W _)⟩, rfl⟩
      obtain ⟨T, v⟩ := x
      dsimp only at hx
      subst hx
      dsimp only at FIN ⊢
      have HF := Hid.mk FIN
      clear FIN hKK hA hB hvs hz0 hbU hlo hgU hBl hV
      gi_wp2_with fail
      exact HF.out
    case body0 =>
      rintro pre x a' W ⟨hA, hB⟩ ⟨Bx, yk, yn, yt, yio, ya, yic, yko, yb, ykc, hX, rfl⟩ hlt hSp
      rw [HXS.out] at hSp
      have hbW : Below w2.heap.size w2 W := HVB0.out.trans (hB.mono (Nat.le_succ _))
      have HSW := Hid.mk (HS.out.keep hbW)
      have hrd : W.heap[w2.heap.size]? = some (.cells #[.int .i64 0] 3 (0, 0)) := (hB.block w2.heap.size (Nat.lt_succ_self _)).trans HVR0.out
      obtain ⟨hj, hjx⟩ := pre_atS hSp
      have hjN : pre.length < N := by rw [← HS.out.len]; exact hj
      obtain ⟨g, off, hso, hg, hcells⟩ := HSW.out.row.row (by omega)
      obtain ⟨q0, q1, q2, q3, q4, ⟨a0, a1, a2, a3, a4⟩, hq⟩ := hcells pre.length hj
      rw [hjx] at hq
      have HB0 : Hid (SmB W (w2.heap.size + 1) w2.heap.size w.heap.size w1.heap.size (pre.length : Int) 0 stop so N sc) := ⟨hA, hrd, HSW.out.cM, HSW.out.cW⟩
      obtain ⟨z1, z2, z3, z4, z5⟩ := HB0.out.cells
      obtain ⟨x0, x1, x2, x3, x4, _⟩ := vbox_cells hX.box
      have hscN := HSW.out.cap
      have HST := Hid.mk (fun u (hu : Below W.heap.size W u) => w_5Same 65 x.1 _ _ u (hX.tree.keep hu) (hq.keep hu))
      obtain ⟨_, _, _, _, _, _, _, _, _, ep⟩ := inH_shape hq
      simp only [Value.agg.injEq, Array.mk.injEq, List.cons.injEq, and_true] at ep
      obtain ⟨rfl, rfl, rfl, rfl, rfl⟩ := ep
      have HFIN : Hid (∀ (W2 : World) (z : Int), Below W.heap.size W W2 → z = (pre.length : Int) + 1 → KeepsFrom (v0.alloc (.cells #[.int .i64 0] 3)).heap.size W (W2.setCell ⟨w2.heap.size + 1, 0, none⟩ (.int .i64 z)) ∧ KpV (w2.heap.size + 4) W (W2.setCell ⟨w2.heap.size + 1, 0, none⟩ (.int .i64 z)) ∧ SmI v0 (w2.heap.size + 1) (pre ++ [x]) (W2.setCell ⟨w2.heap.size + 1, 0, none⟩ (.int .i64 z))) := by
        intro W2 z h2 hz
        have hA2 := heap_lowT h2 (Array.getElem?_eq_some_iff.1 hA).1 hA
        have hAl := (Array.getElem?_eq_some_iff.1 hA).1
        rw [HZ0.out]
        refine ⟨⟨?_, fun k o hBk hk ho => ?_⟩, kpV_set (kpV_below h2) _ (by omega) (by have := HEl.out; omega), ?_, ?_⟩
        · rw [World.size_setCell]; exact h2.size
        · exact (Below.heap_setCell _ _ _ _ (by show k ≠ w2.heap.size + 1; omega)).trans (heap_lowT h2 (Array.getElem?_eq_some_iff.1 hk).1 hk)
        · rw [box_setS _ hA2, List.length_append, hz]; rfl
        · exact (hB.trans (h2.mono (Nat.le_of_lt hAl))).setCell (p := ⟨w2.heap.size + 1, 0, none⟩) (Nat.le_refl _) _
      subst hso
      have hxa := hX.is_
      rw [hxa] at HST ⊢
      clear hA hB hX hrd hbW hj hjx hSp hcells hq hxa hz0 hvs
      generalize hJ : pre.length = j at *
      have HJ := Hid.mk hJ
      clear hJ
      have g1 : (j : Int) < (N : Int) := by omega
      have g2 : decide ((N : Int) ≤ (j : Int)) = false := decide_eq_false (by omega)
      have g3 : decide (N ≤ j) = false := decide_eq_false (by omega)
      have g0 : (0 : Int) ≤ (j : Int) := by omega
      have hmx : Tryz.prog.follows .mixedOrders = true := by kernel_rfl
      gi_wp2_with fail
      gi_cut [44] from 32 (fun v wx => v = .bool false ∧ Hid (Below W.heap.size W wx))
      case first =>
        gi_region_with_o (refine ⟨trivial, ?_⟩; gi_at_call 12; refine (CallsIn.inRound _ (callsIn_wide.2 (HST.out _ ((Below.refl W.heap.size W).drew)))).mono ?_; rintro e w' ⟨rfl, hbw⟩; have HBB := Hid.mk (((Below.refl W.heap.size W).drew).trans hbw))
        all_goals
          gi_wp2_with fail
          gi_meet
          exact ⟨rfl, HBB⟩
      case rest =>
        obtain ⟨rfl, HWX⟩ := hcut
        clear z1 z2 z3 z4 z5 x0 x1 x2 x3 x4 a0 a1 a2 a3 a4 hmx
        have HB1 := Hid.mk (HB0.out.keep HWX.out)
        obtain ⟨r1, r2, r3, r4, r5⟩ := HB1.out.cells
        clear g2 g3
        have hjj : (j : Int) ≤ 4294967296 := by have := HNs.out; omega
        gi_wp2_with fail
        have hf := HFIN.out _ _ HWX.out rfl
        exact ⟨⟨hf.1, hf.2.1, hf.2.2⟩, hf.2.1⟩

    case done0 =>
      rintro ys W hS ⟨hA, hB⟩ hK
      have hyl : ys.length = N := by
        have h1 : (ys.map (·.1)).length = xs.length := by rw [hS, HXS.out]
        rw [List.length_map] at h1
        rw [h1]; exact HS.out.len
      exact ⟨.inl rfl, _, rfl, HZ0.out, hK, HVB0.out.trans (hB.mono (Nat.le_succ _)), _, hA, (hB.block w2.heap.size (Nat.lt_succ_self _)).trans HVR0.out, .inl hyl⟩
    case stop0 =>
      rintro c pre W hSp hf hK
      exact hf.elim
  rintro D w3 ⟨rfl, hKD, hbW, k, hAk, hrk, hk⟩
  have HS3 := Hid.mk (HS.out.keep hbW)
  have HKD0 := Hid.mk hKD
  have HLD0 : Hid (w2.heap.size + 2 < w3.heap.size) := (Array.getElem?_eq_some_iff.1 hKD).1
  have HUW0 := Hid.mk hbW
  have p1 := cell_of_row _ _ 0 _ _ _ hAk
  have p2 := cell_of_row _ _ 0 _ _ _ hrk
  have p3 := cell_of_row _ _ 0 _ _ _ HS3.out.cW
  have p4 := cell_of_row _ _ 0 _ _ _ HS3.out.cM
  simp only [List.getElem?_toArray, List.getElem?_cons_zero] at p1 p2 p3 p4
  clear hKD hbW hvs hz0 hbU hlo hgU HA0 HEV HbV HSV
  obtain rfl : N = k := by rcases hk with h | h
                           · exact h.symm
                           · exact h.elim
  clear hk hAk hrk p4
  gi_wp2_with fail
  rw [roundsIn_succ]
  clear p1 p2 p3
  gi_wp2_with fail
  obtain ⟨v1, hv⟩ : ∃ v, w3.alloc (.cells #[.int .i64 1] 3) = v := ⟨_, rfl⟩
  have hvs : v1.heap.size = w3.heap.size + 1 := by rw [← hv]; simp
  have HVB1 : Hid (Below w3.heap.size w3 v1) := by rw [← hv]; exact below1 w3 _
  have HVR1 : Hid (v1.heap[w3.heap.size]? = some (.cells #[.int .i64 1] 3 (0, 0))) := by show _ = _; rw [← hv]; exact heap_alloc_new w3 _
  have HVS1 := Hid.mk hvs
  have hz1 : (v1.alloc (.cells #[.int .i64 0] 3)).heap.size = w3.heap.size + 2 := by simp [hvs]
  have HZ1 := Hid.mk hz1
  have HA0 : Hid ((v1.alloc (.cells #[.int .i64 0] 3)).heap[w3.heap.size + 1]? = some (.cells #[.int .i64 0] 3 (0, 0))) := by
    have := heap_alloc_new v1 (.cells #[.int .i64 0] 3)
    rw [hvs] at this
    exact this
  have hbU := HS3.out.below.size
  have hlo := HS3.out.lo
  have hgU := (Array.getElem?_eq_some_iff.1 HS3.out.cS).1
  have HbV : Hid (Below w3.heap.size w3 (v1.alloc (.cells #[.int .i64 0] 3))) := HVB1.out.alloc (by omega) _
  have HEV : Hid (ErrIn (v1.alloc (.cells #[.int .i64 0] 3))) := HE.out.keep (HS3.out.below.trans (HbV.out.mono hbU))
  have HSV : Hid ((v1.alloc (.cells #[.int .i64 0] 3)).cell? ⟨w1.heap.size + 1, 0, none⟩ = some (.string s)) := by
    have := heap_lowT HbV.out hgU HS3.out.cS
    show _ = _
    rw [cell_of_row _ _ 0 _ _ _ this]; rfl
  rw [hv]
  clear hv
  refine rf_blockS (M := fun D W => D = w3.heap.size + 2 ∧ W.heap[D]? = some (.deferred (some [])) ∧ Below w3.heap.size w3 W ∧ ∃ k : Nat, W.heap[w3.heap.size + 1]? = some (.cells #[.int .i64 (k : Int)] 3 (0, 0)) ∧ W.heap[w3.heap.size]? = some (.cells #[.int .i64 1] 3 (0, 0)) ∧ (k = N ∨ (k : Int) = stop)) ?_ ?_
  · refine wpIn_range_anyX (α := VT × Value) (by omega) (gf := 28) (s := .pointer (some ⟨w1.heap.size + 1, 0, none⟩)) rfl (enters_of Tryz.func28 (by kernel_rfl) rfl) (encs := fun x => #[x.2]) (fun _ => rfl) (Kp := KpV (w3.heap.size + 4)) (S := fun ys => ys.map (·.1) = (eachL s.data.toList (vL s) (s.size + 1) [] 0).1) (Sp := fun pre => pre.map (·.1) <+: (eachL s.data.toList (vL s) (s.size + 1) [] 0).1) (Vx := fun x W => InH W 65 x.1 x.2) (N := s.size + 1)
      (fun J Jx W hW hW2 hJ hJx hY h0 => values_in (9 - 1) (by omega) _ _ s (by omega) W (HEV.out.keep (hW.mono (Nat.le_refl _))) ((hW.cell (p := ⟨w1.heap.size + 1, 0, none⟩) (by rw [HZ1.out]; show w1.heap.size + 1 < _; omega)).trans HSV.out) J Jx hJ hJx (fun pre x W1 a1 a2 a3 a4 => yieldAt_any ((hY pre x W1 a1 a2 a3 a4).mono (fun e W' h => h.imp (fun h => ⟨h.1, h.2.1, h.2.2.wider (by rw [HZ1.out] at hW2; exact hW2)⟩) (fun h => ⟨h.1, h.2.1, h.2.2.wider (by rw [HZ1.out] at hW2; exact hW2)⟩)))) h0)
      (fun h k => h.trans k) (fun W r r' hb => kpV_put W _ (by rw [HZ1.out]; omega) (by rw [HZ1.out]; have := HEl.out; omega))
      (SmI v1 (w3.heap.size + 1)) (SmX v1 (w3.heap.size + 1) stop 2) (SmI.low (by rw [HZ1.out]; omega) (by rw [hvs]; exact Nat.le_refl _)) (SmX.low (by rw [HZ1.out]; omega) (by rw [hvs]; exact Nat.le_refl _)) ⟨HA0.out, (Below.refl _ _).alloc (by rw [hvs]; exact Nat.le_refl _) _⟩
      (fun x a' W => ∃ Bx k n t io a ic ko b kc, GvB W Bx x k n t io a ic ko b kc ∧ a' = { tmps := #[Value.string s, Value.int IntKind.i64 stop, undef, Value.pointer (some { block := w.heap.size, off := 0 }), Value.pointer (some { block := w.heap.size + 1, off := 0 }), tv0, tv1, tv2, Value.pointer (some { block := w1.heap.size, off := 0 }), Value.func (Fn.func 28) #[] #[Value.pointer (some { block := w1.heap.size + 1, off := 0 })], Value.pointer (some { block := w3.heap.size, off := 0 }), Value.pointer (some { block := w3.heap.size + 1, off := 0 }), Value.pointer (some ⟨Bx, 0, none⟩), Value.bool true, Value.bool false, Value.tuple #[tv0, tv1, tv2, Value.slice so N sc], Value.string s, Value.tuple #[tv0, tv1, tv2, Value.slice so N sc], tv0, tv1, tv2, Value.slice so N sc, Value.string s, Value.func (Fn.func 28) #[] #[Value.pointer (some { block := w1.heap.size + 1, off := 0 })], Value.func (Fn.func 28) #[] #[Value.pointer (some { block := w1.heap.size + 1, off := 0 })], Value.bool false, Value.int IntKind.i64 1, Value.bool true, Value.int IntKind.i64 0, Value.int IntKind.i64 1, Value.func (Fn.func 28) #[] #[Value.pointer (some { block := w1.heap.size + 1, off := 0 })], x.2, undef, undef, undef, undef, undef, undef, undef, undef, undef, undef, undef, undef, undef, undef, undef, undef, undef, undef, undef, undef, undef, undef, Value.int IntKind.i64 (N : Int), Value.slice so N sc, Value.int IntKind.i64 (N : Int), Value.bool false, Value.bool false, undef, undef, undef, undef, undef, undef, undef, Value.bool false, Value.int IntKind.i64 0], defers := [] })
      (fun x a' _ X Y row hs hg hr => by
        obtain ⟨Bx, k, n, t, io, a, ic, ko, b, kc, h1, h2⟩ := hs
        exact ⟨Bx, k, n, t, io, a, ic, ko, b, kc, ⟨cells_ownS hg hr h1.box, h1.is_, h1.tree.own hg hr⟩, h2⟩)
      ?assign1 ?body1 ?done1 ?stop1
    case assign1 =>
      rintro pre x W KK ⟨hA, hB⟩ hV hKK
      have hBl := (Array.getElem?_eq_some_iff.1 hA).1
      obtain ⟨k, n, t, io, a, ic, ko, b, kc, hx⟩ := inH_shape hV
      have FIN := hKK _ _ ((KeepsOthers.alloc W (.cells #[.int .i64 k, .string n, .string t, .slice io a ic, .slice ko b kc] 27)).from _) (kpV_below (below1 W _)) ⟨heap_lowT (below1 W _) hBl hA, hB.alloc (Nat.le_of_lt hBl) _⟩ ⟨W.heap.size, k, n, t, io, a, ic, ko, b, kc, ⟨heap_alloc_new W _, hx, hV.keep (below1 W _)⟩, rfl⟩
      obtain ⟨T, v⟩ := x
      dsimp only at hx
      subst hx
      dsimp only at FIN ⊢
      have HF := Hid.mk FIN
      clear FIN hKK hA hB hvs hz1 hbU hlo hgU hBl hV
      gi_wp2_with fail
      exact HF.out
    case body1 =>
      rintro pre x a' W ⟨hA, hB⟩ ⟨Bx, yk, yn, yt, yio, ya, yic, yko, yb, ykc, hX, rfl⟩ hlt hSp
      rw [HXS.out] at hSp
      have hbW : Below w3.heap.size w3 W := HVB1.out.trans (hB.mono (Nat.le_succ _))
      have HSW := Hid.mk (HS3.out.keep hbW)
      have hrd : W.heap[w3.heap.size]? = some (.cells #[.int .i64 1] 3 (0, 0)) := (hB.block w3.heap.size (Nat.lt_succ_self _)).trans HVR1.out
      obtain ⟨hj, hjx⟩ := pre_atS hSp
      have hjN : pre.length < N := by rw [← HS3.out.len]; exact hj
      obtain ⟨g, off, hso, hg, hcells⟩ := HSW.out.row.row (by omega)
      obtain ⟨q0, q1, q2, q3, q4, ⟨a0, a1, a2, a3, a4⟩, hq⟩ := hcells pre.length hj
      rw [hjx] at hq
      have HB0 : Hid (SmB W (w3.heap.size + 1) w3.heap.size w.heap.size w1.heap.size (pre.length : Int) 1 stop so N sc) := ⟨hA, hrd, HSW.out.cM, HSW.out.cW⟩
      obtain ⟨z1, z2, z3, z4, z5⟩ := HB0.out.cells
      obtain ⟨x0, x1, x2, x3, x4, _⟩ := vbox_cells hX.box
      have hscN := HSW.out.cap
      have HST := Hid.mk (fun u (hu : Below W.heap.size W u) => w_5Same 65 x.1 _ _ u (hX.tree.keep hu) (hq.keep hu))
      obtain ⟨_, _, _, _, _, _, _, _, _, ep⟩ := inH_shape hq
      simp only [Value.agg.injEq, Array.mk.injEq, List.cons.injEq, and_true] at ep
      obtain ⟨rfl, rfl, rfl, rfl, rfl⟩ := ep
      have HFIN : Hid (∀ (W2 : World) (z : Int), Below W.heap.size W W2 → z = (pre.length : Int) + 1 → KeepsFrom (v1.alloc (.cells #[.int .i64 0] 3)).heap.size W (W2.setCell ⟨w3.heap.size + 1, 0, none⟩ (.int .i64 z)) ∧ KpV (w3.heap.size + 4) W (W2.setCell ⟨w3.heap.size + 1, 0, none⟩ (.int .i64 z)) ∧ SmI v1 (w3.heap.size + 1) (pre ++ [x]) (W2.setCell ⟨w3.heap.size + 1, 0, none⟩ (.int .i64 z))) := by
        intro W2 z h2 hz
        have hA2 := heap_lowT h2 (Array.getElem?_eq_some_iff.1 hA).1 hA
        have hAl := (Array.getElem?_eq_some_iff.1 hA).1
        rw [HZ1.out]
        refine ⟨⟨?_, fun k o hBk hk ho => ?_⟩, kpV_set (kpV_below h2) _ (by omega) (by have := HEl.out; omega), ?_, ?_⟩
        · rw [World.size_setCell]; exact h2.size
        · exact (Below.heap_setCell _ _ _ _ (by show k ≠ w3.heap.size + 1; omega)).trans (heap_lowT h2 (Array.getElem?_eq_some_iff.1 hk).1 hk)
        · rw [box_setS _ hA2, List.length_append, hz]; rfl
        · exact (hB.trans (h2.mono (Nat.le_of_lt hAl))).setCell (p := ⟨w3.heap.size + 1, 0, none⟩) (Nat.le_refl _) _
      subst hso
      have hxa := hX.is_
      rw [hxa] at HST ⊢
      clear hA hB hX hrd hbW hj hjx hSp hcells hq hxa hz1 hvs
      generalize hJ : pre.length = j at *
      have HJ := Hid.mk hJ
      clear hJ
      have g1 : (j : Int) < (N : Int) := by omega
      have g2 : decide ((N : Int) ≤ (j : Int)) = false := decide_eq_false (by omega)
      have g3 : decide (N ≤ j) = false := decide_eq_false (by omega)
      have g0 : (0 : Int) ≤ (j : Int) := by omega
      have hmx : Tryz.prog.follows .mixedOrders = true := by kernel_rfl
      gi_wp2_with fail
      gi_cut [44] from 32 (fun v wx => v = .bool false ∧ Hid (Below W.heap.size W wx))
      case first =>
        gi_region_with_o (refine ⟨trivial, ?_⟩; gi_at_call 12; refine (CallsIn.inRound _ (callsIn_wide.2 (HST.out _ ((Below.refl W.heap.size W).drew)))).mono ?_; rintro e w' ⟨rfl, hbw⟩; have HBB := Hid.mk (((Below.refl W.heap.size W).drew).trans hbw))
        all_goals
          gi_wp2_with fail
          gi_meet
          exact ⟨rfl, HBB⟩
      case rest =>
        obtain ⟨rfl, HWX⟩ := hcut
        clear z1 z2 z3 z4 z5 x0 x1 x2 x3 x4 a0 a1 a2 a3 a4 hmx
        have HB1 := Hid.mk (HB0.out.keep HWX.out)
        obtain ⟨r1, r2, r3, r4, r5⟩ := HB1.out.cells
        clear g2 g3
        have hjj : (j : Int) ≤ 4294967296 := by have := HNs.out; omega
        by_cases hm : (j : Int) + 1 = stop
        · have m1 : ((j : Int) + 1 == stop) = true := by rw [beq_iff_eq]; exact hm
          have HHM := Hid.mk hm
          clear hm
          gi_wp2_with fail
          have hf := HFIN.out _ _ HWX.out rfl
          exact ⟨⟨hf.1, rfl, by rw [List.length_append, HJ.out]; show ((j + 1 : Nat) : Int) = stop; have := HHM.out; omega, hf.2.2⟩, hf.2.1⟩
        · have m1 : ((j : Int) + 1 == stop) = false := by rw [beq_eq_false_iff_ne]; exact hm
          clear hm
          gi_wp2_with fail
          have hf := HFIN.out _ _ HWX.out rfl
          exact ⟨⟨hf.1, hf.2.1, hf.2.2⟩, hf.2.1⟩

    case done1 =>
      rintro ys W hS ⟨hA, hB⟩ hK
      have hyl : ys.length = N := by
        have h1 : (ys.map (·.1)).length = xs.length := by rw [hS, HXS.out]
        rw [List.length_map] at h1
        rw [h1]; exact HS3.out.len
      exact ⟨.inl rfl, _, rfl, HZ1.out, hK, HVB1.out.trans (hB.mono (Nat.le_succ _)), _, hA, (hB.block w3.heap.size (Nat.lt_succ_self _)).trans HVR1.out, .inl hyl⟩
    case stop1 =>
      rintro c pre W hSp ⟨rfl, hm, hA, hB⟩ hK
      exact wpIn_exit ⟨.inr rfl, _, rfl, HZ1.out, hK, HVB1.out.trans (hB.mono (Nat.le_succ _)), _, hA, (hB.block w3.heap.size (Nat.lt_succ_self _)).trans HVR1.out, .inr hm⟩
  rintro D w4 ⟨rfl, hKD, hbW, k, hAk, hrk, hk⟩
  have HS4 := Hid.mk (HS3.out.keep hbW)
  have HKD1 := Hid.mk hKD
  have HLD1 : Hid (w3.heap.size + 2 < w4.heap.size) := (Array.getElem?_eq_some_iff.1 hKD).1
  have HUW1 := Hid.mk hbW
  have p1 := cell_of_row _ _ 0 _ _ _ hAk
  have p2 := cell_of_row _ _ 0 _ _ _ hrk
  have p3 := cell_of_row _ _ 0 _ _ _ HS4.out.cW
  have p4 := cell_of_row _ _ 0 _ _ _ HS4.out.cM
  simp only [List.getElem?_toArray, List.getElem?_cons_zero] at p1 p2 p3 p4
  clear hKD hbW hvs hz1 hbU hlo hgU HA0 HEV HbV HSV
  gi_upto_region 17 with fail
  gi_cut [66] from 54 (fun v wx => v = .bool false ∧ wx = w4)
  case first =>
    by_cases hkn : k = N
    · have n1 : ((k : Int) == (N : Int)) = true := by rw [beq_iff_eq]; omega
      clear hkn hk
      gi_wp2_with fail
      all_goals
        gi_meet
        exact ⟨by first | rfl | simp [bne, n1], rfl⟩
    · have n1 : ((k : Int) == (N : Int)) = false := by rw [beq_eq_false_iff_ne]; omega
      have m1 : ((k : Int) == stop) = true := by rw [beq_iff_eq]; rcases hk with h | h
                                                 · exact absurd h hkn
                                                 · exact h
      clear hkn hk
      gi_wp2_with fail
      all_goals
        gi_meet
        exact ⟨by first | rfl | simp [bne, n1, m1], rfl⟩
  case rest =>
  obtain ⟨rfl, hwc⟩ := hcut
  rw [hwc]
  clear hwc
  clear hk hAk hrk p1 p3 p4
  gi_wp2_with fail
  rw [roundsIn_succ]
  clear p2
  gi_wp2_with fail
  obtain ⟨v2, hv⟩ : ∃ v, w4.alloc (.cells #[.int .i64 2] 3) = v := ⟨_, rfl⟩
  have hvs : v2.heap.size = w4.heap.size + 1 := by rw [← hv]; simp
  have HVB2 : Hid (Below w4.heap.size w4 v2) := by rw [← hv]; exact below1 w4 _
  have HVR2 : Hid (v2.heap[w4.heap.size]? = some (.cells #[.int .i64 2] 3 (0, 0))) := by show _ = _; rw [← hv]; exact heap_alloc_new w4 _
  have HVS2 := Hid.mk hvs
  have hz2 : (v2.alloc (.cells #[.int .i64 0] 3)).heap.size = w4.heap.size + 2 := by simp [hvs]
  have HZ2 := Hid.mk hz2
  have HA0 : Hid ((v2.alloc (.cells #[.int .i64 0] 3)).heap[w4.heap.size + 1]? = some (.cells #[.int .i64 0] 3 (0, 0))) := by
    have := heap_alloc_new v2 (.cells #[.int .i64 0] 3)
    rw [hvs] at this
    exact this
  have hbU := HS4.out.below.size
  have hlo := HS4.out.lo
  have hgU := (Array.getElem?_eq_some_iff.1 HS4.out.cS).1
  have HbV : Hid (Below w4.heap.size w4 (v2.alloc (.cells #[.int .i64 0] 3))) := HVB2.out.alloc (by omega) _
  have HEV : Hid (ErrIn (v2.alloc (.cells #[.int .i64 0] 3))) := HE.out.keep (HS4.out.below.trans (HbV.out.mono hbU))
  have HSV : Hid ((v2.alloc (.cells #[.int .i64 0] 3)).cell? ⟨w1.heap.size + 1, 0, none⟩ = some (.string s)) := by
    have := heap_lowT HbV.out hgU HS4.out.cS
    show _ = _
    rw [cell_of_row _ _ 0 _ _ _ this]; rfl
  rw [hv]
  clear hv
  refine rf_blockS (M := fun D W => D = w4.heap.size + 2 ∧ W.heap[D]? = some (.deferred (some [])) ∧ Below w4.heap.size w4 W ∧ ∃ k : Nat, W.heap[w4.heap.size + 1]? = some (.cells #[.int .i64 (k : Int)] 3 (0, 0)) ∧ W.heap[w4.heap.size]? = some (.cells #[.int .i64 2] 3 (0, 0)) ∧ (k = N ∨ False)) ?_ ?_
  · refine wpIn_range_anyX (α := VT × Value) (by omega) (gf := 28) (s := .pointer (some ⟨w1.heap.size + 1, 0, none⟩)) rfl (enters_of Tryz.func28 (by kernel_rfl) rfl) (encs := fun x => #[x.2]) (fun _ => rfl) (Kp := KpV (w4.heap.size + 4)) (S := fun ys => ys.map (·.1) = (eachL s.data.toList (vL s) (s.size + 1) [] 0).1) (Sp := fun pre => pre.map (·.1) <+: (eachL s.data.toList (vL s) (s.size + 1) [] 0).1) (Vx := fun x W => InH W 65 x.1 x.2) (N := s.size + 1)
      (fun J Jx W hW hW2 hJ hJx hY h0 => values_in (9 - 1) (by omega) _ _ s (by omega) W (HEV.out.keep (hW.mono (Nat.le_refl _))) ((hW.cell (p := ⟨w1.heap.size + 1, 0, none⟩) (by rw [HZ2.out]; show w1.heap.size + 1 < _; omega)).trans HSV.out) J Jx hJ hJx (fun pre x W1 a1 a2 a3 a4 => yieldAt_any ((hY pre x W1 a1 a2 a3 a4).mono (fun e W' h => h.imp (fun h => ⟨h.1, h.2.1, h.2.2.wider (by rw [HZ2.out] at hW2; exact hW2)⟩) (fun h => ⟨h.1, h.2.1, h.2.2.wider (by rw [HZ2.out] at hW2; exact hW2)⟩)))) h0)
      (fun h k => h.trans k) (fun W r r' hb => kpV_put W _ (by rw [HZ2.out]; omega) (by rw [HZ2.out]; have := HEl.out; omega))
      (SmI v2 (w4.heap.size + 1)) (fun _ _ _ => False) (SmI.low (by rw [HZ2.out]; omega) (by rw [hvs]; exact Nat.le_refl _)) (fun c xs A A2 h _ _ _ _ _ => h) ⟨HA0.out, (Below.refl _ _).alloc (by rw [hvs]; exact Nat.le_refl _) _⟩
      (fun x a' W => ∃ Bx k n t io a ic ko b kc, GvB W Bx x k n t io a ic ko b kc ∧ a' = { tmps := #[Value.string s, Value.int IntKind.i64 stop, undef, Value.pointer (some { block := w.heap.size, off := 0 }), Value.pointer (some { block := w.heap.size + 1, off := 0 }), tv0, tv1, tv2, Value.pointer (some { block := w1.heap.size, off := 0 }), Value.func (Fn.func 28) #[] #[Value.pointer (some { block := w1.heap.size + 1, off := 0 })], Value.pointer (some { block := w4.heap.size, off := 0 }), Value.pointer (some { block := w4.heap.size + 1, off := 0 }), Value.pointer (some ⟨Bx, 0, none⟩), Value.bool true, Value.bool false, Value.tuple #[tv0, tv1, tv2, Value.slice so N sc], Value.string s, Value.tuple #[tv0, tv1, tv2, Value.slice so N sc], tv0, tv1, tv2, Value.slice so N sc, Value.string s, Value.func (Fn.func 28) #[] #[Value.pointer (some { block := w1.heap.size + 1, off := 0 })], Value.func (Fn.func 28) #[] #[Value.pointer (some { block := w1.heap.size + 1, off := 0 })], Value.bool false, Value.int IntKind.i64 2, Value.bool true, Value.int IntKind.i64 1, Value.int IntKind.i64 2, Value.func (Fn.func 28) #[] #[Value.pointer (some { block := w1.heap.size + 1, off := 0 })], x.2, undef, undef, undef, undef, undef, undef, undef, undef, undef, undef, undef, undef, undef, undef, undef, undef, undef, undef, undef, undef, undef, undef, u54, u55, u56, u57, u58, u59, u60, u61, u62, u63, u64, u65, Value.bool false, Value.int IntKind.i64 1], defers := [] })
      (fun x a' _ X Y row hs hg hr => by
        obtain ⟨Bx, k, n, t, io, a, ic, ko, b, kc, h1, h2⟩ := hs
        exact ⟨Bx, k, n, t, io, a, ic, ko, b, kc, ⟨cells_ownS hg hr h1.box, h1.is_, h1.tree.own hg hr⟩, h2⟩)
      ?assign2 ?body2 ?done2 ?stop2
    case assign2 =>
      rintro pre x W KK ⟨hA, hB⟩ hV hKK
      have hBl := (Array.getElem?_eq_some_iff.1 hA).1
      obtain ⟨k, n, t, io, a, ic, ko, b, kc, hx⟩ := inH_shape hV
      have FIN := hKK _ _ ((KeepsOthers.alloc W (.cells #[.int .i64 k, .string n, .string t, .slice io a ic, .slice ko b kc] 27)).from _) (kpV_below (below1 W _)) ⟨heap_lowT (below1 W _) hBl hA, hB.alloc (Nat.le_of_lt hBl) _⟩ ⟨W.heap.size, k, n, t, io, a, ic, ko, b, kc, ⟨heap_alloc_new W _, hx, hV.keep (below1 W _)⟩, rfl⟩
      obtain ⟨T, v⟩ := x
      dsimp only at hx
      subst hx
      dsimp only at FIN ⊢
      have HF := Hid.mk FIN
      clear FIN hKK hA hB hvs hz2 hbU hlo hgU hBl hV
      gi_wp2_with fail
      exact HF.out
    case body2 =>
      rintro pre x a' W ⟨hA, hB⟩ ⟨Bx, yk, yn, yt, yio, ya, yic, yko, yb, ykc, hX, rfl⟩ hlt hSp
      rw [HXS.out] at hSp
      have hbW : Below w4.heap.size w4 W := HVB2.out.trans (hB.mono (Nat.le_succ _))
      have HSW := Hid.mk (HS4.out.keep hbW)
      have hrd : W.heap[w4.heap.size]? = some (.cells #[.int .i64 2] 3 (0, 0)) := (hB.block w4.heap.size (Nat.lt_succ_self _)).trans HVR2.out
      obtain ⟨hj, hjx⟩ := pre_atS hSp
      have hjN : pre.length < N := by rw [← HS4.out.len]; exact hj
      obtain ⟨g, off, hso, hg, hcells⟩ := HSW.out.row.row (by omega)
      obtain ⟨q0, q1, q2, q3, q4, ⟨a0, a1, a2, a3, a4⟩, hq⟩ := hcells pre.length hj
      rw [hjx] at hq
      have HB0 : Hid (SmB W (w4.heap.size + 1) w4.heap.size w.heap.size w1.heap.size (pre.length : Int) 2 stop so N sc) := ⟨hA, hrd, HSW.out.cM, HSW.out.cW⟩
      obtain ⟨z1, z2, z3, z4, z5⟩ := HB0.out.cells
      obtain ⟨x0, x1, x2, x3, x4, _⟩ := vbox_cells hX.box
      have hscN := HSW.out.cap
      have HST := Hid.mk (fun u (hu : Below W.heap.size W u) => w_5Same 65 x.1 _ _ u (hX.tree.keep hu) (hq.keep hu))
      obtain ⟨_, _, _, _, _, _, _, _, _, ep⟩ := inH_shape hq
      simp only [Value.agg.injEq, Array.mk.injEq, List.cons.injEq, and_true] at ep
      obtain ⟨rfl, rfl, rfl, rfl, rfl⟩ := ep
      have HFIN : Hid (∀ (W2 : World) (z : Int), Below W.heap.size W W2 → z = (pre.length : Int) + 1 → KeepsFrom (v2.alloc (.cells #[.int .i64 0] 3)).heap.size W (W2.setCell ⟨w4.heap.size + 1, 0, none⟩ (.int .i64 z)) ∧ KpV (w4.heap.size + 4) W (W2.setCell ⟨w4.heap.size + 1, 0, none⟩ (.int .i64 z)) ∧ SmI v2 (w4.heap.size + 1) (pre ++ [x]) (W2.setCell ⟨w4.heap.size + 1, 0, none⟩ (.int .i64 z))) := by
        intro W2 z h2 hz
        have hA2 := heap_lowT h2 (Array.getElem?_eq_some_iff.1 hA).1 hA
        have hAl := (Array.getElem?_eq_some_iff.1 hA).1
        rw [HZ2.out]
        refine ⟨⟨?_, fun k o hBk hk ho => ?_⟩, kpV_set (kpV_below h2) _ (by omega) (by have := HEl.out; omega), ?_, ?_⟩
        · rw [World.size_setCell]; exact h2.size
        · exact (Below.heap_setCell _ _ _ _ (by show k ≠ w4.heap.size + 1; omega)).trans (heap_lowT h2 (Array.getElem?_eq_some_iff.1 hk).1 hk)
        · rw [box_setS _ hA2, List.length_append, hz]; rfl
        · exact (hB.trans (h2.mono (Nat.le_of_lt hAl))).setCell (p := ⟨w4.heap.size + 1, 0, none⟩) (Nat.le_refl _) _
      subst hso
      have hxa := hX.is_
      rw [hxa] at HST ⊢
      clear hA hB hX hrd hbW hj hjx hSp hcells hq hxa hz2 hvs
      generalize hJ : pre.length = j at *
      have HJ := Hid.mk hJ
      clear hJ
      have g1 : (j : Int) < (N : Int) := by omega
      have g2 : decide ((N : Int) ≤ (j : Int)) = false := decide_eq_false (by omega)
      have g3 : decide (N ≤ j) = false := decide_eq_false (by omega)
      have g0 : (0 : Int) ≤ (j : Int) := by omega
      have hmx : Tryz.prog.follows .mixedOrders = true := by kernel_rfl
      gi_wp2_with fail
      gi_cut [44] from 32 (fun v wx => v = .bool false ∧ Hid (Below W.heap.size W wx))
      case first =>
        gi_region_with_o (refine ⟨trivial, ?_⟩; gi_at_call 12; refine (CallsIn.inRound _ (callsIn_wide.2 (HST.out _ ((Below.refl W.heap.size W).drew)))).mono ?_; rintro e w' ⟨rfl, hbw⟩; have HBB := Hid.mk (((Below.refl W.heap.size W).drew).trans hbw))
        all_goals
          gi_wp2_with fail
          gi_meet
          exact ⟨rfl, HBB⟩
      case rest =>
        obtain ⟨rfl, HWX⟩ := hcut
        clear z1 z2 z3 z4 z5 x0 x1 x2 x3 x4 a0 a1 a2 a3 a4 hmx
        have HB1 := Hid.mk (HB0.out.keep HWX.out)
        obtain ⟨r1, r2, r3, r4, r5⟩ := HB1.out.cells
        clear g2 g3
        have hjj : (j : Int) ≤ 4294967296 := by have := HNs.out; omega
        gi_wp2_with fail
        have hf := HFIN.out _ _ HWX.out rfl
        exact ⟨⟨hf.1, hf.2.1, hf.2.2⟩, hf.2.1⟩

    case done2 =>
      rintro ys W hS ⟨hA, hB⟩ hK
      have hyl : ys.length = N := by
        have h1 : (ys.map (·.1)).length = xs.length := by rw [hS, HXS.out]
        rw [List.length_map] at h1
        rw [h1]; exact HS4.out.len
      exact ⟨.inl rfl, _, rfl, HZ2.out, hK, HVB2.out.trans (hB.mono (Nat.le_succ _)), _, hA, (hB.block w4.heap.size (Nat.lt_succ_self _)).trans HVR2.out, .inl hyl⟩
    case stop2 =>
      rintro c pre W hSp hf hK
      exact hf.elim
  rintro D w5 ⟨rfl, hKD, hbW, k, hAk, hrk, hk⟩
  have HS5 := Hid.mk (HS4.out.keep hbW)
  have HKD2 := Hid.mk hKD
  have HLD2 : Hid (w4.heap.size + 2 < w5.heap.size) := (Array.getElem?_eq_some_iff.1 hKD).1
  have HUW2 := Hid.mk hbW
  have p1 := cell_of_row _ _ 0 _ _ _ hAk
  have p2 := cell_of_row _ _ 0 _ _ _ hrk
  have p3 := cell_of_row _ _ 0 _ _ _ HS5.out.cW
  have p4 := cell_of_row _ _ 0 _ _ _ HS5.out.cM
  simp only [List.getElem?_toArray, List.getElem?_cons_zero] at p1 p2 p3 p4
  clear hKD hbW hvs hz2 hbU hlo hgU HA0 HEV HbV HSV
  obtain rfl : N = k := by rcases hk with h | h
                           · exact h.symm
                           · exact h.elim
  clear hk hAk hrk p4
  gi_wp2_with fail
  rw [roundsIn_succ]
  clear p1 p2 p3
  have h6 : Below w5.heap.size w5 (w5.alloc (.cells #[.int .i64 3] 3)) := below1 w5 _
  obtain ⟨w7, hw7⟩ : ∃ u, w5.alloc (.cells #[.int .i64 3] 3) = u := ⟨_, rfl⟩
  have hc7 : w7.heap[w5.heap.size]? = some (.cells #[.int .i64 3] 3 (0, 0)) := by rw [← hw7]; exact heap_alloc_new w5 _
  have c7 := cell_of_row _ _ 0 _ _ _ hc7
  simp only [List.getElem?_toArray, List.getElem?_cons_zero] at c7
  rw [hw7] at h6 ⊢
  have HS7 := Hid.mk (HS5.out.keep h6)
  have HD2 : Hid (w7.heap[w4.heap.size + 2]? = some (.deferred (some []))) := heap_lowT h6 HLD2.out HKD2.out
  have HD1 : Hid (w7.heap[w3.heap.size + 2]? = some (.deferred (some []))) := heap_lowT h6 (Nat.lt_of_lt_of_le HLD1.out HUW2.out.size) (heap_lowT HUW2.out HLD1.out HKD1.out)
  have HD0 : Hid (w7.heap[w2.heap.size + 2]? = some (.deferred (some []))) := heap_lowT h6 (Nat.lt_of_lt_of_le HLD0.out (Nat.le_trans HUW1.out.size HUW2.out.size)) (heap_lowT HUW2.out (Nat.lt_of_lt_of_le HLD0.out HUW1.out.size) (heap_lowT HUW1.out HLD0.out HKD0.out))
  have cR := cell_of_row _ _ 0 _ _ _ HS7.out.cR
  have fR := frozen_rowT (j := 0) HS7.out.cR
  simp only [List.getElem?_toArray, List.getElem?_cons_zero] at cR
  have hl0 := HS.out.lo
  have hl1 := (Array.getElem?_eq_some_iff.1 HS.out.cS).1
  have hl2 := HLD0.out
  have hl3 := HLD1.out
  have HNE : Hid (w.heap.size + 1 < w2.heap.size ∧ w2.heap.size + 2 < w3.heap.size ∧ w3.heap.size + 2 < w4.heap.size) := ⟨by omega, hl2, hl3⟩
  clear h6 hw7 hl0 hl1 hl2 hl3 hc7
  gi_wp2_with fail
  obtain ⟨hl0, hl1, hl2⟩ := HNE.out
  have hE2 : (w7.setCell ⟨w.heap.size + 1, 0, none⟩ (.bool true)).heap[w4.heap.size + 2]? = some (.deferred (some [])) := (Below.heap_setCell _ _ _ _ (by show w4.heap.size + 2 ≠ w.heap.size + 1; omega)).trans HD2.out
  have hE1 : ((w7.setCell ⟨w.heap.size + 1, 0, none⟩ (.bool true)).putObj (w4.heap.size + 2) (.deferred none)).heap[w3.heap.size + 2]? = some (.deferred (some [])) := (World.putObj_heap_other (by omega)).trans ((Below.heap_setCell _ _ _ _ (by show w3.heap.size + 2 ≠ w.heap.size + 1; omega)).trans HD1.out)
  have hE0 : (((w7.setCell ⟨w.heap.size + 1, 0, none⟩ (.bool true)).putObj (w4.heap.size + 2) (.deferred none)).putObj (w3.heap.size + 2) (.deferred none)).heap[w2.heap.size + 2]? = some (.deferred (some [])) := (World.putObj_heap_other (by omega)).trans ((World.putObj_heap_other (by omega)).trans ((Below.heap_setCell _ _ _ _ (by show w2.heap.size + 2 ≠ w.heap.size + 1; omega)).trans HD0.out))
  refine ⟨by simp, .inl ⟨_, _, rfl, run_takeDeferred hE2, by simp, .inl ⟨_, _, rfl, run_takeDeferred hE1, by simp, .inl ⟨_, _, rfl, run_takeDeferred hE0, ?_⟩⟩⟩⟩
  have hc := cell_kept (World.cell?_setCell_same w7 ⟨w.heap.size + 1, 0, none⟩ (.bool true) cR) (grownBy_putObj' _ (w4.heap.size + 2) (.deferred none)) (fun r e => by cases e; exact ⟨_, hE2, rfl⟩)
  have hc1 := cell_kept hc (grownBy_putObj' _ (w3.heap.size + 2) (.deferred none)) (fun r e => by cases e; exact ⟨_, hE1, rfl⟩)
  have hc2 := cell_kept hc1 (grownBy_putObj' _ (w2.heap.size + 2) (.deferred none)) (fun r e => by cases e; exact ⟨_, hE0, rfl⟩)
  refine ⟨.bool true, ?_, (((HS7.out.below.setCell (p := ⟨w.heap.size + 1, 0, none⟩) (by show _ ≤ w.heap.size + 1; omega) _).trans (belowK_b (w := w) (Nat.le_refl _) _ (w4.heap.size + 2) _ _ (by omega) hE2 rfl rfl)).trans (belowK_b (w := w) (Nat.le_refl _) _ (w3.heap.size + 2) _ _ (by omega) hE1 rfl rfl)).trans (belowK_b (w := w) (Nat.le_refl _) _ (w2.heap.size + 2) _ _ (by omega) hE0 rfl rfl), rfl⟩
  simp [results, Tryz.results4, go_sem, hc2]

end Go.Proofs.YtcbngdkekdhfeaaGreatDoor
