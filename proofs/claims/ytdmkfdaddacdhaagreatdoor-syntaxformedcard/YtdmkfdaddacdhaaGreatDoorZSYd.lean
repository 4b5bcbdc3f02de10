import Derived.Test.YtdmkfdaddacdhaaGreatDoorZSXm
import Derived.Test.YtdmkfdaddacdhaaGreatDoorM41
import Derived.Test.YtdmkfdaddacdhaaGreatDoorM30
namespace Go.Proofs.YtdmkfdaddacdhaaGreatDoor
open Go.RowKit Go.Shelf Go.Sort
set_option linter.unusedVariables false
set_option linter.unusedSimpArgs false
attribute [local go_sem] Oper.semAt_some

/-- a part's cells have their kinds -/
theorem inA_shape {w : World} {h : Nat} {A : NT} {v : Value} (hA : InA w h A v) : ∃ (aop aat avk : Int) (atx avn avx : ByteArray) (aio ayo ano ako : Option Addr) (avi aic avy ayc ann anc akn akc : Nat), v = .agg #[.int .i64 aop, .int .i64 aat, .string atx, .int .i64 avk, .string avn, .string avx, .slice aio avi aic, .slice ayo avy ayc, .slice ano ann anc, .slice ako akn akc] := by
  cases h with
  | zero => exact hA.elim
  | succ h =>
    obtain ⟨io, ic, yo, yc, no, nc, ko, kc, e, _⟩ := hA
    exact ⟨_, _, _, _, _, _, _, _, _, _, _, _, _, _, _, _, _, _, e⟩
/-- a part in a box -/
theorem nat_box {w : World} {h : Nat} {A : NT} {c : Fin 10 → Value} {g : Nat} {t : TypeId} (hb : w.heap[g]? = some (.cells #[c 0, c 1, c 2, c 3, c 4, c 5, c 6, c 7, c 8, c 9] t (0, 0))) (hA : InA w h A (ndV c)) : NAt w h A g 0 := by
  obtain ⟨e0, e1, e2, e3, e4, e5, e6, e7, e8, e9⟩ := nd_cells hb
  refine ⟨c, fun j => ?_, hA⟩
  rw [Nat.zero_add]
  match j with
  | 0 => exact e0
  | 1 => exact e1
  | 2 => exact e2
  | 3 => exact e3
  | 4 => exact e4
  | 5 => exact e5
  | 6 => exact e6
  | 7 => exact e7
  | 8 => exact e8
  | 9 => exact e9
def c10 (c0 c1 c2 c3 c4 c5 c6 c7 c8 c9 : Value) : Fin 10 → Value := fun j => match j with
  | 0 => c0
  | 1 => c1
  | 2 => c2
  | 3 => c3
  | 4 => c4
  | 5 => c5
  | 6 => c6
  | 7 => c7
  | 8 => c8
  | 9 => c9

set_option maxRecDepth 100000 in
set_option maxHeartbeats 3200000 in
theorem w_SameP (h : Nat) (A B : NT) (va vb : Value) (w : World) (hA : InA w h A va) (hB : InA w h B vb) : Calls Tryz.prog 18 #[va, vb] w fun e w' => e = .returned (.bool (sq (noA A) (noA B))) ∧ Below w.heap.size w w' := by
  obtain ⟨aop, aat, avk, atx, avn, avx, aio, ayo, ano, ako, avi, aic, avy, ayc, ann, anc, akn, akc, rfl⟩ := inA_shape hA
  obtain ⟨bop, bat, bvk, btx, bvn, bvx, bio, byo, bno, bko, bvi, bic, bvy, byc, bnn, bnc, bkn, bkc, rfl⟩ := inA_shape hB
  obtain ⟨W1, hW1⟩ : ∃ W1, (w.alloc (.cells #[.int .i64 aop, .int .i64 aat, .string atx, .int .i64 avk, .string avn, .string avx, .slice aio avi aic, .slice ayo avy ayc, .slice ano ann anc, .slice ako akn akc] 28)).alloc (.cells #[.int .i64 bop, .int .i64 bat, .string btx, .int .i64 bvk, .string bvn, .string bvx, .slice bio bvi bic, .slice byo bvy byc, .slice bno bnn bnc, .slice bko bkn bkc] 28) = W1 := ⟨_, rfl⟩
  have HX := Hid.mk (Bb.new hW1)
  have HC : Hid (Calls Tryz.prog 34 #[.pointer (some ⟨w.heap.size, 0, none⟩), .pointer (some ⟨w.heap.size + 1, 0, none⟩)] W1 fun e w' => e = .returned (.bool (sq (noA A) (noA B))) ∧ Below W1.heap.size W1 w') := w_same h A B _ 0 _ 0 W1
    (nat_box (c := c10 (.int .i64 aop) (.int .i64 aat) (.string atx) (.int .i64 avk) (.string avn) (.string avx) (.slice aio avi aic) (.slice ayo avy ayc) (.slice ano ann anc) (.slice ako akn akc)) HX.out.a (hA.low HX.out.below)) (nat_box (c := c10 (.int .i64 bop) (.int .i64 bat) (.string btx) (.int .i64 bvk) (.string bvn) (.string bvx) (.slice bio bvi bic) (.slice byo bvy byc) (.slice bno bnn bnc) (.slice bko bkn bkc)) HX.out.b (hB.low HX.out.below))
  generalize sq (noA A) (noA B) = r at *
  clear hA hB
  go_enter Tryz.func18, Tryz.ntmps18
  go_wp2_with fail
  refine HC.out.mono ?_
  rintro e w2 ⟨rfl, hb2⟩
  have HX2 := Hid.mk (HX.out.keep hb2)
  clear hb2
  go_wp2_with fail
  go_ret
  exact ⟨rfl, HX2.out.below⟩

set_option maxRecDepth 100000 in
set_option maxHeartbeats 6400000 in
theorem w_SyntaxSame (h : Nat) (A B : NT) (va vb : Value) (w : World) (hA : InA w h A va) (hB : InA w h B vb) (hE : ErrIn w) (hO : OpsIn w) : Calls Tryz.prog 5 #[va, vb] w fun e w' => e = .returned (.bool true) ∧ Below w.heap.size w w' := by
  obtain ⟨aop, aat, avk, atx, avn, avx, aio, ayo, ano, ako, avi, aic, avy, ayc, ann, anc, akn, akc, rfl⟩ := inA_shape hA
  obtain ⟨bop, bat, bvk, btx, bvn, bvx, bio, byo, bno, bko, bvi, bic, bvy, byc, bnn, bnc, bkn, bkc, rfl⟩ := inA_shape hB
  obtain ⟨W1, hW1⟩ : ∃ W1, (w.alloc (.cells #[.int .i64 aop, .int .i64 aat, .string atx, .int .i64 avk, .string avn, .string avx, .slice aio avi aic, .slice ayo avy ayc, .slice ano ann anc, .slice ako akn akc] 28)).alloc (.cells #[.int .i64 bop, .int .i64 bat, .string btx, .int .i64 bvk, .string bvn, .string bvx, .slice bio bvi bic, .slice byo bvy byc, .slice bno bnn bnc, .slice bko bkn bkc] 28) = W1 := ⟨_, rfl⟩
  have HX := Hid.mk (Bb.new hW1)
  have hLow : ∀ d os, Below w.heap.size w (grow (redrawn W1 d) os) := fun d os => HX.out.below.trans ((below_regrown W1 d os).mono HX.out.below.size)
  have HAB := Hid.mk (fun (d : Nat) (os : Array Obj) => w_SameP h A B _ _ (grow (redrawn W1 d) os) (hA.low (hLow d os)) (hB.low (hLow d os)))
  have HBA := Hid.mk (fun (d : Nat) (os : Array Obj) => w_SameP h B A _ _ (grow (redrawn W1 d) os) (hB.low (hLow d os)) (hA.low (hLow d os)))
  have HAA := Hid.mk (fun (d : Nat) (os : Array Obj) => w_SameP h A A _ _ (grow (redrawn W1 d) os) (hA.low (hLow d os)) (hA.low (hLow d os)))
  have HRf := Hid.mk (fun (d : Nat) (os : Array Obj) => w_rSameN h A B _ _ (grow (redrawn W1 d) os) (hA.low (hLow d os)) (hB.low (hLow d os)))
  have HWk := Hid.mk (fun (d : Nat) (os : Array Obj) => w_worksS (grow (redrawn W1 d) os) (hE.keep (hLow d os)) (hO.keep (hLow d os)))
  rw [sq_comm (noA B) (noA A)] at HBA
  rw [sq_yes] at HAA
  generalize sq (noA A) (noA B) = r at *
  clear hA hB hE hO hLow
  have X0 := fun d os => cell_regrown (HX.out.ca (j := 0) rfl) d os
  have Y0 := fun d os => cell_regrown (HX.out.cb (j := 0) rfl) d os
  have X1 := fun d os => cell_regrown (HX.out.ca (j := 1) rfl) d os
  have Y1 := fun d os => cell_regrown (HX.out.cb (j := 1) rfl) d os
  have X2 := fun d os => cell_regrown (HX.out.ca (j := 2) rfl) d os
  have Y2 := fun d os => cell_regrown (HX.out.cb (j := 2) rfl) d os
  have X3 := fun d os => cell_regrown (HX.out.ca (j := 3) rfl) d os
  have Y3 := fun d os => cell_regrown (HX.out.cb (j := 3) rfl) d os
  have X4 := fun d os => cell_regrown (HX.out.ca (j := 4) rfl) d os
  have Y4 := fun d os => cell_regrown (HX.out.cb (j := 4) rfl) d os
  have X5 := fun d os => cell_regrown (HX.out.ca (j := 5) rfl) d os
  have Y5 := fun d os => cell_regrown (HX.out.cb (j := 5) rfl) d os
  have X6 := fun d os => cell_regrown (HX.out.ca (j := 6) rfl) d os
  have Y6 := fun d os => cell_regrown (HX.out.cb (j := 6) rfl) d os
  have X7 := fun d os => cell_regrown (HX.out.ca (j := 7) rfl) d os
  have Y7 := fun d os => cell_regrown (HX.out.cb (j := 7) rfl) d os
  have X8 := fun d os => cell_regrown (HX.out.ca (j := 8) rfl) d os
  have Y8 := fun d os => cell_regrown (HX.out.cb (j := 8) rfl) d os
  have X9 := fun d os => cell_regrown (HX.out.ca (j := 9) rfl) d os
  have Y9 := fun d os => cell_regrown (HX.out.cb (j := 9) rfl) d os
  cases r
  all_goals
    go_enter Tryz.func5, Tryz.ntmps5
    go_wp2_with fail
    refine wp_region_quiet_below (by kernel_rfl) (by kernel_rfl) ?_
    iterate 3 (go_big_quiet_step (exact Calls.regrown_of (HAB.out _ _)))
    iterate 3 (go_big_quiet_step (exact Calls.regrown_of (HRf.out _ _)))
    iterate 2 (go_big_quiet_step (fail))
    iterate 3 (go_big_quiet_step (exact Calls.regrown_of (HBA.out _ _)))
    iterate 3 (go_big_quiet_step (exact Calls.regrown_of (HAB.out _ _)))
    iterate 3 (go_big_quiet_step (fail))
    iterate 3 (go_big_quiet_step (exact Calls.regrown_of (HAA.out _ _)))
    iterate 2 (go_big_quiet_step (fail))
    iterate 1 (go_big_quiet_step (exact Calls.regrown_of (HWk.out _ _)))
    iterate 2 (go_big_quiet_step (fail))
    refine wpQuiet_nil ?_
    intro w2 hw'
    have HB2 : Hid (Below w.heap.size w w2) := by
      obtain ⟨⟨dq, osq⟩, rfl⟩ := hw'
      exact HX.out.below.trans ((below_regrown W1 dq osq).mono HX.out.below.size)
    clear hw'
    go_wp2_with fail
    go_ret
    exact ⟨rfl, HB2.out⟩
end Go.Proofs.YtdmkfdaddacdhaaGreatDoor
namespace Go.Proofs.YtdmkfdaddacdhaaGreatDoor
open Go.RowKit Go.Shelf Go.Sort
set_option linter.unusedVariables false
set_option linter.unusedSimpArgs false
attribute [local go_sem] Oper.semAt_some

mutual
/-- how deep a filter is, as an int -/
def dpW : NT → Int
  | .mk _ _ _ _ _ ks => wrap64 (1 + dpM 0 ks)
def dpM : Int → List NT → Int
  | m, [] => m
  | m, k :: ks => dpM (max m (dpW k)) ks
end
theorem dpM_snoc : ∀ (ks : List NT) (m : Int) (k : NT), dpM m (ks ++ [k]) = max (dpM m ks) (dpW k)
  | [], m, k => by rw [List.nil_append, dpM, dpM, dpM]
  | a :: ks, m, k => by rw [List.cons_append, dpM, dpM, dpM_snoc ks]
theorem dpM_up {ks : List NT} {k : Nat} (h : k < ks.length) : dpM 0 (ks.take (k + 1)) = max (dpM 0 (ks.take k)) (dpW ks[k]) := by
  rw [List.take_succ_eq_append_getElem h, dpM_snoc]
def DpOk (h : Nat) : Prop := ∀ (A : NT) (ga oa : Nat) (w : World), NAt w h A ga oa → Calls Tryz.prog 33 #[.pointer (some ⟨ga, oa, none⟩)] w fun e w' => e = .returned (.int .i64 (dpW A)) ∧ Below w.heap.size w w'

set_option maxRecDepth 100000 in
set_option maxHeartbeats 3200000 in
theorem dp_step (h : Nat) (ih : DpOk h) : DpOk (h + 1) := by
  rintro A ga oa w hA
  obtain ⟨aio, aic, ayo, ayc, ano, anc, ako, akc, HA⟩ := hA.open_
  have HI : Hid (∀ (k : Nat) (h1 : k < A.kids.length), ∃ b off, ako = some ⟨b, off, none⟩ ∧ ∀ u, Below w.heap.size w u → Calls Tryz.prog 33 #[.pointer (some ⟨b, off + k * 10, none⟩)] u fun e w' => e = .returned (.int .i64 (dpW A.kids[k])) ∧ Below u.heap.size u w') := fun k h1 => by
    obtain ⟨b, off, e1, hr1⟩ := HA.kids (by omega)
    exact ⟨b, off, e1, fun u hu => ih _ b (off + k * 10) u (NAt.keep (hr1 k h1) hu)⟩
  have hbig := HA.kl.2
  have hcap := HA.kl.1
  have c9 := HA.c9
  have HC9 := Hid.mk HA.c9
  clear HA hA
  obtain ⟨aop, aat, atx, aV, aN, aI⟩ := A
  simp only [NT.kids] at *
  obtain ⟨R, HR⟩ : ∃ R, Hid (dpW (NT.mk aop aat atx aV aN aI) = R) := ⟨_, rfl⟩
  rw [HR.out]
  have HR2 : Hid (R = wrap64 (1 + dpM 0 aI)) := by show _ = _; rw [← HR.out, dpW]
  clear HR
  obtain ⟨N, hN⟩ : ∃ N, N = aI.length := ⟨_, rfl⟩
  rw [← hN] at hbig hcap c9 HC9
  have HN := Hid.mk hN
  clear hN
  go_enter Tryz.func33, Tryz.ntmps33
  go_wp2_with fail
  clear c9
  go_loopw [10, 3] (fun i m wr => ∃ k : Nat, k ≤ N ∧ i = .int .i64 (k : Int) ∧ m = .int .i64 (dpM 0 (aI.take k)) ∧ Hid (Below w.heap.size w wr)) (fun i _ _ => N - (intOf i).toNat)
  case atStart => exact ⟨0, Nat.zero_le _, rfl, by rw [List.take_zero, dpM], Below.refl _ _⟩
  case round =>
    obtain ⟨k, hk, rfl, rfl, HBw⟩ := hrel
    by_cases hlt : k < N
    · have hl1 : (k : Int) < (N : Int) := by omega
      have hl0 : (0 : Int) ≤ (k : Int) := by omega
      have hkx : k < aI.length := by rw [← HN.out]; exact hlt
      obtain ⟨b, off, e1, HCk⟩ := HI.out k hkx
      have t3 := (HBw.out.cell (p := ⟨ga, oa + 9, none⟩) (block_lt_of_cell HC9.out)).trans HC9.out
      rw [e1] at t3
      have HCr := Hid.mk (HCk wr HBw.out)
      have HUp := Hid.mk (dpM_up hkx)
      generalize dpW aI[k] = y at *
      generalize dpM 0 (aI.take k) = m at *
      clear e1 HCk hkx
      go_wp2_with fail
      refine HCr.out.mono ?_
      rintro e w2 ⟨rfl, hb2⟩
      have HB2 : Hid (Below w.heap.size w w2) := HBw.out.trans (hb2.mono HBw.out.size)
      clear hb2
      go_wp2_with fail
      go_roundw
      case rel => exact ⟨k + 1, by omega, by go_num, by rw [HUp.out], HB2⟩
      case measure => simp [intOf]; omega
    · have hl1 : ¬ (k : Int) < (N : Int) := by omega
      have HT : Hid (R = wrap64 (1 + dpM 0 (aI.take k))) := by
        show _ = _
        rw [HR2.out, List.take_of_length_le (by rw [← HN.out]; omega)]
      generalize dpM 0 (aI.take k) = m at *
      go_wp2_with fail
      go_ret
      exact ⟨by rw [HT.out]; rfl, HBw.out⟩
theorem w_depth : ∀ h, DpOk h
  | 0 => fun _ _ _ _ ⟨_, _, hA⟩ => hA.elim
  | h + 1 => dp_step h (w_depth h)
end Go.Proofs.YtdmkfdaddacdhaaGreatDoor
namespace Go.Proofs.YtdmkfdaddacdhaaGreatDoor
open Go.RowKit Go.Shelf Go.Sort
set_option linter.unusedVariables false
set_option linter.unusedSimpArgs false
attribute [local go_sem] Oper.semAt_some

/-- a box -/
structure B1 (w : World) (ca : Array Value) (t : TypeId) (W : World) : Prop where
  below : Below w.heap.size w W
  lt : w.heap.size < W.heap.size
  a : W.heap[w.heap.size]? = some (.cells ca t (0, 0))
theorem B1.new {w W : World} {ca : Array Value} {t : TypeId} (h : w.alloc (.cells ca t) = W) : B1 w ca t W := by
  subst h
  exact ⟨below1 w _, by simp, heap_alloc_new w _⟩
theorem B1.keep {w W W' : World} {ca : Array Value} {t : TypeId} (h : B1 w ca t W) (hb : Below W.heap.size W W') : B1 w ca t W' :=
  ⟨h.below.trans (hb.mono h.below.size), Nat.lt_of_lt_of_le h.lt hb.size, (hb.block _ h.lt).trans h.a⟩
theorem B1.ca {w W : World} {ca : Array Value} {t : TypeId} (h : B1 w ca t W) {j : Nat} {v : Value} (e : ca[j]? = some v) : W.cell? ⟨w.heap.size, j, none⟩ = some v := by rw [cell_of_row _ _ _ _ _ _ h.a]; exact e
def RdpOk (h : Nat) : Prop := ∀ (A : NT) (va : Value) (w : World), InA w h A va → Calls Tryz.prog 17 #[va] w fun e w' => e = .returned (.int .i64 (dpW A)) ∧ Below w.heap.size w w'

set_option maxRecDepth 100000 in
set_option maxHeartbeats 3200000 in
theorem rdp_step (h : Nat) (ih : RdpOk h) : RdpOk (h + 1) := by
  rintro ⟨aop, aat, atx, ⟨avk, avn, avx, avI, avK⟩, aK, aI⟩ va w ⟨aio, aic, ayo, ayc, ano, anc, ako, akc, rfl, _, a2, a3, a4, hna, hka⟩
  simp only [NT.op, NT.at_, NT.text, NT.value, NT.names, NT.kids, VT.kind, VT.num, VT.text, VT.items, VT.keys] at *
  obtain ⟨R, HR⟩ : ∃ R, Hid (dpW (NT.mk aop aat atx (VT.mk avk avn avx avI avK) aK aI) = R) := ⟨_, rfl⟩
  rw [HR.out]
  have HR2 : Hid (R = wrap64 (1 + dpM 0 aI)) := by show _ = _; rw [← HR.out, dpW]
  clear HR
  have HI : Hid (∀ (k : Nat) (h1 : k < aI.length), ∃ b off e0 e1 e2 e3 e4 e5 e6 e7 e8 e9, ako = some ⟨b, off, none⟩ ∧ ∀ u, Below w.heap.size w u → u.cell? ⟨b, off + k * 10, none⟩ = some e0 ∧ u.cell? ⟨b, off + k * 10 + 1, none⟩ = some e1 ∧ u.cell? ⟨b, off + k * 10 + 2, none⟩ = some e2 ∧ u.cell? ⟨b, off + k * 10 + 3, none⟩ = some e3 ∧ u.cell? ⟨b, off + k * 10 + 4, none⟩ = some e4 ∧ u.cell? ⟨b, off + k * 10 + 5, none⟩ = some e5 ∧ u.cell? ⟨b, off + k * 10 + 6, none⟩ = some e6 ∧ u.cell? ⟨b, off + k * 10 + 7, none⟩ = some e7 ∧ u.cell? ⟨b, off + k * 10 + 8, none⟩ = some e8 ∧ u.cell? ⟨b, off + k * 10 + 9, none⟩ = some e9 ∧ Calls Tryz.prog 17 #[.agg #[e0, e1, e2, e3, e4, e5, e6, e7, e8, e9]] u fun e w' => e = .returned (.int .i64 (dpW aI[k])) ∧ Below u.heap.size u w') := fun k h1 => by
    obtain ⟨b, off, q1, _, hl1, hr1⟩ := hka (by omega)
    obtain ⟨c, p, i1⟩ := hr1 k h1
    refine ⟨b, off, c 0, c 1, c 2, c 3, c 4, c 5, c 6, c 7, c 8, c 9, q1, fun u hu => ?_⟩
    have cc : ∀ g o v, g < w.heap.size → w.cell? ⟨g, o, none⟩ = some v → u.cell? ⟨g, o, none⟩ = some v := fun g o v hg h => (hu.cell (p := ⟨g, o, none⟩) hg).trans h
    exact ⟨cc _ _ _ hl1 (p 0), cc _ _ _ hl1 (p 1), cc _ _ _ hl1 (p 2), cc _ _ _ hl1 (p 3), cc _ _ _ hl1 (p 4), cc _ _ _ hl1 (p 5), cc _ _ _ hl1 (p 6), cc _ _ _ hl1 (p 7), cc _ _ _ hl1 (p 8), cc _ _ _ hl1 (p 9), ih _ _ u (InN.low i1 hu)⟩
  have hcap := a4.1
  have hbig := a4.2
  clear a2 a3 a4 hna hka
  generalize avI.length = avi at *
  generalize avK.length = avy at *
  generalize aK.length = ann at *
  obtain ⟨N, hN⟩ : ∃ N, N = aI.length := ⟨_, rfl⟩
  rw [← hN] at hbig hcap ⊢
  have HN := Hid.mk hN
  clear hN
  obtain ⟨W1, hW1⟩ : ∃ W1, w.alloc (.cells #[.int .i64 aop, .int .i64 aat, .string atx, .int .i64 avk, .string avn, .string avx, .slice aio avi aic, .slice ayo avy ayc, .slice ano ann anc, .slice ako N akc] 28) = W1 := ⟨_, rfl⟩
  have HX := Hid.mk (B1.new hW1)
  go_enter Tryz.func17, Tryz.ntmps17
  go_wp2_with fail
  clear hW1
  go_loopw [4, 3] (fun i m wr => ∃ k : Nat, k ≤ N ∧ i = .int .i64 (k : Int) ∧ m = .int .i64 (dpM 0 (aI.take k)) ∧ Hid (B1 w #[.int .i64 aop, .int .i64 aat, .string atx, .int .i64 avk, .string avn, .string avx, .slice aio avi aic, .slice ayo avy ayc, .slice ano ann anc, .slice ako N akc] 28 wr)) (fun i _ _ => N - (intOf i).toNat)
  case atStart => exact ⟨0, Nat.zero_le _, rfl, by rw [List.take_zero, dpM], HX⟩
  case round =>
    obtain ⟨k, hk, rfl, rfl, HBw⟩ := hrel
    have t3 := HBw.out.ca (j := 9) rfl
    by_cases hlt : k < N
    · have hl1 : (k : Int) < (N : Int) := by omega
      have hl0 : (0 : Int) ≤ (k : Int) := by omega
      have hkx : k < aI.length := by rw [← HN.out]; exact hlt
      obtain ⟨b, off, e0, e1, e2, e3, e4, e5, e6, e7, e8, e9, qq1, HCj⟩ := HI.out k hkx
      rw [qq1] at t3
      obtain ⟨z0, z1, z2, z3, z4, z5, z6, z7, z8, z9, HCk⟩ := HCj wr HBw.out.below
      have HCr := Hid.mk HCk
      have HUp := Hid.mk (dpM_up hkx)
      generalize dpW aI[k] = y at *
      generalize dpM 0 (aI.take k) = m at *
      clear qq1 HCk HCj hkx
      go_wp2_with fail
      refine HCr.out.mono ?_
      rintro e w2 ⟨rfl, hb2⟩
      have HB2 := Hid.mk (HBw.out.keep hb2)
      clear hb2 t3 z0 z1 z2 z3 z4 z5 z6 z7 z8 z9
      by_cases hgt : m < y
      · have hmx : Hid (max m y = y) := by show _ = _; omega
        go_wp2_with fail
        go_roundw
        case rel => exact ⟨k + 1, by omega, by go_num, by rw [HUp.out, hmx.out], HB2⟩
        case measure => simp [intOf]; omega
      · have hmx : Hid (max m y = m) := by show _ = _; omega
        go_wp2_with fail
        go_roundw
        case rel => exact ⟨k + 1, by omega, by go_num, by rw [HUp.out, hmx.out], HB2⟩
        case measure => simp [intOf]; omega
    · have hl1 : ¬ (k : Int) < (N : Int) := by omega
      have HT : Hid (R = wrap64 (1 + dpM 0 (aI.take k))) := by
        show _ = _
        rw [HR2.out, List.take_of_length_le (by rw [← HN.out]; omega)]
      generalize dpM 0 (aI.take k) = m at *
      go_wp2_with fail
      go_ret
      exact ⟨by rw [HT.out]; rfl, HBw.out.below⟩
theorem w_rDepth : ∀ h, RdpOk h
  | 0 => fun _ _ _ hA => hA.elim
  | h + 1 => rdp_step h (w_rDepth h)

set_option maxRecDepth 100000 in
set_option maxHeartbeats 3200000 in
theorem w_DepthP (h : Nat) (A : NT) (va : Value) (w : World) (hA : InA w h A va) : Calls Tryz.prog 16 #[va] w fun e w' => e = .returned (.int .i64 (dpW A)) ∧ Below w.heap.size w w' := by
  obtain ⟨aop, aat, avk, atx, avn, avx, aio, ayo, ano, ako, avi, aic, avy, ayc, ann, anc, akn, akc, rfl⟩ := inA_shape hA
  obtain ⟨W1, hW1⟩ : ∃ W1, w.alloc (.cells #[.int .i64 aop, .int .i64 aat, .string atx, .int .i64 avk, .string avn, .string avx, .slice aio avi aic, .slice ayo avy ayc, .slice ano ann anc, .slice ako akn akc] 28) = W1 := ⟨_, rfl⟩
  have HX := Hid.mk (B1.new hW1)
  have HC : Hid (Calls Tryz.prog 33 #[.pointer (some ⟨w.heap.size, 0, none⟩)] W1 fun e w' => e = .returned (.int .i64 (dpW A)) ∧ Below W1.heap.size W1 w') := w_depth h A _ 0 W1 (nat_box (c := c10 (.int .i64 aop) (.int .i64 aat) (.string atx) (.int .i64 avk) (.string avn) (.string avx) (.slice aio avi aic) (.slice ayo avy ayc) (.slice ano ann anc) (.slice ako akn akc)) HX.out.a (hA.low HX.out.below))
  generalize dpW A = r at *
  clear hA
  go_enter Tryz.func16, Tryz.ntmps16
  go_wp2_with fail
  refine HC.out.mono ?_
  rintro e w2 ⟨rfl, hb2⟩
  have HX2 := Hid.mk (HX.out.keep hb2)
  clear hb2
  go_wp2_with fail
  go_ret
  exact ⟨rfl, HX2.out.below⟩
end Go.Proofs.YtdmkfdaddacdhaaGreatDoor
namespace Go.Proofs.YtdmkfdaddacdhaaGreatDoor
open Go.RowKit Go.Shelf Go.Sort
set_option linter.unusedVariables false
set_option linter.unusedSimpArgs false
attribute [local go_sem] Oper.semAt_some

/-- may a part of an operation have so many kids? -/
def mfB (op m : Int) : Bool :=
  if op = 1 ∨ op = 2 ∨ op = 6 ∨ op = 35 then (m == 0) else
  if op = 3 then (decide (3 ≤ m) && (m % 2 == 1)) else
  if op = 4 then (decide (m ≤ 1)) else
  if op = 5 then (m % 2 == 0) else
  if op = 9 ∨ op = 11 ∨ op = 34 then (m == 1) else
  if op = 10 then (m == 1 || m == 2) else
  if op = 8 ∨ op = 28 ∨ op = 30 then (m == 3) else
  if op = 31 then (m == 3 || m == 4) else
  if op = 33 then (true) else
  if op = 7 ∨ op = 29 ∨ op = 32 then (m == 2) else
  (m == 2 && ((decide (12 ≤ op) && decide (op ≤ 27)) || (decide (36 ≤ op) && decide (op ≤ 43))))

set_option maxRecDepth 100000 in
set_option maxHeartbeats 6400000 in
theorem w_manyFit (op : Int) (n : Nat) (hn : n ≤ 140737488355328) (w : World) : Calls Tryz.prog 98 #[.int .i64 op, .int .i64 (n : Int)] w fun e w' => e = .returned (.bool (mfB op (n : Int))) ∧ w' = w := by
  obtain ⟨R, HR⟩ : ∃ R, Hid (mfB op (n : Int) = R) := ⟨_, rfl⟩
  rw [HR.out]
  have h0 : (0 : Int) ≤ (n : Int) := by omega
  by_cases h1 : op = 1
  · subst h1
    go_enter Tryz.func98, Tryz.ntmps98
    go_wp2_with fail
    go_ret
    exact ⟨by rw [← HR.out]; simp [mfB], rfl⟩
  have b1 : (op == 1) = false := by rw [beq_eq_false_iff_ne]; exact h1
  by_cases h2 : op = 2
  · subst h2
    go_enter Tryz.func98, Tryz.ntmps98
    go_wp2_with fail
    go_ret
    exact ⟨by rw [← HR.out]; simp [mfB], rfl⟩
  have b2 : (op == 2) = false := by rw [beq_eq_false_iff_ne]; exact h2
  by_cases h6 : op = 6
  · subst h6
    go_enter Tryz.func98, Tryz.ntmps98
    go_wp2_with fail
    go_ret
    exact ⟨by rw [← HR.out]; simp [mfB], rfl⟩
  have b6 : (op == 6) = false := by rw [beq_eq_false_iff_ne]; exact h6
  by_cases h35 : op = 35
  · subst h35
    go_enter Tryz.func98, Tryz.ntmps98
    go_wp2_with fail
    go_ret
    exact ⟨by rw [← HR.out]; simp [mfB], rfl⟩
  have b35 : (op == 35) = false := by rw [beq_eq_false_iff_ne]; exact h35
  by_cases h3 : op = 3
  · subst h3
    by_cases hm : (3 : Int) ≤ (n : Int)
    · go_enter Tryz.func98, Tryz.ntmps98
      go_wp2_with fail
      go_ret
      exact ⟨by rw [← HR.out]; simp [mfB, hm], rfl⟩
    · have hm2 : decide ((3 : Int) ≤ (n : Int)) = false := by rw [decide_eq_false_iff_not]; exact hm
      go_enter Tryz.func98, Tryz.ntmps98
      go_wp2_with fail
      go_ret
      exact ⟨by rw [← HR.out]; simp only [mfB, hm2]; rfl, rfl⟩
  have b3 : (op == 3) = false := by rw [beq_eq_false_iff_ne]; exact h3
  by_cases h4 : op = 4
  · subst h4
    go_enter Tryz.func98, Tryz.ntmps98
    go_wp2_with fail
    go_ret
    exact ⟨by rw [← HR.out]; simp [mfB], rfl⟩
  have b4 : (op == 4) = false := by rw [beq_eq_false_iff_ne]; exact h4
  by_cases h5 : op = 5
  · subst h5
    go_enter Tryz.func98, Tryz.ntmps98
    go_wp2_with fail
    go_ret
    exact ⟨by rw [← HR.out]; simp [mfB], rfl⟩
  have b5 : (op == 5) = false := by rw [beq_eq_false_iff_ne]; exact h5
  by_cases h9 : op = 9
  · subst h9
    go_enter Tryz.func98, Tryz.ntmps98
    go_wp2_with fail
    go_ret
    exact ⟨by rw [← HR.out]; simp [mfB], rfl⟩
  have b9 : (op == 9) = false := by rw [beq_eq_false_iff_ne]; exact h9
  by_cases h11 : op = 11
  · subst h11
    go_enter Tryz.func98, Tryz.ntmps98
    go_wp2_with fail
    go_ret
    exact ⟨by rw [← HR.out]; simp [mfB], rfl⟩
  have b11 : (op == 11) = false := by rw [beq_eq_false_iff_ne]; exact h11
  by_cases h34 : op = 34
  · subst h34
    go_enter Tryz.func98, Tryz.ntmps98
    go_wp2_with fail
    go_ret
    exact ⟨by rw [← HR.out]; simp [mfB], rfl⟩
  have b34 : (op == 34) = false := by rw [beq_eq_false_iff_ne]; exact h34
  by_cases h10 : op = 10
  · subst h10
    by_cases hm : n = 1
    · subst hm
      go_enter Tryz.func98, Tryz.ntmps98
      go_wp2_with fail
      go_ret
      exact ⟨by rw [← HR.out]; rfl, rfl⟩
    · have hm2 : ((n : Int) == 1) = false := by rw [beq_eq_false_iff_ne]; omega
      go_enter Tryz.func98, Tryz.ntmps98
      go_wp2_with fail
      go_ret
      exact ⟨by rw [← HR.out]; simp [mfB, hm2], rfl⟩
  have b10 : (op == 10) = false := by rw [beq_eq_false_iff_ne]; exact h10
  by_cases h8 : op = 8
  · subst h8
    go_enter Tryz.func98, Tryz.ntmps98
    go_wp2_with fail
    go_ret
    exact ⟨by rw [← HR.out]; simp [mfB], rfl⟩
  have b8 : (op == 8) = false := by rw [beq_eq_false_iff_ne]; exact h8
  by_cases h28 : op = 28
  · subst h28
    go_enter Tryz.func98, Tryz.ntmps98
    go_wp2_with fail
    go_ret
    exact ⟨by rw [← HR.out]; simp [mfB], rfl⟩
  have b28 : (op == 28) = false := by rw [beq_eq_false_iff_ne]; exact h28
  by_cases h30 : op = 30
  · subst h30
    go_enter Tryz.func98, Tryz.ntmps98
    go_wp2_with fail
    go_ret
    exact ⟨by rw [← HR.out]; simp [mfB], rfl⟩
  have b30 : (op == 30) = false := by rw [beq_eq_false_iff_ne]; exact h30
  by_cases h31 : op = 31
  · subst h31
    by_cases hm : n = 3
    · subst hm
      go_enter Tryz.func98, Tryz.ntmps98
      go_wp2_with fail
      go_ret
      exact ⟨by rw [← HR.out]; rfl, rfl⟩
    · have hm2 : ((n : Int) == 3) = false := by rw [beq_eq_false_iff_ne]; omega
      go_enter Tryz.func98, Tryz.ntmps98
      go_wp2_with fail
      go_ret
      exact ⟨by rw [← HR.out]; simp [mfB, hm2], rfl⟩
  have b31 : (op == 31) = false := by rw [beq_eq_false_iff_ne]; exact h31
  by_cases h33 : op = 33
  · subst h33
    go_enter Tryz.func98, Tryz.ntmps98
    go_wp2_with fail
    go_ret
    exact ⟨by rw [← HR.out]; simp [mfB], rfl⟩
  have b33 : (op == 33) = false := by rw [beq_eq_false_iff_ne]; exact h33
  by_cases h7 : op = 7
  · subst h7
    go_enter Tryz.func98, Tryz.ntmps98
    go_wp2_with fail
    go_ret
    exact ⟨by rw [← HR.out]; simp [mfB], rfl⟩
  have b7 : (op == 7) = false := by rw [beq_eq_false_iff_ne]; exact h7
  by_cases h29 : op = 29
  · subst h29
    go_enter Tryz.func98, Tryz.ntmps98
    go_wp2_with fail
    go_ret
    exact ⟨by rw [← HR.out]; simp [mfB], rfl⟩
  have b29 : (op == 29) = false := by rw [beq_eq_false_iff_ne]; exact h29
  by_cases h32 : op = 32
  · subst h32
    go_enter Tryz.func98, Tryz.ntmps98
    go_wp2_with fail
    go_ret
    exact ⟨by rw [← HR.out]; simp [mfB], rfl⟩
  have b32 : (op == 32) = false := by rw [beq_eq_false_iff_ne]; exact h32
  by_cases hm : n = 2
  · subst hm
    have HD : Hid (mfB op 2 = ((decide (12 ≤ op) && decide (op ≤ 27)) || (decide (36 ≤ op) && decide (op ≤ 43)))) := by show _ = _; simp [mfB, h1, h2, h6, h35, h3, h4, h5, h9, h11, h34, h10, h8, h28, h30, h31, h33, h7, h29, h32]
    clear h1 h2 h6 h35 h3 h4 h5 h9 h11 h34 h10 h8 h28 h30 h31 h33 h7 h29 h32
    by_cases c1 : (12 : Int) ≤ op
    · have d1 : decide ((12 : Int) ≤ op) = true := by rw [decide_eq_true_iff]; exact c1
      by_cases c2 : op ≤ (27 : Int)
      · have d2 : decide (op ≤ (27 : Int)) = true := by rw [decide_eq_true_iff]; exact c2
        go_enter Tryz.func98, Tryz.ntmps98
        go_wp2_with fail
        go_ret
        exact ⟨by rw [← HR.out]; show Ending.returned _ = Ending.returned (.bool (mfB op 2)); rw [HD.out, d1, d2]; rfl, rfl⟩
      · have d2 : decide (op ≤ (27 : Int)) = false := by rw [decide_eq_false_iff_not]; exact c2
        by_cases c3 : (36 : Int) ≤ op
        · have d3 : decide ((36 : Int) ≤ op) = true := by rw [decide_eq_true_iff]; exact c3
          by_cases c4 : op ≤ (43 : Int)
          · have d4 : decide (op ≤ (43 : Int)) = true := by rw [decide_eq_true_iff]; exact c4
            go_enter Tryz.func98, Tryz.ntmps98
            go_wp2_with fail
            go_ret
            exact ⟨by rw [← HR.out]; show Ending.returned _ = Ending.returned (.bool (mfB op 2)); rw [HD.out, d1, d2, d3, d4]; rfl, rfl⟩
          · have d4 : decide (op ≤ (43 : Int)) = false := by rw [decide_eq_false_iff_not]; exact c4
            go_enter Tryz.func98, Tryz.ntmps98
            go_wp2_with fail
            go_ret
            exact ⟨by rw [← HR.out]; show Ending.returned _ = Ending.returned (.bool (mfB op 2)); rw [HD.out, d1, d2, d3, d4]; rfl, rfl⟩
        · have d3 : decide ((36 : Int) ≤ op) = false := by rw [decide_eq_false_iff_not]; exact c3
          go_enter Tryz.func98, Tryz.ntmps98
          go_wp2_with fail
          go_ret
          exact ⟨by rw [← HR.out]; show Ending.returned _ = Ending.returned (.bool (mfB op 2)); rw [HD.out, d1, d2, d3]; rfl, rfl⟩
    · have d1 : decide ((12 : Int) ≤ op) = false := by rw [decide_eq_false_iff_not]; exact c1
      have d3 : decide ((36 : Int) ≤ op) = false := by rw [decide_eq_false_iff_not]; omega
      go_enter Tryz.func98, Tryz.ntmps98
      go_wp2_with fail
      go_ret
      exact ⟨by rw [← HR.out]; show Ending.returned _ = Ending.returned (.bool (mfB op 2)); rw [HD.out, d1, d3]; rfl, rfl⟩
  · have hm2 : ((n : Int) == 2) = false := by rw [beq_eq_false_iff_ne]; omega
    have HD : Hid (mfB op (n : Int) = false) := by show _ = _; simp [mfB, hm2, h1, h2, h6, h35, h3, h4, h5, h9, h11, h34, h10, h8, h28, h30, h31, h33, h7, h29, h32]
    clear h1 h2 h6 h35 h3 h4 h5 h9 h11 h34 h10 h8 h28 h30 h31 h33 h7 h29 h32
    go_enter Tryz.func98, Tryz.ntmps98
    go_wp2_with fail
    go_ret
    exact ⟨by rw [← HR.out]; rw [HD.out]; rfl, rfl⟩
end Go.Proofs.YtdmkfdaddacdhaaGreatDoor
namespace Go.Proofs.YtdmkfdaddacdhaaGreatDoor
open Go.RowKit Go.Shelf Go.Sort
set_option linter.unusedVariables false
set_option linter.unusedSimpArgs false
attribute [local go_sem] Oper.semAt_some

def vt0 : VT := .mk 0 .empty .empty [] []
def nn0 : NT := .mk 0 0 .empty vt0 [] []
theorem inH_0 (w : World) (h : Nat) : InH w (h + 1) vt0 (.agg #[.int .i64 0, .string ⟨#[]⟩, .string ⟨#[]⟩, .slice none 0 0, .slice none 0 0]) :=
  ⟨none, 0, none, 0, rfl, by decide, by decide, Nat.zero_le _, Nat.zero_le _, Nat.le_refl _, Nat.le_refl _, fun k hk => (by cases hk), ⟨fun h => absurd h (by show ¬ 0 < 0; omega)⟩, fun h => absurd h (by show ¬ 0 < 0; omega)⟩
theorem VAt.up {w : World} {h : Nat} {A : VT} {g o : Nat} (hv : VAt w h A g o) : VAt w (h + 1) A g o := by
  obtain ⟨v0, v1, v2, v3, v4, c, hi⟩ := hv
  exact ⟨v0, v1, v2, v3, v4, c, hi.up⟩

set_option maxRecDepth 100000 in
set_option maxHeartbeats 3200000 in
theorem w_isZero (h : Nat) (V : VT) (g o : Nat) (w : World) (hV : VAt w h V g o) : Calls Tryz.prog 101 #[.pointer (some ⟨g, o, none⟩)] w fun e w' => e = .returned (.bool (sq V vt0)) ∧ Below w.heap.size w w' := by
  obtain ⟨W1, hW1⟩ : ∃ W1, w.alloc (.cells #[.int .i64 0, .string ⟨#[]⟩, .string ⟨#[]⟩, .slice none 0 0, .slice none 0 0] 25) = W1 := ⟨_, rfl⟩
  have HX := Hid.mk (B1.new hW1)
  have HC : Hid (Calls Tryz.prog 63 #[.pointer (some ⟨g, o, none⟩), .pointer (some ⟨w.heap.size, 0, none⟩)] W1 fun e w' => e = .returned (.bool (sq V vt0)) ∧ Below W1.heap.size W1 w') := w_alike (h + 1) V vt0 g o _ 0 W1 (hV.keep HX.out.below).up
    ⟨_, _, _, _, _, ⟨HX.out.ca (j := 0) rfl, HX.out.ca (j := 1) rfl, HX.out.ca (j := 2) rfl, HX.out.ca (j := 3) rfl, HX.out.ca (j := 4) rfl⟩, inH_0 W1 h⟩
  generalize sq V vt0 = r at *
  clear hV
  go_enter Tryz.func101, Tryz.ntmps101
  go_wp2_with fail
  refine HC.out.mono ?_
  rintro e w2 ⟨rfl, hb2⟩
  have HX2 := Hid.mk (HX.out.keep hb2)
  clear hb2
  go_wp2_with fail
  go_ret
  exact ⟨rfl, HX2.out.below⟩

theorem noneIff {A : NT} : noA A = noA nn0 ↔ A.op = 0 ∧ A.text = .empty ∧ A.value = vt0 ∧ A.names = [] ∧ A.kids = [] := by
  rw [noA_eq]
  constructor
  · rintro ⟨h1, h2, h3, h4, h5⟩
    refine ⟨h1, h2, h3, h4, ?_⟩
    have := noAs_len_eq h5
    exact List.eq_nil_of_length_eq_zero this
  · rintro ⟨h1, h2, h3, h4, h5⟩
    exact ⟨h1, h2, h3, h4, by rw [h5]; rfl⟩
theorem ne_bytes {x : ByteArray} (h : ¬ x = .empty) : x.toList.isEmpty = false ∧ (x.toList == []) = false ∧ ¬ x.toList = [] := by
  have h1 : ¬ x.toList = [] := fun e => h (by
    rw [Lib.toList_data] at e
    exact ByteArray.ext (Array.toList_inj.1 (by rw [e]; rfl)))
  refine ⟨?_, ?_, h1⟩
  · cases hx : x.toList with
    | nil => exact absurd hx h1
    | cons a l => rfl
  · rw [beq_eq_false_iff_ne]; exact h1

set_option maxRecDepth 100000 in
set_option maxHeartbeats 3200000 in
theorem w_isNone (h : Nat) (A : NT) (g o : Nat) (w : World) (hA : NAt w (h + 1) A g o) : Calls Tryz.prog 134 #[.pointer (some ⟨g, o, none⟩)] w fun e w' => e = .returned (.bool (sq (noA A) (noA nn0))) ∧ Below w.heap.size w w' := by
  obtain ⟨aio, aic, ayo, ayc, ano, anc, ako, akc, HA⟩ := hA.open_
  obtain ⟨R, HR⟩ : ∃ R, Hid (sq (noA A) (noA nn0) = R) := ⟨_, rfl⟩
  rw [HR.out]
  have HEq : Hid (noA A = noA nn0 ↔ A.op = 0 ∧ A.text = .empty ∧ A.value = vt0 ∧ A.names = [] ∧ A.kids = []) := noneIff
  have HV : Hid (Calls Tryz.prog 101 #[.pointer (some ⟨g, o + 3, none⟩)] w fun e w' => e = .returned (.bool (sq A.value vt0)) ∧ Below w.heap.size w w') := w_isZero (h + 1) _ _ _ w HA.val
  have c0 := HA.c0
  have c2 := HA.c2
  have HP := Hid.mk (And.intro HA.c8 HA.c9)
  clear HA hA
  obtain ⟨aop, aat, atx, aV, aN, aI⟩ := A
  simp only [NT.op, NT.text, NT.value, NT.names, NT.kids] at *
  by_cases hk : aop = 0
  rotate_left
  · have HT : Hid (R = false) := HR.out.symm.trans (sq_no (fun e => hk (HEq.out.1 e).1))
    have g1 : (aop == 0) = false := by rw [beq_eq_false_iff_ne]; exact hk
    go_enter Tryz.func134, Tryz.ntmps134
    go_wp2_with fail
    go_ret
    exact ⟨by rw [HT.out]; rfl, Below.refl _ _⟩
  subst hk
  by_cases hx : atx = .empty
  rotate_left
  · have HT : Hid (R = false) := HR.out.symm.trans (sq_no (fun e => hx (HEq.out.1 e).2.1))
    obtain ⟨g2, g3, g4⟩ := ne_bytes hx
    clear hx
    go_enter Tryz.func134, Tryz.ntmps134
    go_wp2_with fail
    go_ret
    exact ⟨by rw [HT.out]; rfl, Below.refl _ _⟩
  subst hx
  by_cases hv : aV = vt0
  rotate_left
  · have HT : Hid (R = false) := HR.out.symm.trans (sq_no (fun e => hv (HEq.out.1 e).2.2.1))
    rw [sq_no hv] at HV
    go_enter Tryz.func134, Tryz.ntmps134
    go_wp2_with fail
    refine HV.out.mono ?_
    rintro e w2 ⟨rfl, hb2⟩
    have c8 := (hb2.cell (p := ⟨g, o + 8, none⟩) (block_lt_of_cell HP.out.1)).trans HP.out.1
    have c9 := (hb2.cell (p := ⟨g, o + 9, none⟩) (block_lt_of_cell HP.out.2)).trans HP.out.2
    have HB2 := Hid.mk hb2
    clear hb2
    go_wp2_with fail
    go_ret
    exact ⟨by rw [HT.out]; rfl, HB2.out⟩
  rw [sq_iff.2 hv] at HV
  have HVV := Hid.mk hv
  clear hv
  by_cases hl : aN.length = 0
  rotate_left
  · have HT : Hid (R = false) := HR.out.symm.trans (sq_no (fun e => hl (by rw [(HEq.out.1 e).2.2.2.1]; rfl)))
    have g5 : ((aN.length : Int) == 0) = false := by rw [beq_eq_false_iff_ne]; omega
    go_enter Tryz.func134, Tryz.ntmps134
    go_wp2_with fail
    refine HV.out.mono ?_
    rintro e w2 ⟨rfl, hb2⟩
    have c8 := (hb2.cell (p := ⟨g, o + 8, none⟩) (block_lt_of_cell HP.out.1)).trans HP.out.1
    have c9 := (hb2.cell (p := ⟨g, o + 9, none⟩) (block_lt_of_cell HP.out.2)).trans HP.out.2
    have HB2 := Hid.mk hb2
    clear hb2
    go_wp2_with fail
    go_ret
    exact ⟨by rw [HT.out]; rfl, HB2.out⟩
  have HN : Hid (aN = []) := List.eq_nil_of_length_eq_zero hl
  rw [hl] at HP
  clear hl
  by_cases hl : aI.length = 0
  rotate_left
  · have HT : Hid (R = false) := HR.out.symm.trans (sq_no (fun e => hl (by rw [(HEq.out.1 e).2.2.2.2]; rfl)))
    have g5 : ((aI.length : Int) == 0) = false := by rw [beq_eq_false_iff_ne]; omega
    go_enter Tryz.func134, Tryz.ntmps134
    go_wp2_with fail
    refine HV.out.mono ?_
    rintro e w2 ⟨rfl, hb2⟩
    have c8 := (hb2.cell (p := ⟨g, o + 8, none⟩) (block_lt_of_cell HP.out.1)).trans HP.out.1
    have c9 := (hb2.cell (p := ⟨g, o + 9, none⟩) (block_lt_of_cell HP.out.2)).trans HP.out.2
    have HB2 := Hid.mk hb2
    clear hb2
    go_wp2_with fail
    go_ret
    exact ⟨by rw [HT.out]; rfl, HB2.out⟩
  have HI : Hid (aI = []) := List.eq_nil_of_length_eq_zero hl
  rw [hl] at HP
  clear hl
  have HT : Hid (R = true) := HR.out.symm.trans (sq_iff.2 (HEq.out.2 ⟨by first | rfl | trivial, by first | rfl | trivial, HVV.out, HN.out, HI.out⟩))
  go_enter Tryz.func134, Tryz.ntmps134
  go_wp2_with fail
  refine HV.out.mono ?_
  rintro e w2 ⟨rfl, hb2⟩
  have c8 := (hb2.cell (p := ⟨g, o + 8, none⟩) (block_lt_of_cell HP.out.1)).trans HP.out.1
  have c9 := (hb2.cell (p := ⟨g, o + 9, none⟩) (block_lt_of_cell HP.out.2)).trans HP.out.2
  have HB2 := Hid.mk hb2
  clear hb2
  go_wp2_with fail
  go_ret
  exact ⟨by rw [HT.out]; rfl, HB2.out⟩

/-- has a part of an operation a name? -/
def nmO (op : Int) : Bool := op == 6 || op == 35 || op == 29 || op == 30 || op == 31 || op == 32 || op == 33 || op == 34
def ttB (op : Int) (tx : ByteArray) : Bool := if nmO op then plainW tx.data.toList else tx.data.toList.isEmpty
theorem empty_l {x : ByteArray} : x.data.toList.isEmpty = true ↔ x = .empty := by
  constructor
  · intro h
    exact ByteArray.ext (Array.toList_inj.1 (by rw [List.isEmpty_iff.1 h]; rfl))
  · rintro rfl; rfl

set_option maxRecDepth 100000 in
set_option maxHeartbeats 3200000 in
theorem w_textFits (h : Nat) (A : NT) (g o : Nat) (w : World) (hA : NAt w (h + 1) A g o) : Calls Tryz.prog 57 #[.pointer (some ⟨g, o, none⟩)] w fun e w' => e = .returned (.bool (ttB A.op A.text)) ∧ Below w.heap.size w w' := by
  obtain ⟨aio, aic, ayo, ayc, ano, anc, ako, akc, HA⟩ := hA.open_
  have HPl : Hid (Calls Tryz.prog 100 #[.string A.text] w fun e w' => e = .returned (.bool (plainW A.text.data.toList)) ∧ w' = w) := w_Plain A.text w (Nat.le_trans HA.tx (by decide))
  have c0 := HA.c0
  have c2 := HA.c2
  clear HA hA
  obtain ⟨aop, aat, atx, aV, aN, aI⟩ := A
  simp only [NT.op, NT.text] at *
  obtain ⟨R, HR⟩ : ∃ R, Hid (ttB aop atx = R) := ⟨_, rfl⟩
  rw [HR.out]
  by_cases h6 : aop = 6
  · subst h6
    have HT : Hid (R = plainW atx.data.toList) := HR.out.symm.trans (by unfold ttB; rw [if_pos (by decide)])
    generalize plainW atx.data.toList = r at *
    go_enter Tryz.func57, Tryz.ntmps57
    go_wp2_with fail
    refine HPl.out.mono ?_
    rintro e w2 ⟨rfl, hw2⟩
    obtain rfl := hw2.symm
    go_wp2_with fail
    go_ret
    exact ⟨by rw [HT.out]; rfl, Below.refl _ _⟩
  have b6 : (aop == 6) = false := by rw [beq_eq_false_iff_ne]; exact h6
  by_cases h35 : aop = 35
  · subst h35
    have HT : Hid (R = plainW atx.data.toList) := HR.out.symm.trans (by unfold ttB; rw [if_pos (by decide)])
    generalize plainW atx.data.toList = r at *
    go_enter Tryz.func57, Tryz.ntmps57
    go_wp2_with fail
    refine HPl.out.mono ?_
    rintro e w2 ⟨rfl, hw2⟩
    obtain rfl := hw2.symm
    go_wp2_with fail
    go_ret
    exact ⟨by rw [HT.out]; rfl, Below.refl _ _⟩
  have b35 : (aop == 35) = false := by rw [beq_eq_false_iff_ne]; exact h35
  by_cases h29 : aop = 29
  · subst h29
    have HT : Hid (R = plainW atx.data.toList) := HR.out.symm.trans (by unfold ttB; rw [if_pos (by decide)])
    generalize plainW atx.data.toList = r at *
    go_enter Tryz.func57, Tryz.ntmps57
    go_wp2_with fail
    refine HPl.out.mono ?_
    rintro e w2 ⟨rfl, hw2⟩
    obtain rfl := hw2.symm
    go_wp2_with fail
    go_ret
    exact ⟨by rw [HT.out]; rfl, Below.refl _ _⟩
  have b29 : (aop == 29) = false := by rw [beq_eq_false_iff_ne]; exact h29
  by_cases h30 : aop = 30
  · subst h30
    have HT : Hid (R = plainW atx.data.toList) := HR.out.symm.trans (by unfold ttB; rw [if_pos (by decide)])
    generalize plainW atx.data.toList = r at *
    go_enter Tryz.func57, Tryz.ntmps57
    go_wp2_with fail
    refine HPl.out.mono ?_
    rintro e w2 ⟨rfl, hw2⟩
    obtain rfl := hw2.symm
    go_wp2_with fail
    go_ret
    exact ⟨by rw [HT.out]; rfl, Below.refl _ _⟩
  have b30 : (aop == 30) = false := by rw [beq_eq_false_iff_ne]; exact h30
  by_cases h31 : aop = 31
  · subst h31
    have HT : Hid (R = plainW atx.data.toList) := HR.out.symm.trans (by unfold ttB; rw [if_pos (by decide)])
    generalize plainW atx.data.toList = r at *
    go_enter Tryz.func57, Tryz.ntmps57
    go_wp2_with fail
    refine HPl.out.mono ?_
    rintro e w2 ⟨rfl, hw2⟩
    obtain rfl := hw2.symm
    go_wp2_with fail
    go_ret
    exact ⟨by rw [HT.out]; rfl, Below.refl _ _⟩
  have b31 : (aop == 31) = false := by rw [beq_eq_false_iff_ne]; exact h31
  by_cases h32 : aop = 32
  · subst h32
    have HT : Hid (R = plainW atx.data.toList) := HR.out.symm.trans (by unfold ttB; rw [if_pos (by decide)])
    generalize plainW atx.data.toList = r at *
    go_enter Tryz.func57, Tryz.ntmps57
    go_wp2_with fail
    refine HPl.out.mono ?_
    rintro e w2 ⟨rfl, hw2⟩
    obtain rfl := hw2.symm
    go_wp2_with fail
    go_ret
    exact ⟨by rw [HT.out]; rfl, Below.refl _ _⟩
  have b32 : (aop == 32) = false := by rw [beq_eq_false_iff_ne]; exact h32
  by_cases h33 : aop = 33
  · subst h33
    have HT : Hid (R = plainW atx.data.toList) := HR.out.symm.trans (by unfold ttB; rw [if_pos (by decide)])
    generalize plainW atx.data.toList = r at *
    go_enter Tryz.func57, Tryz.ntmps57
    go_wp2_with fail
    refine HPl.out.mono ?_
    rintro e w2 ⟨rfl, hw2⟩
    obtain rfl := hw2.symm
    go_wp2_with fail
    go_ret
    exact ⟨by rw [HT.out]; rfl, Below.refl _ _⟩
  have b33 : (aop == 33) = false := by rw [beq_eq_false_iff_ne]; exact h33
  by_cases h34 : aop = 34
  · subst h34
    have HT : Hid (R = plainW atx.data.toList) := HR.out.symm.trans (by unfold ttB; rw [if_pos (by decide)])
    generalize plainW atx.data.toList = r at *
    go_enter Tryz.func57, Tryz.ntmps57
    go_wp2_with fail
    refine HPl.out.mono ?_
    rintro e w2 ⟨rfl, hw2⟩
    obtain rfl := hw2.symm
    go_wp2_with fail
    go_ret
    exact ⟨by rw [HT.out]; rfl, Below.refl _ _⟩
  have b34 : (aop == 34) = false := by rw [beq_eq_false_iff_ne]; exact h34
  have HD : Hid (R = atx.data.toList.isEmpty) := HR.out.symm.trans (by unfold ttB nmO; rw [b6, b35, b29, b30, b31, b32, b33, b34]; rfl)
  clear h6 h35 h29 h30 h31 h32 h33 h34
  by_cases hx : atx = .empty
  · subst hx
    have HT : Hid (R = true) := HD.out
    clear HD
    go_enter Tryz.func57, Tryz.ntmps57
    go_wp2_with fail
    go_ret
    exact ⟨by rw [HT.out]; rfl, Below.refl _ _⟩
  · have HT : Hid (R = false) := HD.out.trans (by cases hb : atx.data.toList.isEmpty with
      | true => exact absurd (empty_l.1 hb) hx
      | false => rfl)
    obtain ⟨g2, g3, g4⟩ := ne_bytes hx
    clear hx HD
    go_enter Tryz.func57, Tryz.ntmps57
    go_wp2_with fail
    go_ret
    exact ⟨by rw [HT.out]; rfl, Below.refl _ _⟩
end Go.Proofs.YtdmkfdaddacdhaaGreatDoor
