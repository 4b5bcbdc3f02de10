import Derived.Test.YtdmkfdaddacdhaaGreatDoorZSXl
import Derived.Test.YtdmkfdaddacdhaaGreatDoorM41
namespace Go.Proofs.YtdmkfdaddacdhaaGreatDoor
open Go.RowKit Go.Shelf Go.Sort
set_option linter.unusedVariables false
set_option linter.unusedSimpArgs false
attribute [local go_sem] Oper.semAt_some

/-- a part's cells have their kinds -/
theorem inA_shape {w : World} {h : Nat} {A : NT} {v : Value} (hA : InA w h A v) : ∃ (aop aat avk : Int) (atx avn avx : ByteArray) (aio ayo ano ako : Option Addr) (avi aic avy ayc ann anc akn akc : Nat), v = .agg #[.int .i64 aop, .int .i64 aat, .string atx, .int .i64 avk, .string avn, .string avx, .slice aio avi aic, .slice ayo avy ayc, .slice ano ann anc, .slice ako akn akc] := by
  cases h with
  | zero => exact hA.elim
  | succ h =>
    obtain ⟨io, ic, yo, yc, no, nc, ko, kc, e, _⟩ := hA
    exact ⟨_, _, _, _, _, _, _, _, _, _, _, _, _, _, _, _, _, _, e⟩
/-- a part in a box -/
theorem nat_box {w : World} {h : Nat} {A : NT} {c : Fin 10 → Value} {g : Nat} {t : TypeId} (hb : w.heap[g]? = some (.cells #[c 0, c 1, c 2, c 3, c 4, c 5, c 6, c 7, c 8, c 9] t (0, 0))) (hA : InA w h A (ndV c)) : NAt w h A g 0 := by
  obtain ⟨e0, e1, e2, e3, e4, e5, e6, e7, e8, e9⟩ := nd_cells hb
  refine ⟨c, fun j => ?_, hA⟩
  rw [Nat.zero_add]
  match j with
  | 0 => exact e0
  | 1 => exact e1
  | 2 => exact e2
  | 3 => exact e3
  | 4 => exact e4
  | 5 => exact e5
  | 6 => exact e6
  | 7 => exact e7
  | 8 => exact e8
  | 9 => exact e9
def c10 (c0 c1 c2 c3 c4 c5 c6 c7 c8 c9 : Value) : Fin 10 → Value := fun j => match j with
  | 0 => c0
  | 1 => c1
  | 2 => c2
  | 3 => c3
  | 4 => c4
  | 5 => c5
  | 6 => c6
  | 7 => c7
  | 8 => c8
  | 9 => c9

set_option maxRecDepth 100000 in
set_option maxHeartbeats 3200000 in
theorem w_SameP (h : Nat) (A B : NT) (va vb : Value) (w : World) (hA : InA w h A va) (hB : InA w h B vb) : Calls Tryz.prog 18 #[va, vb] w fun e w' => e = .returned (.bool (sq (noA A) (noA B))) ∧ Below w.heap.size w w' := by
  obtain ⟨aop, aat, avk, atx, avn, avx, aio, ayo, ano, ako, avi, aic, avy, ayc, ann, anc, akn, akc, rfl⟩ := inA_shape hA
  obtain ⟨bop, bat, bvk, btx, bvn, bvx, bio, byo, bno, bko, bvi, bic, bvy, byc, bnn, bnc, bkn, bkc, rfl⟩ := inA_shape hB
  obtain ⟨W1, hW1⟩ : ∃ W1, (w.alloc (.cells #[.int .i64 aop, .int .i64 aat, .string atx, .int .i64 avk, .string avn, .string avx, .slice aio avi aic, .slice ayo avy ayc, .slice ano ann anc, .slice ako akn akc] 28)).alloc (.cells #[.int .i64 bop, .int .i64 bat, .string btx, .int .i64 bvk, .string bvn, .string bvx, .slice bio bvi bic, .slice byo bvy byc, .slice bno bnn bnc, .slice bko bkn bkc] 28) = W1 := ⟨_, rfl⟩
  have HX := Hid.mk (Bb.new hW1)
  have HC : Hid (Calls Tryz.prog 34 #[.pointer (some ⟨w.heap.size, 0, none⟩), .pointer (some ⟨w.heap.size + 1, 0, none⟩)] W1 fun e w' => e = .returned (.bool (sq (noA A) (noA B))) ∧ Below W1.heap.size W1 w') := w_same h A B _ 0 _ 0 W1
    (nat_box (c := c10 (.int .i64 aop) (.int .i64 aat) (.string atx) (.int .i64 avk) (.string avn) (.string avx) (.slice aio avi aic) (.slice ayo avy ayc) (.slice ano ann anc) (.slice ako akn akc)) HX.out.a (hA.low HX.out.below)) (nat_box (c := c10 (.int .i64 bop) (.int .i64 bat) (.string btx) (.int .i64 bvk) (.string bvn) (.string bvx) (.slice bio bvi bic) (.slice byo bvy byc) (.slice bno bnn bnc) (.slice bko bkn bkc)) HX.out.b (hB.low HX.out.below))
  generalize sq (noA A) (noA B) = r at *
  clear hA hB
  go_enter Tryz.func18, Tryz.ntmps18
  go_wp2_with fail
  refine HC.out.mono ?_
  rintro e w2 ⟨rfl, hb2⟩
  have HX2 := Hid.mk (HX.out.keep hb2)
  clear hb2
  go_wp2_with fail
  go_ret
  exact ⟨rfl, HX2.out.below⟩

set_option maxRecDepth 100000 in
set_option maxHeartbeats 6400000 in
theorem w_SyntaxSame (h : Nat) (A B : NT) (va vb : Value) (w : World) (hA : InA w h A va) (hB : InA w h B vb) (hE : ErrIn w) (hO : OpsIn w) : Calls Tryz.prog 5 #[va, vb] w fun e w' => e = .returned (.bool true) ∧ Below w.heap.size w w' := by
  obtain ⟨aop, aat, avk, atx, avn, avx, aio, ayo, ano, ako, avi, aic, avy, ayc, ann, anc, akn, akc, rfl⟩ := inA_shape hA
  obtain ⟨bop, bat, bvk, btx, bvn, bvx, bio, byo, bno, bko, bvi, bic, bvy, byc, bnn, bnc, bkn, bkc, rfl⟩ := inA_shape hB
  obtain ⟨W1, hW1⟩ : ∃ W1, (w.alloc (.cells #[.int .i64 aop, .int .i64 aat, .string atx, .int .i64 avk, .string avn, .string avx, .slice aio avi aic, .slice ayo avy ayc, .slice ano ann anc, .slice ako akn akc] 28)).alloc (.cells #[.int .i64 bop, .int .i64 bat, .string btx, .int .i64 bvk, .string bvn, .string bvx, .slice bio bvi bic, .slice byo bvy byc, .slice bno bnn bnc, .slice bko bkn bkc] 28) = W1 := ⟨_, rfl⟩
  have HX := Hid.mk (Bb.new hW1)
  have hLow : ∀ d os, Below w.heap.size w (grow (redrawn W1 d) os) := fun d os => HX.out.below.trans ((below_regrown W1 d os).mono HX.out.below.size)
  have HAB := Hid.mk (fun (d : Nat) (os : Array Obj) => w_SameP h A B _ _ (grow (redrawn W1 d) os) (hA.low (hLow d os)) (hB.low (hLow d os)))
  have HBA := Hid.mk (fun (d : Nat) (os : Array Obj) => w_SameP h B A _ _ (grow (redrawn W1 d) os) (hB.low (hLow d os)) (hA.low (hLow d os)))
  have HAA := Hid.mk (fun (d : Nat) (os : Array Obj) => w_SameP h A A _ _ (grow (redrawn W1 d) os) (hA.low (hLow d os)) (hA.low (hLow d os)))
  have HRf := Hid.mk (fun (d : Nat) (os : Array Obj) => w_rSameN h A B _ _ (grow (redrawn W1 d) os) (hA.low (hLow d os)) (hB.low (hLow d os)))
  have HWk := Hid.mk (fun (d : Nat) (os : Array Obj) => w_worksS (grow (redrawn W1 d) os) (hE.keep (hLow d os)) (hO.keep (hLow d os)))
  rw [sq_comm (noA B) (noA A)] at HBA
  rw [sq_yes] at HAA
  generalize sq (noA A) (noA B) = r at *
  clear hA hB hE hO hLow
  have X0 := fun d os => cell_regrown (HX.out.ca (j := 0) rfl) d os
  have Y0 := fun d os => cell_regrown (HX.out.cb (j := 0) rfl) d os
  have X1 := fun d os => cell_regrown (HX.out.ca (j := 1) rfl) d os
  have Y1 := fun d os => cell_regrown (HX.out.cb (j := 1) rfl) d os
  have X2 := fun d os => cell_regrown (HX.out.ca (j := 2) rfl) d os
  have Y2 := fun d os => cell_regrown (HX.out.cb (j := 2) rfl) d os
  have X3 := fun d os => cell_regrown (HX.out.ca (j := 3) rfl) d os
  have Y3 := fun d os => cell_regrown (HX.out.cb (j := 3) rfl) d os
  have X4 := fun d os => cell_regrown (HX.out.ca (j := 4) rfl) d os
  have Y4 := fun d os => cell_regrown (HX.out.cb (j := 4) rfl) d os
  have X5 := fun d os => cell_regrown (HX.out.ca (j := 5) rfl) d os
  have Y5 := fun d os => cell_regrown (HX.out.cb (j := 5) rfl) d os
  have X6 := fun d os => cell_regrown (HX.out.ca (j := 6) rfl) d os
  have Y6 := fun d os => cell_regrown (HX.out.cb (j := 6) rfl) d os
  have X7 := fun d os => cell_regrown (HX.out.ca (j := 7) rfl) d os
  have Y7 := fun d os => cell_regrown (HX.out.cb (j := 7) rfl) d os
  have X8 := fun d os => cell_regrown (HX.out.ca (j := 8) rfl) d os
  have Y8 := fun d os => cell_regrown (HX.out.cb (j := 8) rfl) d os
  have X9 := fun d os => cell_regrown (HX.out.ca (j := 9) rfl) d os
  have Y9 := fun d os => cell_regrown (HX.out.cb (j := 9) rfl) d os
  cases r
  all_goals
    go_enter Tryz.func5, Tryz.ntmps5
    go_wp2_with fail
    refine wp_region_quiet_below (by kernel_rfl) (by kernel_rfl) ?_
    iterate 3 (go_big_quiet_step (exact Calls.regrown_of (HAB.out _ _)))
    iterate 3 (go_big_quiet_step (exact Calls.regrown_of (HRf.out _ _)))
    iterate 2 (go_big_quiet_step (fail))
    iterate 3 (go_big_quiet_step (exact Calls.regrown_of (HBA.out _ _)))
    iterate 3 (go_big_quiet_step (exact Calls.regrown_of (HAB.out _ _)))
    iterate 3 (go_big_quiet_step (fail))
    iterate 3 (go_big_quiet_step (exact Calls.regrown_of (HAA.out _ _)))
    iterate 2 (go_big_quiet_step (fail))
    iterate 1 (go_big_quiet_step (exact Calls.regrown_of (HWk.out _ _)))
    iterate 2 (go_big_quiet_step (fail))
    refine wpQuiet_nil ?_
    intro w2 hw'
    have HB2 : Hid (Below w.heap.size w w2) := by
      obtain ⟨⟨dq, osq⟩, rfl⟩ := hw'
      exact HX.out.below.trans ((below_regrown W1 dq osq).mono HX.out.below.size)
    clear hw'
    go_wp2_with fail
    go_ret
    exact ⟨rfl, HB2.out⟩
end Go.Proofs.YtdmkfdaddacdhaaGreatDoor
