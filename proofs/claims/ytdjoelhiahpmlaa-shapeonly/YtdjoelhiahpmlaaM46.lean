import Derived.Test.YtdjoelhiahpmlaaM30
import Derived.Test.YtdjoelhiahpmlaaM36
import Derived.Test.YtdjoelhiahpmlaaM32
import Derived.Test.YtdjoelhiahpmlaaM22
import Derived.Test.YtdjoelhiahpmlaaM7
namespace Go.Proofs.Ytdjoelhiahpmlaa
open Go.RowKit Go.Shelf Go.Sort
set_option linter.unusedVariables false
set_option linter.unusedSimpArgs false
attribute [local go_sem] Oper.semAt_some

set_option maxRecDepth 100000 in
set_option maxHeartbeats 1600000 in
theorem w_byBound (a b : ByteArray) (en : Int) (w : World) (he : en = -1 ∨ en = 1) (ha : a.size ≤ 140737488355328) (hb : b.size ≤ 140737488355328) : Calls Try.prog 76 #[.string a, .string b, .int .i64 en] w fun e w' => e = .returned (.int .i64 (bdC a b en)) ∧ Below w.heap.size w w' := by
  have HC := Hid.mk (fun u => w_Cmp a b u (by unfold maxLen; omega) (by unfold maxLen; omega))
  cases h1 : (a.toList == b.toList) with
  | true =>
    have HX : Hid (bdC a b en = 0) := by show _ = _; unfold bdC eqS; rw [h1]; rfl
    go_enter Try.func76, Try.ntmps76
    go_wp2_with fail
    go_ret
    exact ⟨by rw [HX.out]; rfl, Below.refl _ _⟩
  | false =>
    by_cases h2 : a.toList = []
    · have h2' : a.toList.isEmpty = true := by rw [h2]; rfl
      have HX : Hid (bdC a b en = en) := by show _ = _; unfold bdC eqS; rw [h1, h2']; rfl
      have h4 : b.toList.isEmpty = false := by
        cases h : b.toList with
        | nil => rw [h2, h] at h1; cases h1
        | cons => rfl
      have h5 : ¬ b.toList = [] := fun h => by rw [h] at h4; cases h4
      go_enter Try.func76, Try.ntmps76
      go_wp2_with fail
      go_ret
      exact ⟨by rw [HX.out]; rfl, Below.refl _ _⟩
    · have h2' : a.toList.isEmpty = false := by cases h : a.toList with | nil => exact absurd h h2 | cons => rfl
      by_cases h3 : b.toList = []
      · have h3' : b.toList.isEmpty = true := by rw [h3]; rfl
        have HX : Hid (bdC a b en = -en) := by show _ = _; unfold bdC eqS; rw [h1, h2', h3']; rfl
        rcases he with rfl | rfl
        all_goals
          go_enter Try.func76, Try.ntmps76
          go_wp2_with fail
          go_ret
          exact ⟨by rw [HX.out]; rfl, Below.refl _ _⟩
      · have h3' : b.toList.isEmpty = false := by cases h : b.toList with | nil => exact absurd h h3 | cons => rfl
        have HX : Hid (bdC a b en = Pl.cmpN a.data.toList b.data.toList) := by show _ = _; unfold bdC eqS; rw [h1, h2', h3']; rfl
        generalize Pl.cmpN a.data.toList b.data.toList = c at HC HX
        generalize Pl.errN a.data.toList b.data.toList = c2 at HC
        go_enter Try.func76, Try.ntmps76
        go_wp2_with fail
        refine (HC.out _).mono ?_
        rintro e w1 ⟨rfl, hb1⟩
        have HB := Hid.mk hb1
        clear hb1
        go_wp2_with fail
        go_ret
        exact ⟨by rw [HX.out]; rfl, HB.out⟩
end Go.Proofs.Ytdjoelhiahpmlaa
namespace Go.Proofs.Ytdjoelhiahpmlaa
open Go.RowKit Go.Shelf Go.Sort
set_option linter.unusedVariables false
set_option linter.unusedSimpArgs false
attribute [local go_sem] Oper.semAt_some

theorem w_bySet (a b : Bool) (w : World) : Calls Try.prog 68 #[.bool a, .bool b] w fun e w' => e = .returned (.int .i64 (setC a b)) ∧ w' = w := by
  cases a <;> cases b
  all_goals
    go_enter Try.func68, Try.ntmps68
    go_wp2_with fail
    go_ret
    exact ⟨by rfl, rfl⟩

theorem w_isNaNu (a : Int) (w : World) : Calls Try.prog 87 #[.int .u64 a] w fun e w' => e = .returned (.bool false) ∧ w' = w := by
  go_enter Try.func87, Try.ntmps87
  go_wp2_with fail
  go_ret
  exact ⟨by first | rfl | simp, rfl⟩
theorem w_CompareUint (a b : Int) (w : World) : Calls Try.prog 85 #[.int .u64 a, .int .u64 b] w fun e w' => e = .returned (.int .i64 (Pl.cmpI a b)) ∧ w' = w := by
  by_cases h1 : a < b
  · have HX : Hid (Pl.cmpI a b = -1) := by show _ = _; unfold Pl.cmpI; rw [if_pos h1]
    go_enter Try.func85, Try.ntmps85
    go_wp2_with fail
    refine (w_isNaNu _ _).mono ?_
    rintro e w1 ⟨rfl, rfl⟩
    go_wp2_with fail
    refine (w_isNaNu _ _).mono ?_
    rintro e w1 ⟨rfl, rfl⟩
    go_wp2_with fail
    go_ret
    exact ⟨by rw [HX.out]; rfl, rfl⟩
  · by_cases h2 : b < a
    · have HX : Hid (Pl.cmpI a b = 1) := by show _ = _; unfold Pl.cmpI; rw [if_neg h1, if_pos h2]
      go_enter Try.func85, Try.ntmps85
      go_wp2_with fail
      refine (w_isNaNu _ _).mono ?_
      rintro e w1 ⟨rfl, rfl⟩
      go_wp2_with fail
      refine (w_isNaNu _ _).mono ?_
      rintro e w1 ⟨rfl, rfl⟩
      go_wp2_with fail
      go_ret
      exact ⟨by rw [HX.out]; rfl, rfl⟩
    · have HX : Hid (Pl.cmpI a b = 0) := by show _ = _; unfold Pl.cmpI; rw [if_neg h1, if_neg h2]
      go_enter Try.func85, Try.ntmps85
      go_wp2_with fail
      refine (w_isNaNu _ _).mono ?_
      rintro e w1 ⟨rfl, rfl⟩
      go_wp2_with fail
      refine (w_isNaNu _ _).mono ?_
      rintro e w1 ⟨rfl, rfl⟩
      go_wp2_with fail
      go_ret
      exact ⟨by rw [HX.out]; rfl, rfl⟩
theorem w_byMax (a b : Int) (w : World) : Calls Try.prog 79 #[.int .i64 a, .int .i64 b] w fun e w' => e = .returned (.int .i64 (maxC a b)) ∧ w' = w := by
  have HX : Hid (maxC a b = Pl.cmpI (uiN a) (uiN b)) := rfl
  have HC := Hid.mk (fun u => w_CompareUint (uiN a) (uiN b) u)
  generalize Pl.cmpI (uiN a) (uiN b) = c at HX HC
  have e1 : ∀ x : Int, IntKind.wrap .u64 x = uiN x := fun x => rfl
  go_enter Try.func79, Try.ntmps79
  go_wp2_with fail
  refine (HC.out _).mono ?_
  rintro e w1 ⟨rfl, rfl⟩
  go_wp2_with fail
  go_ret
  exact ⟨by rw [HX.out]; rfl, rfl⟩

theorem w_Or4 (b : Nat) (x y z t : Int) (w : World) (hx : w.cell? ⟨b, 0, none⟩ = some (.int .i64 x)) (hy : w.cell? ⟨b, 1, none⟩ = some (.int .i64 y)) (hz : w.cell? ⟨b, 2, none⟩ = some (.int .i64 z)) (ht : w.cell? ⟨b, 3, none⟩ = some (.int .i64 t)) :
    Calls Try.prog 67 #[.slice (some ⟨b, 0, none⟩) 4 4] w fun e w' => e = .returned (.int .i64 (Pl.orI x (Pl.orI y (Pl.orI z t)))) ∧ w' = w := by
  by_cases h : x = 0
  · subst h
    by_cases h2 : y = 0
    · subst h2
      by_cases h3 : z = 0
      · subst h3
        by_cases h4 : t = 0
        · subst h4
          go_enter Try.func67, Try.ntmps67
          go_wp2
          refine wp_loop_rounds 5 ?_
          rw [rounds_succ]
          go_wp2
          rw [rounds_succ]
          go_wp2
          rw [rounds_succ]
          go_wp2
          rw [rounds_succ]
          go_wp2
          rw [rounds_succ]
          go_wp2
          go_ret
          exact ⟨rfl, rfl⟩
        · have HX : Hid (Pl.orI 0 (Pl.orI 0 (Pl.orI 0 t)) = t) := rfl
          have h3 : (t == 0) = false := by simp [h4]
          have h5 : (t != 0) = true := by simp [h4]
          go_enter Try.func67, Try.ntmps67
          go_wp2
          refine wp_loop_rounds 4 ?_
          rw [rounds_succ]
          go_wp2
          rw [rounds_succ]
          go_wp2
          rw [rounds_succ]
          go_wp2
          rw [rounds_succ]
          go_wp2
          go_ret
          exact ⟨by rw [HX.out]; rfl, rfl⟩
      · have HX : Hid (Pl.orI 0 (Pl.orI 0 (Pl.orI z t)) = z) := by show Pl.orI z t = z; simp [Pl.orI, h3]
        have h4 : (z == 0) = false := by simp [h3]
        have h5 : (z != 0) = true := by simp [h3]
        go_enter Try.func67, Try.ntmps67
        go_wp2
        refine wp_loop_rounds 3 ?_
        rw [rounds_succ]
        go_wp2
        rw [rounds_succ]
        go_wp2
        rw [rounds_succ]
        go_wp2
        go_ret
        exact ⟨by rw [HX.out]; rfl, rfl⟩
    · have HX : Hid (Pl.orI 0 (Pl.orI y (Pl.orI z t)) = y) := by show Pl.orI y _ = y; simp [Pl.orI, h2]
      have h4 : (y == 0) = false := by simp [h2]
      have h5 : (y != 0) = true := by simp [h2]
      go_enter Try.func67, Try.ntmps67
      go_wp2
      refine wp_loop_rounds 2 ?_
      rw [rounds_succ]
      go_wp2
      rw [rounds_succ]
      go_wp2
      go_ret
      exact ⟨by rw [HX.out]; rfl, rfl⟩
  · have HX : Hid (Pl.orI x (Pl.orI y (Pl.orI z t)) = x) := by show _ = _; simp [Pl.orI, h]
    have h3 : (x == 0) = false := by simp [h]
    have h4 : (x != 0) = true := by simp [h]
    go_enter Try.func67, Try.ntmps67
    go_wp2
    refine wp_loop_rounds 1 ?_
    rw [rounds_succ]
    go_wp2
    go_ret
    exact ⟨by rw [HX.out]; rfl, rfl⟩
end Go.Proofs.Ytdjoelhiahpmlaa
namespace Go.Proofs.Ytdjoelhiahpmlaa
open Go.RowKit Go.Shelf Go.Sort
set_option linter.unusedVariables false
set_option linter.unusedSimpArgs false
attribute [local go_sem] Oper.semAt_some

/-- shape.Cmp, at a height -/
def FcT (h : Nat) : Prop := ∀ (A B : TT) (va vb : Value) (w : World), InT w h A va → InT w h B vb → Calls Try.prog 59 #[va, vb] w fun e w' => e = .returned (.int .i64 (cmpTy h A B)) ∧ Below w.heap.size w w'
/-- byArr, at a height -/
def FcA (h : Nat) : Prop := ∀ (a b : AR) (c0 c1 c2 c3 c4 c5 c6 c7 c8 d0 d1 d2 d3 d4 d5 d6 d7 d8 : Value) (w : World), InT w h a.item (.agg #[c0, c1, c2, c3, c4, c5, c6, c7, c8]) → InT w h b.item (.agg #[d0, d1, d2, d3, d4, d5, d6, d7, d8]) →
  Calls Try.prog 73 #[.agg #[c0, c1, c2, c3, c4, c5, c6, c7, c8, .int .i64 a.min, .int .i64 a.max], .agg #[d0, d1, d2, d3, d4, d5, d6, d7, d8, .int .i64 b.min, .int .i64 b.max]] w fun e w' => e = .returned (.int .i64 (arC (cmpTy h) a b)) ∧ Below w.heap.size w w'
/-- byObj, at a height -/
def FcO (h : Nat) : Prop := ∀ (a b : OB) (ko fo mo lo go po : Option Addr) (kc fc mc lc gc pc : Nat) (c0 c1 c2 c3 c4 c5 c6 c7 c8 d0 d1 d2 d3 d4 d5 d6 d7 d8 : Value) (w : World), InO w h a ko kc fo fc mo mc c0 c1 c2 c3 c4 c5 c6 c7 c8 → InO w h b lo lc go gc po pc d0 d1 d2 d3 d4 d5 d6 d7 d8 →
  Calls Try.prog 75 #[.agg #[.slice ko a.names.length kc, .slice fo a.fields.length fc, .slice mo a.must.length mc, c0, c1, c2, c3, c4, c5, c6, c7, c8], .agg #[.slice lo b.names.length lc, .slice go b.fields.length gc, .slice po b.must.length pc, d0, d1, d2, d3, d4, d5, d6, d7, d8]] w fun e w' => e = .returned (.int .i64 (obC (cmpTy h) a b)) ∧ Below w.heap.size w w'

set_option maxRecDepth 100000 in
set_option maxHeartbeats 3200000 in
theorem w_cfBool (ao : Option Addr) (M acap : Nat) (xs : List Bool) (bo : Option Addr) (N bcap : Nat) (ys : List Bool) (w : World) (ha : BoIn w ao xs) (hb : BoIn w bo ys) (hM : xs.length = M) (hN : ys.length = N) (hac : M ≤ acap) (hbc : N ≤ bcap) (hM2 : M ≤ 140737488355328) (hN2 : N ≤ 140737488355328) :
    Calls Try.prog 80 #[.slice ao M acap, .slice bo N bcap, .func (.func 68) #[] #[]] w fun e w' => e = .returned (.int .i64 (listC setC xs ys)) ∧ w' = w := by
  have HA := Hid.mk ha
  have HB := Hid.mk hb
  have HM := Hid.mk hM
  have HN := Hid.mk hN
  clear ha hb hM hN
  go_enter Try.func80, Try.ntmps80
  go_wp2_with fail
  go_loopw [13] (fun i wr => ∃ k : Nat, k ≤ M ∧ k ≤ N ∧ i = .int .i64 (k : Int) ∧ wr = w ∧ Hid (listC setC xs ys = listC setC (xs.drop k) (ys.drop k))) (fun i _ => M - (intOf i).toNat)
  case atStart => exact ⟨0, Nat.zero_le _, Nat.zero_le _, rfl, rfl, rfl⟩
  case round =>
    obtain ⟨k, hk, hk2, rfl, rfl, HQ⟩ := hrel
    by_cases hlt : k < M
    · have hl1 : (k : Int) < (M : Int) := by omega
      have hka : k < xs.length := by rw [HM.out]; exact hlt
      obtain ⟨b, off, hko, hbl, hrow⟩ := HA.out.row (by omega)
      subst hko
      have c0 := hrow k hka
      by_cases hlt2 : k < N
      · have hl2 : ¬ (N : Int) ≤ (k : Int) := by omega
        have hl3 : (k : Int) < (N : Int) := by omega
        have hkb : k < ys.length := by rw [HN.out]; exact hlt2
        obtain ⟨b2, off2, hko2, hbl2, hrow2⟩ := HB.out.row (by omega)
        subst hko2
        have c1 := hrow2 k hkb
        have HS := Hid.mk (listC_step (c := setC) hka hkb)
        have HC := Hid.mk (fun u => w_bySet xs[k] ys[k] u)
        generalize xs[k] = x at *
        generalize ys[k] = y at *
        clear hrow hrow2 hbl hbl2 hka hkb
        by_cases h0 : setC x y = 0
        · have HN2 : Hid (listC setC xs ys = listC setC (xs.drop (k + 1)) (ys.drop (k + 1))) := by show _ = _; rw [HQ.out, HS.out, if_pos h0]
          rw [h0] at HC
          clear h0 HS
          go_wp2_with fail
          refine (HC.out _).mono ?_
          rintro e w2 ⟨rfl, hw⟩
          obtain rfl := hw.symm
          go_wp2_with fail
          go_roundw
          case rel => exact ⟨k + 1, hlt, hlt2, by go_num, by first | trivial | rfl, HN2⟩
          case measure => simp [intOf]; omega
        · have HN2 : Hid (listC setC xs ys = setC x y) := by show _ = _; rw [HQ.out, HS.out, if_neg h0]
          have h0' : (setC x y != 0) = true := by simpa using h0
          generalize setC x y = c at *
          clear h0 HS
          go_wp2_with fail
          refine (HC.out _).mono ?_
          rintro e w2 ⟨rfl, hw⟩
          obtain rfl := hw.symm
          go_wp2_with fail
          go_ret
          exact ⟨by rw [HN2.out]; rfl, rfl⟩
      · have hl2 : (N : Int) ≤ (k : Int) := by omega
        have HF : Hid (listC setC xs ys = 1) := by show _ = _; rw [HQ.out]; exact listC_more hka (by rw [HN.out]; omega)
        generalize xs[k] = x at c0
        clear hrow hbl hka
        go_wp2_with fail
        go_ret
        exact ⟨by rw [HF.out]; rfl, rfl⟩
    · have hl1 : ¬ (k : Int) < (M : Int) := by omega
      by_cases hlt2 : M < N
      · have hl2 : (M : Int) < (N : Int) := by omega
        have HF : Hid (listC setC xs ys = -1) := by show _ = _; rw [HQ.out]; exact listC_less (by rw [HM.out]; omega) (by rw [HN.out]; omega)
        go_wp2_with fail
        go_ret
        exact ⟨by rw [HF.out]; rfl, rfl⟩
      · have hl2 : ¬ (M : Int) < (N : Int) := by omega
        have HF : Hid (listC setC xs ys = 0) := by show _ = _; rw [HQ.out]; exact listC_even (by rw [HM.out]; omega) (by rw [HN.out]; omega)
        go_wp2_with fail
        go_ret
        exact ⟨by rw [HF.out]; rfl, rfl⟩

end Go.Proofs.Ytdjoelhiahpmlaa
namespace Go.Proofs.Ytdjoelhiahpmlaa
open Go.RowKit Go.Shelf Go.Sort
set_option linter.unusedVariables false
set_option linter.unusedSimpArgs false
attribute [local go_sem] Oper.semAt_some

set_option maxRecDepth 100000 in
set_option maxHeartbeats 1600000 in
theorem w_bySpan (al ah bl bh : ByteArray) (w : World) (h1 : al.size ≤ 140737488355328) (h2 : ah.size ≤ 140737488355328) (h3 : bl.size ≤ 140737488355328) (h4 : bh.size ≤ 140737488355328) : Calls Try.prog 70 #[.agg #[.string al, .string ah], .agg #[.string bl, .string bh]] w fun e w' => e = .returned (.int .i64 (spC (al, ah) (bl, bh))) ∧ Below w.heap.size w w' := by
  have HX := Hid.mk (bx2_new w #[.string al, .string ah] #[.string bl, .string bh] 42)
  obtain ⟨W0, hW0⟩ : ∃ W0, (w.alloc (.cells #[.string al, .string ah] 42)).alloc (.cells #[.string bl, .string bh] 42) = W0 := ⟨_, rfl⟩
  rw [hW0] at HX
  have c0 : W0.cell? ⟨w.heap.size, 0, none⟩ = some (.string al) := HX.out.one 0
  have c1 : W0.cell? ⟨w.heap.size, 1, none⟩ = some (.string ah) := HX.out.one 1
  have c2 : W0.cell? ⟨w.heap.size + 1, 0, none⟩ = some (.string bl) := HX.out.two 0
  have c3 : W0.cell? ⟨w.heap.size + 1, 1, none⟩ = some (.string bh) := HX.out.two 1
  have HG : Hid (spC (al, ah) (bl, bh) = Pl.orI (bdC al bl (-1)) (bdC ah bh 1)) := rfl
  have C1 := Hid.mk (fun (d : Nat) (os : Array Obj) => w_byBound al bl (-1) (grow (redrawn W0 d) os) (.inl rfl) h1 h3)
  have C2 := Hid.mk (fun (d : Nat) (os : Array Obj) => w_byBound ah bh 1 (grow (redrawn W0 d) os) (.inr rfl) h2 h4)
  generalize bdC al bl (-1) = x at C1 HG
  generalize bdC ah bh 1 = y at C2 HG
  have A0 := fun d os => cell_regrown c0 d os
  have A1 := fun d os => cell_regrown c1 d os
  have A2 := fun d os => cell_regrown c2 d os
  have A3 := fun d os => cell_regrown c3 d os
  clear h1 h2 h3 h4
  go_enter Try.func70, Try.ntmps70
  go_wp2_with fail
  refine wp_region_quiet_at 10 (by kernel_rfl) (by kernel_rfl) (by kernel_rfl) (by kernel_rfl) (by kernel_rfl) ?_
  simp only [List.take_succ_cons, List.take_zero, List.drop_succ_cons, List.drop_zero]
  iterate 5 (go_big_quiet_step (exact Calls.regrown_of (C1.out _ _)))
  iterate 5 (go_big_quiet_step (exact Calls.regrown_of (C2.out _ _)))
  refine wpQuiet_nil ?_
  intro w9 hw'
  have hb9 : Below W0.heap.size W0 w9 := by
    obtain ⟨⟨dq, osq⟩, rfl⟩ := hw'
    exact below_regrown W0 dq osq
  have HX9 := Hid.mk (HX.out.keep hb9)
  clear hw' hb9 hW0 A0 A1 A2 A3 c0 c1 c2 c3 C1 C2
  go_wp2_with fail
  refine (w_Or2 w9.heap.size x y _ (by simp) (by simp)).mono ?_
  rintro e w1 ⟨rfl, rfl⟩
  go_wp2_with fail
  go_ret
  exact ⟨by rw [HG.out]; rfl, HX9.out.below.alloc HX9.out.below.size _⟩
end Go.Proofs.Ytdjoelhiahpmlaa
namespace Go.Proofs.Ytdjoelhiahpmlaa
open Go.RowKit Go.Shelf Go.Sort
set_option linter.unusedVariables false
set_option linter.unusedSimpArgs false
attribute [local go_sem] Oper.semAt_some


set_option maxRecDepth 100000 in
set_option maxHeartbeats 6400000 in
theorem w_cfSpan (ao : Option Addr) (M acap : Nat) (xs : List (ByteArray × ByteArray)) (bo : Option Addr) (N bcap : Nat) (ys : List (ByteArray × ByteArray)) (w : World) (ha : SpIn w ao xs) (hb : SpIn w bo ys) (hM : xs.length = M) (hN : ys.length = N) (hac : M ≤ acap) (hbc : N ≤ bcap) (hM2 : M ≤ 140737488355328) (hN2 : N ≤ 140737488355328) (hsx : ∀ p ∈ xs, p.1.size ≤ 140737488355328 ∧ p.2.size ≤ 140737488355328) (hsy : ∀ p ∈ ys, p.1.size ≤ 140737488355328 ∧ p.2.size ≤ 140737488355328) :
    Calls Try.prog 69 #[.slice ao M acap, .slice bo N bcap, .func (.func 70) #[] #[]] w fun e w' => e = .returned (.int .i64 (listC spC xs ys)) ∧ Below w.heap.size w w' := by
  have HA := Hid.mk ha
  have HB := Hid.mk hb
  have HM := Hid.mk hM
  have HN := Hid.mk hN
  have HSX := Hid.mk hsx
  have HSY := Hid.mk hsy
  clear hsx hsy
  clear ha hb hM hN
  go_enter Try.func69, Try.ntmps69
  go_wp2_with fail
  go_loopw [13] (fun i wr => ∃ k : Nat, k ≤ M ∧ k ≤ N ∧ i = .int .i64 (k : Int) ∧ Hid (Below w.heap.size w wr) ∧ Hid (listC spC xs ys = listC spC (xs.drop k) (ys.drop k))) (fun i _ => M - (intOf i).toNat)
  case atStart => exact ⟨0, Nat.zero_le _, Nat.zero_le _, rfl, Below.refl _ _, rfl⟩
  case round =>
    obtain ⟨k, hk, hk2, rfl, HBw, HQ⟩ := hrel
    by_cases hlt : k < M
    · have hl1 : (k : Int) < (M : Int) := by omega
      have hka : k < xs.length := by rw [HM.out]; exact hlt
      obtain ⟨b, off, hko, hbl, hrow⟩ := (HA.out.keep HBw.out).row (by omega)
      subst hko
      obtain ⟨c0, c1⟩ := hrow k hka
      have hz1 := HSX.out _ (List.getElem_mem hka)
      by_cases hlt2 : k < N
      · have hl2 : ¬ (N : Int) ≤ (k : Int) := by omega
        have hl3 : (k : Int) < (N : Int) := by omega
        have hkb : k < ys.length := by rw [HN.out]; exact hlt2
        obtain ⟨b2, off2, hko2, hbl2, hrow2⟩ := (HB.out.keep HBw.out).row (by omega)
        subst hko2
        obtain ⟨d0, d1⟩ := hrow2 k hkb
        have hz2 := HSY.out _ (List.getElem_mem hkb)
        have HBx := Hid.mk (below2 wr (.cells #[.string xs[k].1, .string xs[k].2] 42) (.cells #[.string ys[k].1, .string ys[k].2] 42))
        have HS := Hid.mk (listC_step (c := spC) hka hkb)
        have HC := Hid.mk (w_bySpan xs[k].1 xs[k].2 ys[k].1 ys[k].2 ((wr.alloc (.cells #[.string xs[k].1, .string xs[k].2] 42)).alloc (.cells #[.string ys[k].1, .string ys[k].2] 42)) hz1.1 hz1.2 hz2.1 hz2.2)
        have e0 : ∀ j o, (wr.alloc o).cell? ⟨b2, j, none⟩ = wr.cell? ⟨b2, j, none⟩ := fun j o => (below1 wr o).cell (p := ⟨b2, j, none⟩) hbl2
        have d0' := fun o => (e0 _ o).trans d0
        have d1' := fun o => (e0 _ o).trans d1
        generalize spC xs[k] ys[k] = c at *
        generalize xs[k].1 = g0 at *
        generalize xs[k].2 = g1 at *
        generalize ys[k].1 = g2 at *
        generalize ys[k].2 = g3 at *
        clear hrow hrow2 hbl hbl2 hka hkb hz1 hz2 e0 d0 d1
        by_cases h0 : c = 0
        · have HN2 : Hid (listC spC xs ys = listC spC (xs.drop (k + 1)) (ys.drop (k + 1))) := by show _ = _; rw [HQ.out, HS.out, if_pos h0]
          subst h0
          clear HS
          go_wp2_with fail
          refine HC.out.mono ?_
          rintro e w2 ⟨rfl, hb2⟩
          have HB2 := Hid.mk (HBw.out.trans ((below_more HBx.out hb2).mono HBw.out.size))
          clear hb2 c0 c1 d0' d1'
          go_wp2_with fail
          go_roundw
          case rel => exact ⟨k + 1, hlt, hlt2, by go_num, HB2, HN2⟩
          case measure => simp [intOf]; omega
        · have HN2 : Hid (listC spC xs ys = c) := by show _ = _; rw [HQ.out, HS.out, if_neg h0]
          have h0' : (c != 0) = true := by simpa using h0
          clear h0 HS
          go_wp2_with fail
          refine HC.out.mono ?_
          rintro e w2 ⟨rfl, hb2⟩
          have HB2 := Hid.mk (HBw.out.trans ((below_more HBx.out hb2).mono HBw.out.size))
          clear hb2 c0 c1 d0' d1'
          go_wp2_with fail
          go_ret
          exact ⟨by rw [HN2.out]; rfl, HB2.out⟩
      · have hl2 : (N : Int) ≤ (k : Int) := by omega
        have HF : Hid (listC spC xs ys = 1) := by show _ = _; rw [HQ.out]; exact listC_more hka (by rw [HN.out]; omega)
        have HBx := Hid.mk (HBw.out.trans ((below1 wr (.cells #[.string xs[k].1, .string xs[k].2] 42)).mono HBw.out.size))
        clear hrow hbl hz1
        generalize xs[k].1 = g0 at *
        generalize xs[k].2 = g1 at *
        clear hka
        go_wp2_with fail
        go_ret
        exact ⟨by rw [HF.out]; rfl, HBx.out⟩
    · have hl1 : ¬ (k : Int) < (M : Int) := by omega
      by_cases hlt2 : M < N
      · have hl2 : (M : Int) < (N : Int) := by omega
        have HF : Hid (listC spC xs ys = -1) := by show _ = _; rw [HQ.out]; exact listC_less (by rw [HM.out]; omega) (by rw [HN.out]; omega)
        go_wp2_with fail
        go_ret
        exact ⟨by rw [HF.out]; rfl, HBw.out⟩
      · have hl2 : ¬ (M : Int) < (N : Int) := by omega
        have HF : Hid (listC spC xs ys = 0) := by show _ = _; rw [HQ.out]; exact listC_even (by rw [HM.out]; omega) (by rw [HN.out]; omega)
        go_wp2_with fail
        go_ret
        exact ⟨by rw [HF.out]; rfl, HBw.out⟩
end Go.Proofs.Ytdjoelhiahpmlaa
namespace Go.Proofs.Ytdjoelhiahpmlaa
open Go.RowKit Go.Shelf Go.Sort
set_option linter.unusedVariables false
set_option linter.unusedSimpArgs false
attribute [local go_sem] Oper.semAt_some


section
variable (b0 b1 b2 b3 : Bool) (no : Option Addr) (nn nc : Nat) (b5 : Bool) (xo : Option Addr) (nx xc : Nat) (ao : Option Addr) (NA ac : Nat) (oo : Option Addr) (NO oc : Nat) (e0 e1 e2 e3 : Bool) (no2 : Option Addr) (nn2 nc2 : Nat) (e5 : Bool) (xo2 : Option Addr) (nx2 xc2 : Nat) (ao2 : Option Addr) (NA2 ac2 : Nat) (oo2 : Option Addr) (NO2 oc2 : Nat) (w : World) (B : Nat)

set_option maxRecDepth 100000 in
set_option maxHeartbeats 3200000 in
theorem w_byFlags (hx : AskBx w B b0 b1 b2 b3 no nn nc b5 xo nx xc ao NA ac oo NO oc) : Calls Try.prog 61 #[.pointer (some ⟨B, 0, none⟩), .agg #[.bool e0, .bool e1, .bool e2, .bool e3, .slice no2 nn2 nc2, .bool e5, .slice xo2 nx2 xc2, .slice ao2 NA2 ac2, .slice oo2 NO2 oc2]] w fun e w' => e = .returned (.int .i64 (Pl.orI (setC b0 e0) (Pl.orI (setC b1 e1) (Pl.orI (setC b2 e2) (setC b3 e3))))) ∧ Below w.heap.size w w' := by
  have HX := Hid.mk (tbx_new w (.bool e0) (.bool e1) (.bool e2) (.bool e3) (.slice no2 nn2 nc2) (.bool e5) (.slice xo2 nx2 xc2) (.slice ao2 NA2 ac2) (.slice oo2 NO2 oc2))
  obtain ⟨W0, hW0⟩ : ∃ W0, w.alloc (.cells #[.bool e0, .bool e1, .bool e2, .bool e3, .slice no2 nn2 nc2, .bool e5, .slice xo2 nx2 xc2, .slice ao2 NA2 ac2, .slice oo2 NO2 oc2] 33) = W0 := ⟨_, rfl⟩
  rw [hW0] at HX
  have HA := Hid.mk (hx.keep (W' := W0) (by rw [← hW0]; exact below1 _ _))
  clear hx
  obtain ⟨⟨a0, a1, a2, a3, a4, a5, a6, a7, a8⟩, _⟩ := HA.out
  obtain ⟨_, q0, q1, q2, q3, q4, q5, q6, q7, q8, _⟩ := HX.out
  simp only [Nat.zero_add] at a1 a2 a3 a4 a5 a6 a7 a8
  have C0 := Hid.mk (fun (d : Nat) (os : Array Obj) => (w_bySet b0 e0 (grow (redrawn W0 d) os)).mono (fun e w' k => (⟨k.1, by rw [k.2]; exact Below.refl _ _⟩ : e = .returned (.int .i64 (setC b0 e0)) ∧ Below (grow (redrawn W0 d) os).heap.size (grow (redrawn W0 d) os) w')))
  have C1 := Hid.mk (fun (d : Nat) (os : Array Obj) => (w_bySet b1 e1 (grow (redrawn W0 d) os)).mono (fun e w' k => (⟨k.1, by rw [k.2]; exact Below.refl _ _⟩ : e = .returned (.int .i64 (setC b1 e1)) ∧ Below (grow (redrawn W0 d) os).heap.size (grow (redrawn W0 d) os) w')))
  have C2 := Hid.mk (fun (d : Nat) (os : Array Obj) => (w_bySet b2 e2 (grow (redrawn W0 d) os)).mono (fun e w' k => (⟨k.1, by rw [k.2]; exact Below.refl _ _⟩ : e = .returned (.int .i64 (setC b2 e2)) ∧ Below (grow (redrawn W0 d) os).heap.size (grow (redrawn W0 d) os) w')))
  have C3 := Hid.mk (fun (d : Nat) (os : Array Obj) => (w_bySet b3 e3 (grow (redrawn W0 d) os)).mono (fun e w' k => (⟨k.1, by rw [k.2]; exact Below.refl _ _⟩ : e = .returned (.int .i64 (setC b3 e3)) ∧ Below (grow (redrawn W0 d) os).heap.size (grow (redrawn W0 d) os) w')))
  have HG : Hid (Pl.orI (setC b0 e0) (Pl.orI (setC b1 e1) (Pl.orI (setC b2 e2) (setC b3 e3))) = Pl.orI (setC b0 e0) (Pl.orI (setC b1 e1) (Pl.orI (setC b2 e2) (setC b3 e3)))) := rfl
  obtain ⟨R, hR⟩ : ∃ R, Pl.orI (setC b0 e0) (Pl.orI (setC b1 e1) (Pl.orI (setC b2 e2) (setC b3 e3))) = R := ⟨_, rfl⟩
  have HR := Hid.mk hR.symm
  rw [hR]
  clear hR HG
  generalize setC b0 e0 = x0 at C0 HR
  generalize setC b1 e1 = x1 at C1 HR
  generalize setC b2 e2 = x2 at C2 HR
  generalize setC b3 e3 = x3 at C3 HR
  have A0 := fun d os => cell_regrown a0 d os
  have Q0 := fun d os => cell_regrown q0 d os
  have A1 := fun d os => cell_regrown a1 d os
  have Q1 := fun d os => cell_regrown q1 d os
  have A2 := fun d os => cell_regrown a2 d os
  have Q2 := fun d os => cell_regrown q2 d os
  have A3 := fun d os => cell_regrown a3 d os
  have Q3 := fun d os => cell_regrown q3 d os
  clear a4 a5 a6 a7 a8 q4 q5 q6 q7 q8
  go_enter Try.func61, Try.ntmps61
  go_wp2_with fail
  refine wp_region_quiet_at 28 (by kernel_rfl) (by kernel_rfl) (by kernel_rfl) (by kernel_rfl) (by kernel_rfl) ?_
  simp only [List.take_succ_cons, List.take_zero, List.drop_succ_cons, List.drop_zero]
  iterate 7 (go_big_quiet_step (exact Calls.regrown_of (C0.out _ _)))
  iterate 7 (go_big_quiet_step (exact Calls.regrown_of (C1.out _ _)))
  iterate 7 (go_big_quiet_step (exact Calls.regrown_of (C2.out _ _)))
  iterate 7 (go_big_quiet_step (exact Calls.regrown_of (C3.out _ _)))
  refine wpQuiet_nil ?_
  intro w9 hw'
  have hb9 : Below W0.heap.size W0 w9 := by
    obtain ⟨⟨dq, osq⟩, rfl⟩ := hw'
    exact below_regrown W0 dq osq
  have HX9 := Hid.mk (HX.out.keep hb9)
  clear hw' hb9 hW0 A0 A1 A2 A3 Q0 Q1 Q2 Q3 a0 a1 a2 a3 q0 q1 q2 q3 C0 C1 C2 C3
  go_wp2_with fail
  refine (w_Or4 w9.heap.size x0 x1 x2 x3 _ (by simp) (by simp) (by simp) (by simp)).mono ?_
  rintro e w1 ⟨rfl, rfl⟩
  go_wp2_with fail
  go_ret
  exact ⟨by rw [HR.out]; rfl, HX9.out.below.alloc HX9.out.below.size _⟩

set_option maxRecDepth 100000 in
set_option maxHeartbeats 3200000 in
theorem w_byAnyText (hx : AskBx w B b0 b1 b2 b3 no nn nc b5 xo nx xc ao NA ac oo NO oc) : Calls Try.prog 63 #[.pointer (some ⟨B, 0, none⟩), .agg #[.bool e0, .bool e1, .bool e2, .bool e3, .slice no2 nn2 nc2, .bool e5, .slice xo2 nx2 xc2, .slice ao2 NA2 ac2, .slice oo2 NO2 oc2]] w fun e w' => e = .returned (.int .i64 (setC b5 e5)) ∧ Below w.heap.size w w' := by
  have HX := Hid.mk (tbx_new w (.bool e0) (.bool e1) (.bool e2) (.bool e3) (.slice no2 nn2 nc2) (.bool e5) (.slice xo2 nx2 xc2) (.slice ao2 NA2 ac2) (.slice oo2 NO2 oc2))
  obtain ⟨W0, hW0⟩ : ∃ W0, w.alloc (.cells #[.bool e0, .bool e1, .bool e2, .bool e3, .slice no2 nn2 nc2, .bool e5, .slice xo2 nx2 xc2, .slice ao2 NA2 ac2, .slice oo2 NO2 oc2] 33) = W0 := ⟨_, rfl⟩
  rw [hW0] at HX
  have HA := Hid.mk (hx.keep (W' := W0) (by rw [← hW0]; exact below1 _ _))
  clear hx
  obtain ⟨⟨a0, a1, a2, a3, a4, a5, a6, a7, a8⟩, _⟩ := HA.out
  obtain ⟨_, q0, q1, q2, q3, q4, q5, q6, q7, q8, _⟩ := HX.out
  simp only [Nat.zero_add] at a1 a2 a3 a4 a5 a6 a7 a8
  have C1 := Hid.mk (fun (d : Nat) (os : Array Obj) => (w_bySet b5 e5 (grow (redrawn W0 d) os)).mono (fun e w' k => (⟨k.1, by rw [k.2]; exact Below.refl _ _⟩ : e = .returned (.int .i64 (setC b5 e5)) ∧ Below (grow (redrawn W0 d) os).heap.size (grow (redrawn W0 d) os) w')))
  generalize setC b5 e5 = x at C1 ⊢
  have A0 := fun d os => cell_regrown a5 d os
  have Q0 := fun d os => cell_regrown q5 d os
  clear a0 q0 a1 q1 a2 q2 a3 q3 a4 q4 a6 q6 a7 q7 a8 q8
  go_enter Try.func63, Try.ntmps63
  go_wp2_with fail
  refine wp_region_quiet_below (by kernel_rfl) (by kernel_rfl) ?_
  repeat (go_big_quiet_step (exact Calls.regrown_of (C1.out _ _)))
  refine wpQuiet_nil ?_
  intro w9 hw'
  have hb9 : Below W0.heap.size W0 w9 := by
    obtain ⟨⟨dq, osq⟩, rfl⟩ := hw'
    exact below_regrown W0 dq osq
  have HX9 := Hid.mk (HX.out.keep hb9)
  clear hw' hb9 hW0 A0 Q0
  go_wp2_with fail
  go_ret
  exact ⟨by first | rfl | simp, HX9.out.below⟩

set_option maxRecDepth 100000 in
set_option maxHeartbeats 3200000 in
theorem w_byNums (hx : AskBx w B b0 b1 b2 b3 no nn nc b5 xo nx xc ao NA ac oo NO oc) (c : Int) (HC : Hid (∀ u, Below w.heap.size w u → Calls Try.prog 69 #[.slice no nn nc, .slice no2 nn2 nc2, .func (.func 70) #[] #[]] u fun e w' => e = .returned (.int .i64 c) ∧ Below u.heap.size u w')) : Calls Try.prog 62 #[.pointer (some ⟨B, 0, none⟩), .agg #[.bool e0, .bool e1, .bool e2, .bool e3, .slice no2 nn2 nc2, .bool e5, .slice xo2 nx2 xc2, .slice ao2 NA2 ac2, .slice oo2 NO2 oc2]] w fun e w' => e = .returned (.int .i64 (c)) ∧ Below w.heap.size w w' := by
  have HX := Hid.mk (tbx_new w (.bool e0) (.bool e1) (.bool e2) (.bool e3) (.slice no2 nn2 nc2) (.bool e5) (.slice xo2 nx2 xc2) (.slice ao2 NA2 ac2) (.slice oo2 NO2 oc2))
  obtain ⟨W0, hW0⟩ : ∃ W0, w.alloc (.cells #[.bool e0, .bool e1, .bool e2, .bool e3, .slice no2 nn2 nc2, .bool e5, .slice xo2 nx2 xc2, .slice ao2 NA2 ac2, .slice oo2 NO2 oc2] 33) = W0 := ⟨_, rfl⟩
  rw [hW0] at HX
  have HA := Hid.mk (hx.keep (W' := W0) (by rw [← hW0]; exact below1 _ _))
  clear hx
  obtain ⟨⟨a0, a1, a2, a3, a4, a5, a6, a7, a8⟩, _⟩ := HA.out
  obtain ⟨_, q0, q1, q2, q3, q4, q5, q6, q7, q8, _⟩ := HX.out
  simp only [Nat.zero_add] at a1 a2 a3 a4 a5 a6 a7 a8
  have C1 := Hid.mk (fun (d : Nat) (os : Array Obj) => HC.out (grow (redrawn W0 d) os) (HX.out.below.trans ((below_regrown W0 d os).mono HX.out.below.size)))
  have A0 := fun d os => cell_regrown a4 d os
  have Q0 := fun d os => cell_regrown q4 d os
  clear a0 q0 a1 q1 a2 q2 a3 q3 a5 q5 a6 q6 a7 q7 a8 q8
  go_enter Try.func62, Try.ntmps62
  go_wp2_with fail
  refine wp_region_quiet_below (by kernel_rfl) (by kernel_rfl) ?_
  repeat (go_big_quiet_step (exact Calls.regrown_of (C1.out _ _)))
  refine wpQuiet_nil ?_
  intro w9 hw'
  have hb9 : Below W0.heap.size W0 w9 := by
    obtain ⟨⟨dq, osq⟩, rfl⟩ := hw'
    exact below_regrown W0 dq osq
  have HX9 := Hid.mk (HX.out.keep hb9)
  clear hw' hb9 hW0 A0 Q0
  go_wp2_with fail
  go_ret
  exact ⟨by first | rfl | simp, HX9.out.below⟩

set_option maxRecDepth 100000 in
set_option maxHeartbeats 3200000 in
theorem w_byTexts (hx : AskBx w B b0 b1 b2 b3 no nn nc b5 xo nx xc ao NA ac oo NO oc) (c : Int) (HC : Hid (∀ u, Below w.heap.size w u → Calls Try.prog 71 #[.slice xo nx xc, .slice xo2 nx2 xc2] u fun e w' => e = .returned (.int .i64 c) ∧ Below u.heap.size u w')) : Calls Try.prog 64 #[.pointer (some ⟨B, 0, none⟩), .agg #[.bool e0, .bool e1, .bool e2, .bool e3, .slice no2 nn2 nc2, .bool e5, .slice xo2 nx2 xc2, .slice ao2 NA2 ac2, .slice oo2 NO2 oc2]] w fun e w' => e = .returned (.int .i64 (c)) ∧ Below w.heap.size w w' := by
  have HX := Hid.mk (tbx_new w (.bool e0) (.bool e1) (.bool e2) (.bool e3) (.slice no2 nn2 nc2) (.bool e5) (.slice xo2 nx2 xc2) (.slice ao2 NA2 ac2) (.slice oo2 NO2 oc2))
  obtain ⟨W0, hW0⟩ : ∃ W0, w.alloc (.cells #[.bool e0, .bool e1, .bool e2, .bool e3, .slice no2 nn2 nc2, .bool e5, .slice xo2 nx2 xc2, .slice ao2 NA2 ac2, .slice oo2 NO2 oc2] 33) = W0 := ⟨_, rfl⟩
  rw [hW0] at HX
  have HA := Hid.mk (hx.keep (W' := W0) (by rw [← hW0]; exact below1 _ _))
  clear hx
  obtain ⟨⟨a0, a1, a2, a3, a4, a5, a6, a7, a8⟩, _⟩ := HA.out
  obtain ⟨_, q0, q1, q2, q3, q4, q5, q6, q7, q8, _⟩ := HX.out
  simp only [Nat.zero_add] at a1 a2 a3 a4 a5 a6 a7 a8
  have C1 := Hid.mk (fun (d : Nat) (os : Array Obj) => HC.out (grow (redrawn W0 d) os) (HX.out.below.trans ((below_regrown W0 d os).mono HX.out.below.size)))
  have A0 := fun d os => cell_regrown a6 d os
  have Q0 := fun d os => cell_regrown q6 d os
  clear a0 q0 a1 q1 a2 q2 a3 q3 a4 q4 a5 q5 a7 q7 a8 q8
  go_enter Try.func64, Try.ntmps64
  go_wp2_with fail
  refine wp_region_quiet_below (by kernel_rfl) (by kernel_rfl) ?_
  repeat (go_big_quiet_step (exact Calls.regrown_of (C1.out _ _)))
  refine wpQuiet_nil ?_
  intro w9 hw'
  have hb9 : Below W0.heap.size W0 w9 := by
    obtain ⟨⟨dq, osq⟩, rfl⟩ := hw'
    exact below_regrown W0 dq osq
  have HX9 := Hid.mk (HX.out.keep hb9)
  clear hw' hb9 hW0 A0 Q0
  go_wp2_with fail
  go_ret
  exact ⟨by first | rfl | simp, HX9.out.below⟩

set_option maxRecDepth 100000 in
set_option maxHeartbeats 3200000 in
theorem w_byArrays (hx : AskBx w B b0 b1 b2 b3 no nn nc b5 xo nx xc ao NA ac oo NO oc) (c : Int) (HC : Hid (∀ u, Below w.heap.size w u → Calls Try.prog 72 #[.slice ao NA ac, .slice ao2 NA2 ac2, .func (.func 73) #[] #[]] u fun e w' => e = .returned (.int .i64 c) ∧ Below u.heap.size u w')) : Calls Try.prog 65 #[.pointer (some ⟨B, 0, none⟩), .agg #[.bool e0, .bool e1, .bool e2, .bool e3, .slice no2 nn2 nc2, .bool e5, .slice xo2 nx2 xc2, .slice ao2 NA2 ac2, .slice oo2 NO2 oc2]] w fun e w' => e = .returned (.int .i64 (c)) ∧ Below w.heap.size w w' := by
  have HX := Hid.mk (tbx_new w (.bool e0) (.bool e1) (.bool e2) (.bool e3) (.slice no2 nn2 nc2) (.bool e5) (.slice xo2 nx2 xc2) (.slice ao2 NA2 ac2) (.slice oo2 NO2 oc2))
  obtain ⟨W0, hW0⟩ : ∃ W0, w.alloc (.cells #[.bool e0, .bool e1, .bool e2, .bool e3, .slice no2 nn2 nc2, .bool e5, .slice xo2 nx2 xc2, .slice ao2 NA2 ac2, .slice oo2 NO2 oc2] 33) = W0 := ⟨_, rfl⟩
  rw [hW0] at HX
  have HA := Hid.mk (hx.keep (W' := W0) (by rw [← hW0]; exact below1 _ _))
  clear hx
  obtain ⟨⟨a0, a1, a2, a3, a4, a5, a6, a7, a8⟩, _⟩ := HA.out
  obtain ⟨_, q0, q1, q2, q3, q4, q5, q6, q7, q8, _⟩ := HX.out
  simp only [Nat.zero_add] at a1 a2 a3 a4 a5 a6 a7 a8
  have C1 := Hid.mk (fun (d : Nat) (os : Array Obj) => HC.out (grow (redrawn W0 d) os) (HX.out.below.trans ((below_regrown W0 d os).mono HX.out.below.size)))
  have A0 := fun d os => cell_regrown a7 d os
  have Q0 := fun d os => cell_regrown q7 d os
  clear a0 q0 a1 q1 a2 q2 a3 q3 a4 q4 a5 q5 a6 q6 a8 q8
  go_enter Try.func65, Try.ntmps65
  go_wp2_with fail
  refine wp_region_quiet_below (by kernel_rfl) (by kernel_rfl) ?_
  repeat (go_big_quiet_step (exact Calls.regrown_of (C1.out _ _)))
  refine wpQuiet_nil ?_
  intro w9 hw'
  have hb9 : Below W0.heap.size W0 w9 := by
    obtain ⟨⟨dq, osq⟩, rfl⟩ := hw'
    exact below_regrown W0 dq osq
  have HX9 := Hid.mk (HX.out.keep hb9)
  clear hw' hb9 hW0 A0 Q0
  go_wp2_with fail
  go_ret
  exact ⟨by first | rfl | simp, HX9.out.below⟩

set_option maxRecDepth 100000 in
set_option maxHeartbeats 3200000 in
theorem w_byObjects (hx : AskBx w B b0 b1 b2 b3 no nn nc b5 xo nx xc ao NA ac oo NO oc) (c : Int) (HC : Hid (∀ u, Below w.heap.size w u → Calls Try.prog 74 #[.slice oo NO oc, .slice oo2 NO2 oc2, .func (.func 75) #[] #[]] u fun e w' => e = .returned (.int .i64 c) ∧ Below u.heap.size u w')) : Calls Try.prog 66 #[.pointer (some ⟨B, 0, none⟩), .agg #[.bool e0, .bool e1, .bool e2, .bool e3, .slice no2 nn2 nc2, .bool e5, .slice xo2 nx2 xc2, .slice ao2 NA2 ac2, .slice oo2 NO2 oc2]] w fun e w' => e = .returned (.int .i64 (c)) ∧ Below w.heap.size w w' := by
  have HX := Hid.mk (tbx_new w (.bool e0) (.bool e1) (.bool e2) (.bool e3) (.slice no2 nn2 nc2) (.bool e5) (.slice xo2 nx2 xc2) (.slice ao2 NA2 ac2) (.slice oo2 NO2 oc2))
  obtain ⟨W0, hW0⟩ : ∃ W0, w.alloc (.cells #[.bool e0, .bool e1, .bool e2, .bool e3, .slice no2 nn2 nc2, .bool e5, .slice xo2 nx2 xc2, .slice ao2 NA2 ac2, .slice oo2 NO2 oc2] 33) = W0 := ⟨_, rfl⟩
  rw [hW0] at HX
  have HA := Hid.mk (hx.keep (W' := W0) (by rw [← hW0]; exact below1 _ _))
  clear hx
  obtain ⟨⟨a0, a1, a2, a3, a4, a5, a6, a7, a8⟩, _⟩ := HA.out
  obtain ⟨_, q0, q1, q2, q3, q4, q5, q6, q7, q8, _⟩ := HX.out
  simp only [Nat.zero_add] at a1 a2 a3 a4 a5 a6 a7 a8
  have C1 := Hid.mk (fun (d : Nat) (os : Array Obj) => HC.out (grow (redrawn W0 d) os) (HX.out.below.trans ((below_regrown W0 d os).mono HX.out.below.size)))
  have A0 := fun d os => cell_regrown a8 d os
  have Q0 := fun d os => cell_regrown q8 d os
  clear a0 q0 a1 q1 a2 q2 a3 q3 a4 q4 a5 q5 a6 q6 a7 q7
  go_enter Try.func66, Try.ntmps66
  go_wp2_with fail
  refine wp_region_quiet_below (by kernel_rfl) (by kernel_rfl) ?_
  repeat (go_big_quiet_step (exact Calls.regrown_of (C1.out _ _)))
  refine wpQuiet_nil ?_
  intro w9 hw'
  have hb9 : Below W0.heap.size W0 w9 := by
    obtain ⟨⟨dq, osq⟩, rfl⟩ := hw'
    exact below_regrown W0 dq osq
  have HX9 := Hid.mk (HX.out.keep hb9)
  clear hw' hb9 hW0 A0 Q0
  go_wp2_with fail
  go_ret
  exact ⟨by first | rfl | simp, HX9.out.below⟩

end
end Go.Proofs.Ytdjoelhiahpmlaa
