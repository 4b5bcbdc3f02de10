import Derived.Test.YtdjleoglphgdgaaGreatDoorM41
import Derived.Test.YtdjleoglphgdgaaGreatDoorM26
import Derived.Test.YtdjleoglphgdgaaGreatDoorM0
namespace Go.Proofs.YtdjleoglphgdgaaGreatDoor
open Go.RowKit Go.Shelf Go.Sort
set_option linter.unusedVariables false
set_option linter.unusedSimpArgs false
attribute [local go_sem] Oper.semAt_some

def kdL (op : Int) : Int := if op = 1 ∨ op = 2 ∨ op = 6 ∨ op = 35 then 0 else if op = 3 then 3 else if op = 4 then 0 else if op = 5 ∨ op = 33 then 0 else if op = 8 ∨ op = 28 ∨ op = 30 then 3 else if op = 9 ∨ op = 11 ∨ op = 34 then 1 else if op = 10 then 1 else if op = 31 then 3 else if op = 7 ∨ op = 29 ∨ op = 32 ∨ op = 12 ∨ op = 13 ∨ op = 25 ∨ op = 26 ∨ op = 27 then 2 else 2
def kdM (op : Int) : Int := if op = 1 ∨ op = 2 ∨ op = 6 ∨ op = 35 then (0) else if op = 3 then (-1) else if op = 4 then (1) else if op = 5 ∨ op = 33 then (-1) else if op = 8 ∨ op = 28 ∨ op = 30 then (3) else if op = 9 ∨ op = 11 ∨ op = 34 then (1) else if op = 10 then (2) else if op = 31 then (4) else if op = 7 ∨ op = 29 ∨ op = 32 ∨ op = 12 ∨ op = 13 ∨ op = 25 ∨ op = 26 ∨ op = 27 then (2) else 2
def kdO (op : Int) : Bool := if op = 1 ∨ op = 2 ∨ op = 6 ∨ op = 35 then true else if op = 3 then true else if op = 4 then true else if op = 5 ∨ op = 33 then true else if op = 8 ∨ op = 28 ∨ op = 30 then true else if op = 9 ∨ op = 11 ∨ op = 34 then true else if op = 10 then true else if op = 31 then true else if op = 7 ∨ op = 29 ∨ op = 32 ∨ op = 12 ∨ op = 13 ∨ op = 25 ∨ op = 26 ∨ op = 27 then true else ((decide (14 ≤ op) && decide (op ≤ 24)) || (decide (36 ≤ op) && decide (op ≤ 43)))

set_option maxRecDepth 100000 in
set_option maxHeartbeats 6400000 in
theorem w_kidsR (op : Int) (w : World) : Calls Tryz.prog 18 #[.int .i64 op] w fun e w' => e = .returned (.tuple #[.int .i64 (kdL op), .int .i64 (kdM op), .bool (kdO op)]) ∧ w' = w := by
  by_cases h1 : op = 1
  · subst h1
    go_enter Tryz.func18, Tryz.ntmps18
    go_wp2_with fail
    refine bodyPost_ret (v := .tuple #[.int .i64 (0), .int .i64 (0), .bool true]) (by simp [results, Tryz.results18, go_sem]) rfl ⟨rfl, rfl⟩
  have b1 : (op == 1) = false := by rw [beq_eq_false_iff_ne]; exact h1
  by_cases h2 : op = 2
  · subst h2
    go_enter Tryz.func18, Tryz.ntmps18
    go_wp2_with fail
    refine bodyPost_ret (v := .tuple #[.int .i64 (0), .int .i64 (0), .bool true]) (by simp [results, Tryz.results18, go_sem]) rfl ⟨rfl, rfl⟩
  have b2 : (op == 2) = false := by rw [beq_eq_false_iff_ne]; exact h2
  by_cases h6 : op = 6
  · subst h6
    go_enter Tryz.func18, Tryz.ntmps18
    go_wp2_with fail
    refine bodyPost_ret (v := .tuple #[.int .i64 (0), .int .i64 (0), .bool true]) (by simp [results, Tryz.results18, go_sem]) rfl ⟨rfl, rfl⟩
  have b6 : (op == 6) = false := by rw [beq_eq_false_iff_ne]; exact h6
  by_cases h35 : op = 35
  · subst h35
    go_enter Tryz.func18, Tryz.ntmps18
    go_wp2_with fail
    refine bodyPost_ret (v := .tuple #[.int .i64 (0), .int .i64 (0), .bool true]) (by simp [results, Tryz.results18, go_sem]) rfl ⟨rfl, rfl⟩
  have b35 : (op == 35) = false := by rw [beq_eq_false_iff_ne]; exact h35
  by_cases h3 : op = 3
  · subst h3
    go_enter Tryz.func18, Tryz.ntmps18
    go_wp2_with fail
    refine bodyPost_ret (v := .tuple #[.int .i64 (3), .int .i64 (-1), .bool true]) (by simp [results, Tryz.results18, go_sem]) rfl ⟨rfl, rfl⟩
  have b3 : (op == 3) = false := by rw [beq_eq_false_iff_ne]; exact h3
  by_cases h4 : op = 4
  · subst h4
    go_enter Tryz.func18, Tryz.ntmps18
    go_wp2_with fail
    refine bodyPost_ret (v := .tuple #[.int .i64 (0), .int .i64 (1), .bool true]) (by simp [results, Tryz.results18, go_sem]) rfl ⟨rfl, rfl⟩
  have b4 : (op == 4) = false := by rw [beq_eq_false_iff_ne]; exact h4
  by_cases h5 : op = 5
  · subst h5
    go_enter Tryz.func18, Tryz.ntmps18
    go_wp2_with fail
    refine bodyPost_ret (v := .tuple #[.int .i64 (0), .int .i64 (-1), .bool true]) (by simp [results, Tryz.results18, go_sem]) rfl ⟨rfl, rfl⟩
  have b5 : (op == 5) = false := by rw [beq_eq_false_iff_ne]; exact h5
  by_cases h33 : op = 33
  · subst h33
    go_enter Tryz.func18, Tryz.ntmps18
    go_wp2_with fail
    refine bodyPost_ret (v := .tuple #[.int .i64 (0), .int .i64 (-1), .bool true]) (by simp [results, Tryz.results18, go_sem]) rfl ⟨rfl, rfl⟩
  have b33 : (op == 33) = false := by rw [beq_eq_false_iff_ne]; exact h33
  by_cases h8 : op = 8
  · subst h8
    go_enter Tryz.func18, Tryz.ntmps18
    go_wp2_with fail
    refine bodyPost_ret (v := .tuple #[.int .i64 (3), .int .i64 (3), .bool true]) (by simp [results, Tryz.results18, go_sem]) rfl ⟨rfl, rfl⟩
  have b8 : (op == 8) = false := by rw [beq_eq_false_iff_ne]; exact h8
  by_cases h28 : op = 28
  · subst h28
    go_enter Tryz.func18, Tryz.ntmps18
    go_wp2_with fail
    refine bodyPost_ret (v := .tuple #[.int .i64 (3), .int .i64 (3), .bool true]) (by simp [results, Tryz.results18, go_sem]) rfl ⟨rfl, rfl⟩
  have b28 : (op == 28) = false := by rw [beq_eq_false_iff_ne]; exact h28
  by_cases h30 : op = 30
  · subst h30
    go_enter Tryz.func18, Tryz.ntmps18
    go_wp2_with fail
    refine bodyPost_ret (v := .tuple #[.int .i64 (3), .int .i64 (3), .bool true]) (by simp [results, Tryz.results18, go_sem]) rfl ⟨rfl, rfl⟩
  have b30 : (op == 30) = false := by rw [beq_eq_false_iff_ne]; exact h30
  by_cases h9 : op = 9
  · subst h9
    go_enter Tryz.func18, Tryz.ntmps18
    go_wp2_with fail
    refine bodyPost_ret (v := .tuple #[.int .i64 (1), .int .i64 (1), .bool true]) (by simp [results, Tryz.results18, go_sem]) rfl ⟨rfl, rfl⟩
  have b9 : (op == 9) = false := by rw [beq_eq_false_iff_ne]; exact h9
  by_cases h11 : op = 11
  · subst h11
    go_enter Tryz.func18, Tryz.ntmps18
    go_wp2_with fail
    refine bodyPost_ret (v := .tuple #[.int .i64 (1), .int .i64 (1), .bool true]) (by simp [results, Tryz.results18, go_sem]) rfl ⟨rfl, rfl⟩
  have b11 : (op == 11) = false := by rw [beq_eq_false_iff_ne]; exact h11
  by_cases h34 : op = 34
  · subst h34
    go_enter Tryz.func18, Tryz.ntmps18
    go_wp2_with fail
    refine bodyPost_ret (v := .tuple #[.int .i64 (1), .int .i64 (1), .bool true]) (by simp [results, Tryz.results18, go_sem]) rfl ⟨rfl, rfl⟩
  have b34 : (op == 34) = false := by rw [beq_eq_false_iff_ne]; exact h34
  by_cases h10 : op = 10
  · subst h10
    go_enter Tryz.func18, Tryz.ntmps18
    go_wp2_with fail
    refine bodyPost_ret (v := .tuple #[.int .i64 (1), .int .i64 (2), .bool true]) (by simp [results, Tryz.results18, go_sem]) rfl ⟨rfl, rfl⟩
  have b10 : (op == 10) = false := by rw [beq_eq_false_iff_ne]; exact h10
  by_cases h31 : op = 31
  · subst h31
    go_enter Tryz.func18, Tryz.ntmps18
    go_wp2_with fail
    refine bodyPost_ret (v := .tuple #[.int .i64 (3), .int .i64 (4), .bool true]) (by simp [results, Tryz.results18, go_sem]) rfl ⟨rfl, rfl⟩
  have b31 : (op == 31) = false := by rw [beq_eq_false_iff_ne]; exact h31
  by_cases h7 : op = 7
  · subst h7
    go_enter Tryz.func18, Tryz.ntmps18
    go_wp2_with fail
    refine bodyPost_ret (v := .tuple #[.int .i64 (2), .int .i64 (2), .bool true]) (by simp [results, Tryz.results18, go_sem]) rfl ⟨rfl, rfl⟩
  have b7 : (op == 7) = false := by rw [beq_eq_false_iff_ne]; exact h7
  by_cases h29 : op = 29
  · subst h29
    go_enter Tryz.func18, Tryz.ntmps18
    go_wp2_with fail
    refine bodyPost_ret (v := .tuple #[.int .i64 (2), .int .i64 (2), .bool true]) (by simp [results, Tryz.results18, go_sem]) rfl ⟨rfl, rfl⟩
  have b29 : (op == 29) = false := by rw [beq_eq_false_iff_ne]; exact h29
  by_cases h32 : op = 32
  · subst h32
    go_enter Tryz.func18, Tryz.ntmps18
    go_wp2_with fail
    refine bodyPost_ret (v := .tuple #[.int .i64 (2), .int .i64 (2), .bool true]) (by simp [results, Tryz.results18, go_sem]) rfl ⟨rfl, rfl⟩
  have b32 : (op == 32) = false := by rw [beq_eq_false_iff_ne]; exact h32
  by_cases h12 : op = 12
  · subst h12
    go_enter Tryz.func18, Tryz.ntmps18
    go_wp2_with fail
    refine bodyPost_ret (v := .tuple #[.int .i64 (2), .int .i64 (2), .bool true]) (by simp [results, Tryz.results18, go_sem]) rfl ⟨rfl, rfl⟩
  have b12 : (op == 12) = false := by rw [beq_eq_false_iff_ne]; exact h12
  by_cases h13 : op = 13
  · subst h13
    go_enter Tryz.func18, Tryz.ntmps18
    go_wp2_with fail
    refine bodyPost_ret (v := .tuple #[.int .i64 (2), .int .i64 (2), .bool true]) (by simp [results, Tryz.results18, go_sem]) rfl ⟨rfl, rfl⟩
  have b13 : (op == 13) = false := by rw [beq_eq_false_iff_ne]; exact h13
  by_cases h25 : op = 25
  · subst h25
    go_enter Tryz.func18, Tryz.ntmps18
    go_wp2_with fail
    refine bodyPost_ret (v := .tuple #[.int .i64 (2), .int .i64 (2), .bool true]) (by simp [results, Tryz.results18, go_sem]) rfl ⟨rfl, rfl⟩
  have b25 : (op == 25) = false := by rw [beq_eq_false_iff_ne]; exact h25
  by_cases h26 : op = 26
  · subst h26
    go_enter Tryz.func18, Tryz.ntmps18
    go_wp2_with fail
    refine bodyPost_ret (v := .tuple #[.int .i64 (2), .int .i64 (2), .bool true]) (by simp [results, Tryz.results18, go_sem]) rfl ⟨rfl, rfl⟩
  have b26 : (op == 26) = false := by rw [beq_eq_false_iff_ne]; exact h26
  by_cases h27 : op = 27
  · subst h27
    go_enter Tryz.func18, Tryz.ntmps18
    go_wp2_with fail
    refine bodyPost_ret (v := .tuple #[.int .i64 (2), .int .i64 (2), .bool true]) (by simp [results, Tryz.results18, go_sem]) rfl ⟨rfl, rfl⟩
  have b27 : (op == 27) = false := by rw [beq_eq_false_iff_ne]; exact h27
  have HL : Hid (kdL op = 2) := by show _ = _; simp [kdL, h1, h2, h6, h35, h3, h4, h5, h33, h8, h28, h30, h9, h11, h34, h10, h31, h7, h29, h32, h12, h13, h25, h26, h27]
  have HM : Hid (kdM op = 2) := by show _ = _; simp [kdM, h1, h2, h6, h35, h3, h4, h5, h33, h8, h28, h30, h9, h11, h34, h10, h31, h7, h29, h32, h12, h13, h25, h26, h27]
  have HO : Hid (kdO op = ((decide (14 ≤ op) && decide (op ≤ 24)) || (decide (36 ≤ op) && decide (op ≤ 43)))) := by show _ = _; simp [kdO, h1, h2, h6, h35, h3, h4, h5, h33, h8, h28, h30, h9, h11, h34, h10, h31, h7, h29, h32, h12, h13, h25, h26, h27]
  clear h1 h2 h6 h35 h3 h4 h5 h33 h8 h28 h30 h9 h11 h34 h10 h31 h7 h29 h32 h12 h13 h25 h26 h27
  by_cases c1 : (14 : Int) ≤ op
  · have d1 : decide ((14 : Int) ≤ op) = true := by rw [decide_eq_true_iff]; omega
    have d1' : decide (op ≥ (14 : Int)) = true := d1
    by_cases c2 : op ≤ (24 : Int)
    · have d2 : decide (op ≤ (24 : Int)) = true := by rw [decide_eq_true_iff]; omega
      go_enter Tryz.func18, Tryz.ntmps18
      go_wp2_with fail
      refine bodyPost_ret (v := .tuple #[.int .i64 (2), .int .i64 (2), .bool true]) (by simp [results, Tryz.results18, go_sem]) rfl ⟨by rw [HL.out, HM.out, HO.out, d1, d2]; rfl, rfl⟩
    · have d2 : decide (op ≤ (24 : Int)) = false := by rw [decide_eq_false_iff_not]; omega
      by_cases c3 : (36 : Int) ≤ op
      · have d3 : decide ((36 : Int) ≤ op) = true := by rw [decide_eq_true_iff]; omega
        have d3' : decide (op ≥ (36 : Int)) = true := d3
        by_cases c4 : op ≤ (43 : Int)
        · have d4 : decide (op ≤ (43 : Int)) = true := by rw [decide_eq_true_iff]; omega
          go_enter Tryz.func18, Tryz.ntmps18
          go_wp2_with fail
          refine bodyPost_ret (v := .tuple #[.int .i64 (2), .int .i64 (2), .bool true]) (by simp [results, Tryz.results18, go_sem]) rfl ⟨by rw [HL.out, HM.out, HO.out, d1, d2, d3, d4]; rfl, rfl⟩
        · have d4 : decide (op ≤ (43 : Int)) = false := by rw [decide_eq_false_iff_not]; omega
          go_enter Tryz.func18, Tryz.ntmps18
          go_wp2_with fail
          refine bodyPost_ret (v := .tuple #[.int .i64 (2), .int .i64 (2), .bool false]) (by simp [results, Tryz.results18, go_sem]) rfl ⟨by rw [HL.out, HM.out, HO.out, d1, d2, d3, d4]; rfl, rfl⟩
      · have d3 : decide ((36 : Int) ≤ op) = false := by rw [decide_eq_false_iff_not]; omega
        have d3' : decide (op ≥ (36 : Int)) = false := d3
        go_enter Tryz.func18, Tryz.ntmps18
        go_wp2_with fail
        refine bodyPost_ret (v := .tuple #[.int .i64 (2), .int .i64 (2), .bool false]) (by simp [results, Tryz.results18, go_sem]) rfl ⟨by rw [HL.out, HM.out, HO.out, d1, d2, d3]; rfl, rfl⟩
  · have d1 : decide ((14 : Int) ≤ op) = false := by rw [decide_eq_false_iff_not]; omega
    have d1' : decide (op ≥ (14 : Int)) = false := d1
    have d3 : decide ((36 : Int) ≤ op) = false := by rw [decide_eq_false_iff_not]; omega
    have d3' : decide (op ≥ (36 : Int)) = false := d3
    go_enter Tryz.func18, Tryz.ntmps18
    go_wp2_with fail
    refine bodyPost_ret (v := .tuple #[.int .i64 (2), .int .i64 (2), .bool false]) (by simp [results, Tryz.results18, go_sem]) rfl ⟨by rw [HL.out, HM.out, HO.out, d1, d3]; rfl, rfl⟩

set_option maxRecDepth 100000 in
set_option maxHeartbeats 3200000 in
theorem w_namedR (op : Int) (w : World) : Calls Tryz.prog 20 #[.int .i64 op] w fun e w' => e = .returned (.bool (nmO op)) ∧ w' = w := by
  by_cases h6 : op = 6
  · subst h6
    go_enter Tryz.func20, Tryz.ntmps20
    go_wp2_with fail
    go_ret
    exact ⟨rfl, rfl⟩
  have b6 : (op == 6) = false := by rw [beq_eq_false_iff_ne]; exact h6
  by_cases h35 : op = 35
  · subst h35
    go_enter Tryz.func20, Tryz.ntmps20
    go_wp2_with fail
    go_ret
    exact ⟨rfl, rfl⟩
  have b35 : (op == 35) = false := by rw [beq_eq_false_iff_ne]; exact h35
  by_cases h29 : op = 29
  · subst h29
    go_enter Tryz.func20, Tryz.ntmps20
    go_wp2_with fail
    go_ret
    exact ⟨rfl, rfl⟩
  have b29 : (op == 29) = false := by rw [beq_eq_false_iff_ne]; exact h29
  by_cases h30 : op = 30
  · subst h30
    go_enter Tryz.func20, Tryz.ntmps20
    go_wp2_with fail
    go_ret
    exact ⟨rfl, rfl⟩
  have b30 : (op == 30) = false := by rw [beq_eq_false_iff_ne]; exact h30
  by_cases h31 : op = 31
  · subst h31
    go_enter Tryz.func20, Tryz.ntmps20
    go_wp2_with fail
    go_ret
    exact ⟨rfl, rfl⟩
  have b31 : (op == 31) = false := by rw [beq_eq_false_iff_ne]; exact h31
  by_cases h32 : op = 32
  · subst h32
    go_enter Tryz.func20, Tryz.ntmps20
    go_wp2_with fail
    go_ret
    exact ⟨rfl, rfl⟩
  have b32 : (op == 32) = false := by rw [beq_eq_false_iff_ne]; exact h32
  by_cases h33 : op = 33
  · subst h33
    go_enter Tryz.func20, Tryz.ntmps20
    go_wp2_with fail
    go_ret
    exact ⟨rfl, rfl⟩
  have b33 : (op == 33) = false := by rw [beq_eq_false_iff_ne]; exact h33
  by_cases h34 : op = 34
  · subst h34
    go_enter Tryz.func20, Tryz.ntmps20
    go_wp2_with fail
    go_ret
    exact ⟨rfl, rfl⟩
  have b34 : (op == 34) = false := by rw [beq_eq_false_iff_ne]; exact h34
  have HT : Hid (nmO op = false) := by show _ = _; unfold nmO; rw [b6, b35, b29, b30, b31, b32, b33, b34]; rfl
  clear h6 h35 h29 h30 h31 h32 h33 h34
  go_enter Tryz.func20, Tryz.ntmps20
  go_wp2_with fail
  go_ret
  exact ⟨by rw [HT.out]; rfl, rfl⟩

set_option maxRecDepth 100000 in
set_option maxHeartbeats 3200000 in
theorem w_noneR (h : Nat) (A : NT) (va : Value) (w : World) (hA : InA w (h + 1) A va) : Calls Tryz.prog 24 #[va] w fun e w' => e = .returned (.bool (sq (noA A) (noA nn0))) ∧ Below w.heap.size w w' := by
  obtain ⟨aop, aat, atx, aV, aN, aI⟩ := A
  obtain ⟨aio, aic, ayo, ayc, ano, anc, ako, akc, rfl, a1, a2, a3, a4, hn, hk⟩ := hA
  simp only [NT.op, NT.at_, NT.text, NT.value, NT.names, NT.kids] at *
  have hS : noA (NT.mk aop aat atx aV aN aI) = noA (NT.mk aop 0 atx aV aN aI) := by rw [noA, noA]
  rw [hS]
  obtain ⟨W1, hW1⟩ : ∃ W1, w.alloc (.cells #[.int .i64 aop, .int .i64 aat, .string atx, .int .i64 aV.kind, .string aV.num, .string aV.text, .slice aio aV.items.length aic, .slice ayo aV.keys.length ayc, .slice ano aN.length anc, .slice ako aI.length akc] 28) = W1 := ⟨_, rfl⟩
  have HX := Hid.mk (B1.new hW1)
  obtain ⟨W2, hW2⟩ : ∃ W2, W1.setCell ⟨w.heap.size, 1, none⟩ (.int .i64 0) = W2 := ⟨_, rfl⟩
  have P2 : Put w.heap.size (.cells #[.int .i64 aop, .int .i64 0, .string atx, .int .i64 aV.kind, .string aV.num, .string aV.text, .slice aio aV.items.length aic, .slice ayo aV.keys.length ayc, .slice ano aN.length anc, .slice ako aI.length akc] 28 (0, 0)) W1 W2 := by
    subst hW2
    have h1 := rsetN (i := 1) (.int .i64 0) HX.out.a
    simp only [List.setIfInBounds_toArray, List.set_cons_zero, List.set_cons_succ] at h1
    exact ⟨h1, fun b hb => Below.heap_setCell _ _ _ _ hb, by simp, rfl, rfl, rfl⟩
  have HB2 : Hid (Below w.heap.size w W2) := HX.out.below.trans (P2.below (Nat.le_refl _))
  have HC : Hid (Calls Tryz.prog 14 #[.agg #[.int .i64 aop, .int .i64 0, .string atx, .int .i64 aV.kind, .string aV.num, .string aV.text, .slice aio aV.items.length aic, .slice ayo aV.keys.length ayc, .slice ano aN.length anc, .slice ako aI.length akc], .agg #[.int .i64 0, .int .i64 0, .string ⟨#[]⟩, .int .i64 0, .string ⟨#[]⟩, .string ⟨#[]⟩, .slice none 0 0, .slice none 0 0, .slice none 0 0, .slice none 0 0]] W2 fun e w' => e = .returned (.bool (sq (noA (NT.mk aop 0 atx aV aN aI)) (noA nn0))) ∧ Below W2.heap.size W2 w') := by
    refine w_rSameN (h + 1) _ _ _ _ W2 (InN.low (w := w) ⟨aio, aic, ayo, ayc, ano, anc, ako, akc, rfl, a1, a2, a3, a4, hn, hk⟩ HB2.out) ?_
    exact ⟨none, 0, none, 0, none, 0, none, 0, rfl, by decide, InV.ofH (inH_0 W2 h), ⟨Nat.le_refl _, Nat.zero_le _, fun k hk => (by cases hk)⟩, ⟨Nat.le_refl _, Nat.zero_le _⟩, fun h => absurd h (by show ¬ 0 < 0; omega), fun h => absurd h (by show ¬ 0 < 0; omega)⟩
  generalize sq (noA (NT.mk aop 0 atx aV aN aI)) (noA nn0) = r at *
  obtain ⟨x0, x1, x2, x3, x4, x5, x6, x7, x8, x9⟩ := nd_cells P2.new
  obtain ⟨f0, f1, f2, f3, f4, f5, f6, f7, f8, f9⟩ := nd_frozen HX.out.a
  have y1 := HX.out.ca (j := 1) rfl
  clear a1 a2 a3 a4 hn hk P2 hS
  generalize aV.kind = avk at *
  generalize aV.num = avn at *
  generalize aV.text = avx at *
  generalize aV.items.length = avi at *
  generalize aV.keys.length = avy at *
  go_enter Tryz.func24, Tryz.ntmps24
  go_wp2_with fail
  refine HC.out.mono ?_
  rintro e w3 ⟨rfl, hb3⟩
  have HB3 : Hid (Below w.heap.size w w3) := HB2.out.trans (hb3.mono HB2.out.size)
  clear hb3
  go_wp2_with fail
  go_ret
  exact ⟨rfl, HB3.out⟩

/-- may a value stand in a Const, as the document has it? -/
def coB (h : Nat) (V : VT) : Bool := formN h V && decide (V.kind ≤ 4) && (decide (V.kind ≠ 3) || decide (V.num.data.toList.getD 0 0 ≠ 45))
theorem form_num {h : Nat} {V : VT} (hf : formN (h + 1) V = true) (hk : V.kind = 3) : Pl.formed V.num.data.toList = true := by
  rw [formN] at hf
  unfold formV at hf
  rw [hk, if_neg (by decide), if_pos rfl] at hf
  exact (Bool.and_eq_true_iff.1 hf).1
end Go.Proofs.YtdjleoglphgdgaaGreatDoor
namespace Go.Proofs.YtdjleoglphgdgaaGreatDoor
open Go.RowKit Go.Shelf Go.Sort
set_option linter.unusedVariables false
set_option linter.unusedSimpArgs false
attribute [local go_sem] Oper.semAt_some

theorem formed_pos {s : ByteArray} (h : Pl.formed s.data.toList = true) : 0 < s.size := by
  rcases Nat.eq_zero_or_pos s.size with h0 | h0
  · have : s.data.toList = [] := List.length_eq_zero_iff.1 (by rw [size_lst]; exact h0)
    rw [this] at h
    exact absurd h (by decide)
  · exact h0

set_option maxRecDepth 100000 in
set_option maxHeartbeats 3200000 in
theorem w_constR (h : Nat) (V : VT) (v : Value) (w : World) (hV : InH w (h + 1) V v) : Calls Tryz.prog 22 #[v] w fun e w' => e = .returned (.bool (coB (h + 1) V)) ∧ Below w.heap.size w w' := by
  obtain ⟨io, icap, ko, kcap, rfl, a1, a2, a3, a4, a5, a6, a7, hk, hi⟩ := hV.open
  obtain ⟨W1, hW1⟩ : ∃ W1, w.alloc (.cells #[.int .i64 V.kind, .string V.num, .string V.text, .slice io V.items.length icap, .slice ko V.keys.length kcap] 25) = W1 := ⟨_, rfl⟩
  have HX := Hid.mk (B1.new hW1)
  have HF : Hid (Calls Tryz.prog 39 #[.agg #[.int .i64 V.kind, .string V.num, .string V.text, .slice io V.items.length icap, .slice ko V.keys.length kcap]] W1 fun e w' => e = .returned (.bool (formN (h + 1) V)) ∧ Below W1.heap.size W1 w') := w_rFormed (h + 1) _ _ W1 (hV.keep HX.out.below)
  obtain ⟨R, HR⟩ : ∃ R, Hid (coB (h + 1) V = R) := ⟨_, rfl⟩
  rw [HR.out]
  obtain ⟨vk, vn, vx, vI, vK⟩ := V
  simp only [VT.kind, VT.num, VT.text, VT.items, VT.keys] at *
  have HR2 : Hid (R = (formN (h + 1) (VT.mk vk vn vx vI vK) && decide (vk ≤ 4) && (decide (vk ≠ 3) || decide (vn.data.toList.getD 0 0 ≠ 45)))) := HR.out.symm
  have HP : Hid (formN (h + 1) (VT.mk vk vn vx vI vK) = true → vk = 3 → 0 < vn.size) := fun h1 h2 => formed_pos (form_num (V := VT.mk vk vn vx vI vK) h1 h2)
  have HG : Hid (∀ hp : 0 < vn.size, vn.data.toList.getD 0 0 = vn[0]) := fun hp => getD_byte hp
  clear hV hk hi a1 a2 a3 a4 a5 a6 a7 HR
  generalize vI.length = li at *
  generalize vK.length = lk at *
  generalize formN (h + 1) (VT.mk vk vn vx vI vK) = ff at *
  have x0 := HX.out.ca (j := 0) rfl
  have x1 := HX.out.ca (j := 1) rfl
  have x2 := HX.out.ca (j := 2) rfl
  have x3 := HX.out.ca (j := 3) rfl
  have x4 := HX.out.ca (j := 4) rfl
  go_enter Tryz.func22, Tryz.ntmps22
  go_wp2_with fail
  refine HF.out.mono ?_
  rintro e w2 ⟨rfl, hb2⟩
  have HX2 := Hid.mk (HX.out.keep hb2)
  have y0 := HX2.out.ca (j := 0) rfl
  have y1 := HX2.out.ca (j := 1) rfl
  clear hb2 hW1 x0 x1 x2 x3 x4
  cases ff with
  | false =>
    have HT : Hid (R = false) := HR2.out.trans rfl
    go_wp2_with fail
    go_ret
    exact ⟨by rw [HT.out]; rfl, HX2.out.below⟩
  | true =>
    by_cases k4 : vk ≤ 4
    · have d4 : decide (vk ≤ 4) = true := by rw [decide_eq_true_iff]; exact k4
      by_cases k3 : vk = 3
      · subst k3
        have hp := HP.out rfl rfl
        have hi : (0 : Int) < (vn.size : Int) := by omega
        have HG2 := Hid.mk (HG.out hp)
        by_cases hq : vn[0] = 45
        · have q1 : (vn[0] == 45) = true := by rw [hq]; rfl
          have q2 : (vn[0] != 45) = false := by rw [hq]; rfl
          have HT : Hid (R = false) := by
            show _ = _
            rw [HR2.out]
            have e := HG2.out
            rw [hq] at e
            simp only [e]
            decide
          go_wp2_with fail
          go_ret
          exact ⟨by rw [HT.out]; first | done | rfl, HX2.out.below⟩
        · have q1 : (vn[0] == 45) = false := by rw [beq_eq_false_iff_ne]; exact hq
          have q2 : (vn[0] != 45) = true := by simp [hq]
          have HT : Hid (R = true) := by
            show _ = _
            rw [HR2.out]
            have e := HG2.out
            simp only [e]
            simp [hq]
          have hn : ¬ (vn[0].toNat : Int) = 45 := fun e => hq (UInt8.toNat_inj.1 (by have : (45 : UInt8).toNat = 45 := rfl; omega))
          have hb : ((vn[0].toNat : Int) != 45) = true := by simpa using hn
          go_wp2_with fail
          go_ret
          exact ⟨by rw [HT.out]; first | done | rfl, HX2.out.below⟩
      · have b3 : (vk != 3) = true := by simpa using k3
        have b3' : (vk == 3) = false := by rw [beq_eq_false_iff_ne]; exact k3
        have HT : Hid (R = true) := by
          show _ = _
          rw [HR2.out, d4]
          simp [k3]
        go_wp2_with fail
        go_ret
        exact ⟨by rw [HT.out]; rfl, HX2.out.below⟩
    · have d4 : decide (vk ≤ 4) = false := by rw [decide_eq_false_iff_not]; exact k4
      have HT : Hid (R = false) := by
        show _ = _
        rw [HR2.out, d4]
        rfl
      go_wp2_with fail
      go_ret
      exact ⟨by rw [HT.out]; rfl, HX2.out.below⟩

end Go.Proofs.YtdjleoglphgdgaaGreatDoor
namespace Go.Proofs.YtdjleoglphgdgaaGreatDoor
open Go.RowKit Go.Shelf Go.Sort
set_option linter.unusedVariables false
set_option linter.unusedSimpArgs false
attribute [local go_sem] Oper.semAt_some

theorem pnB_drop {x : ByteArray} (hp : 0 < x.size) (h : x[0] = 36) : pnB x = plainW (x.extract 1 x.size).data.toList := by
  unfold pnB
  rw [extract_lst x 1 x.size (Nat.le_refl _)]
  have hl := Pl.toList_cons x hp
  congr 1
  rw [hl, h]
  unfold Lib.trimPrefix cut
  rw [if_pos (by simp [Lib.hasPrefix])]
  show (36 :: x.data.toList.tail).drop 1 = _
  rw [List.take_of_length_le (by have := size_lst x; rw [hl] at this; simp at this ⊢ <;> omega)]
theorem pnB_keep {x : ByteArray} (h : ∀ hp : 0 < x.size, x[0] ≠ 36) : pnB x = plainW x.data.toList := by
  unfold pnB Lib.trimPrefix
  congr 1
  rcases Nat.eq_zero_or_pos x.size with h0 | h0
  · have : x.data.toList = [] := List.length_eq_zero_iff.1 (by rw [size_lst]; exact h0)
    rw [this]
    rfl
  · have hl := Pl.toList_cons x h0
    have hn := h h0
    rw [hl, if_neg]
    intro hh
    simp [Lib.hasPrefix, List.isPrefixOf] at hh
    exact hn hh.symm

set_option maxRecDepth 100000 in
set_option maxHeartbeats 3200000 in
theorem w_paramR (h : Nat) (A : NT) (va : Value) (w : World) (hA : InA w (h + 1) A va) : Calls Tryz.prog 19 #[va] w fun e w' => e = .returned (.bool (nsB A.op A.names)) ∧ Below w.heap.size w w' := by
  obtain ⟨aop, aat, atx, aV, aN, aI⟩ := A
  obtain ⟨aio, aic, ayo, ayc, ano, anc, ako, akc, rfl, a1, a2, a3, a4, hn, hk⟩ := hA
  simp only [NT.op, NT.at_, NT.text, NT.value, NT.names, NT.kids] at *
  obtain ⟨W1, hW1⟩ : ∃ W1, w.alloc (.cells #[.int .i64 aop, .int .i64 aat, .string atx, .int .i64 aV.kind, .string aV.num, .string aV.text, .slice aio aV.items.length aic, .slice ayo aV.keys.length ayc, .slice ano aN.length anc, .slice ako aI.length akc] 28) = W1 := ⟨_, rfl⟩
  have HX := Hid.mk (B1.new hW1)
  have hcap := a3.1
  have hbig := a3.2.1
  have HS := Hid.mk a3.2.2
  have HK : Hid (0 < aN.length → ∃ b off, ano = some ⟨b, off, none⟩ ∧ ∀ i, i < aN.length → W1.cell? ⟨b, off + i, none⟩ = some (.string (aN.getD i .empty))) := fun h0 => by
    obtain ⟨b, off, q1, _, hl, hr⟩ := hn h0
    exact ⟨b, off, q1, fun i hi => (HX.out.below.cell (p := ⟨b, off + i, none⟩) hl).trans (hr i hi)⟩
  obtain ⟨R, HR⟩ : ∃ R, Hid (nsB aop aN = R) := ⟨_, rfl⟩
  rw [HR.out]
  obtain ⟨N, hN⟩ : ∃ N, N = aN.length := ⟨_, rfl⟩
  rw [← hN] at hcap hbig HX hW1
  have HN := Hid.mk hN
  clear a1 a2 a3 a4 hn hk hN
  generalize aV.kind = avk at *
  generalize aV.num = avn at *
  generalize aV.text = avx at *
  generalize aV.items.length = avi at *
  generalize aV.keys.length = avy at *
  generalize aI.length = akn at *
  rw [← HN.out] at ⊢
  have x0 := HX.out.ca (j := 0) rfl
  have x8 := HX.out.ca (j := 8) rfl
  by_cases hk : aop = 32
  · subst hk
    have HR2 : Hid (R = aN.all pnB) := HR.out.symm.trans (by unfold nsB; rw [if_pos rfl])
    clear HR
    go_enter Tryz.func19, Tryz.ntmps19
    go_wp2_with fail
    clear hW1 x0
    go_loopw [3, 4] (fun i _s wr => ∃ k : Nat, k ≤ N ∧ i = .int .i64 (k : Int) ∧ wr = W1 ∧ Hid ((aN.take k).all pnB = true)) (fun i _ _ => N - (intOf i).toNat)
    case atStart => exact ⟨0, Nat.zero_le _, rfl, rfl, rfl⟩
    case round =>
      obtain ⟨k, hk, rfl, hwr, HQ⟩ := hrel
      obtain rfl := hwr.symm
      by_cases hlt : k < N
      · have hl1 : (k : Int) < (N : Int) := by omega
        have hl0 : (0 : Int) ≤ (k : Int) := by omega
        have hkx : k < aN.length := by rw [← HN.out]; exact hlt
        obtain ⟨b, off, e1, hr⟩ := HK.out (by omega)
        subst e1
        have c := hr k hkx
        rw [getD_keyQ hkx] at c
        have hsz := HS.out _ (List.getElem_mem hkx)
        have HQ2 : Hid (pnB aN[k] = true → (aN.take (k + 1)).all pnB = true) := fun hp => by
          rw [List.take_succ_eq_append_getElem hkx, List.all_append, HQ.out]
          simp [hp]
        have HNo : Hid (pnB aN[k] = false → aN.all pnB = false) := fun hp => by
          rw [List.all_eq_false]
          exact ⟨aN[k], List.getElem_mem hkx, by rw [hp]; decide⟩
        generalize aN[k] = x at *
        clear hr hkx HK
        by_cases hp : 0 < x.size
        · have hg : (0 : Int) < (x.size : Int) := by omega
          by_cases hq : x[0] = 36
          · obtain ⟨z, hz⟩ : ∃ z, z = x.extract 1 x.size := ⟨_, rfl⟩
            have hz' : x.extract 1 x.size = z := hz.symm
            have hi1 : (1 : Int) ≤ (x.size : Int) := by omega
            have q1 : (x[0] == 36) = true := by rw [hq]; rfl
            have HPl : Hid (Calls Tryz.prog 21 #[.string z] W1 fun e w' => e = .returned (.bool (pnB x)) ∧ w' = W1) := by
              rw [pnB_drop hp hq, ← hz]
              refine w_rPlain z W1 ?_
              rw [hz, Pl.size_tail x _ (Pl.extract_tail x)]
              omega
            clear hz
            generalize pnB x = y at *
            go_wp2_with fail
            refine HPl.out.mono ?_
            rintro e w2 ⟨rfl, hw2⟩
            obtain rfl := hw2.symm
            cases hy : y with
            | true =>
              have HQ3 := Hid.mk (HQ2.out hy)
              subst hy
              go_wp2_with fail
              go_roundw
              case rel => exact ⟨k + 1, by omega, by go_num, by first | rfl | trivial, HQ3⟩
              case measure => simp [intOf]; omega
            | false =>
              have HT : Hid (R = false) := HR2.out.trans (HNo.out hy)
              subst hy
              go_wp2_with fail
              go_ret
              exact ⟨by rw [HT.out]; rfl, HX.out.below⟩
          · have q1 : (x[0] == 36) = false := by rw [beq_eq_false_iff_ne]; exact hq
            have hn : ¬ (x[0].toNat : Int) = 36 := fun e => hq (UInt8.toNat_inj.1 (by have : (36 : UInt8).toNat = 36 := rfl; omega))
            have hb : ((x[0].toNat : Int) == 36) = false := by rw [beq_eq_false_iff_ne]; exact hn
            have hn2 : ¬ x[0].toNat = 36 := fun e => hn (by rw [e]; rfl)
            have hb2 : (x[0].toNat == 36) = false := by rw [beq_eq_false_iff_ne]; exact hn2
            have HPl : Hid (Calls Tryz.prog 21 #[.string x] W1 fun e w' => e = .returned (.bool (pnB x)) ∧ w' = W1) := by
              rw [pnB_keep (fun _ => hq)]
              exact w_rPlain x W1 hsz
            generalize pnB x = y at *
            go_wp2_with fail
            refine HPl.out.mono ?_
            rintro e w2 ⟨rfl, hw2⟩
            obtain rfl := hw2.symm
            cases hy : y with
            | true =>
              have HQ3 := Hid.mk (HQ2.out hy)
              subst hy
              go_wp2_with fail
              go_roundw
              case rel => exact ⟨k + 1, by omega, by go_num, by first | rfl | trivial, HQ3⟩
              case measure => simp [intOf]; omega
            | false =>
              have HT : Hid (R = false) := HR2.out.trans (HNo.out hy)
              subst hy
              go_wp2_with fail
              go_ret
              exact ⟨by rw [HT.out]; rfl, HX.out.below⟩
        · have hg : ¬ (0 : Int) < (x.size : Int) := by omega
          have HPl : Hid (Calls Tryz.prog 21 #[.string x] W1 fun e w' => e = .returned (.bool (pnB x)) ∧ w' = W1) := by
            rw [pnB_keep (fun h => absurd h hp)]
            exact w_rPlain x W1 hsz
          generalize pnB x = y at *
          go_wp2_with fail
          refine HPl.out.mono ?_
          rintro e w2 ⟨rfl, hw2⟩
          obtain rfl := hw2.symm
          cases hy : y with
          | true =>
            have HQ3 := Hid.mk (HQ2.out hy)
            subst hy
            go_wp2_with fail
            go_roundw
            case rel => exact ⟨k + 1, by omega, by go_num, by first | rfl | trivial, HQ3⟩
            case measure => simp [intOf]; omega
          | false =>
            have HT : Hid (R = false) := HR2.out.trans (HNo.out hy)
            subst hy
            go_wp2_with fail
            go_ret
            exact ⟨by rw [HT.out]; rfl, HX.out.below⟩
      · have hl1 : ¬ (k : Int) < (N : Int) := by omega
        have HT : Hid (R = true) := by
          have e := HQ.out
          rw [List.take_of_length_le (by rw [← HN.out]; omega)] at e
          exact HR2.out.trans e
        go_wp2_with fail
        go_ret
        exact ⟨by rw [HT.out]; rfl, HX.out.below⟩
  · have g1 : (aop != 32) = true := by simpa using hk
    have HR2 : Hid (R = aN.isEmpty) := HR.out.symm.trans (by unfold nsB; rw [if_neg hk])
    by_cases h0 : N = 0
    · have g2 : ((N : Int) == 0) = true := by rw [h0]; rfl
      have g3 : (N : Int) = 0 := by omega
      have HT : Hid (R = true) := by
        have : aN = [] := List.length_eq_zero_iff.1 (by rw [← HN.out]; exact h0)
        rw [HR2.out, this]; rfl
      clear hk h0
      go_enter Tryz.func19, Tryz.ntmps19
      go_wp2_with fail
      go_ret
      exact ⟨by rw [HT.out]; first | done | rfl, HX.out.below⟩
    · have g2 : ((N : Int) == 0) = false := by rw [beq_eq_false_iff_ne]; omega
      have g3 : ¬ (N : Int) = 0 := by omega
      have HT : Hid (R = false) := by
        rw [HR2.out]
        cases aN with
        | nil => exact absurd HN.out h0
        | cons a l => rfl
      clear hk
      go_enter Tryz.func19, Tryz.ntmps19
      go_wp2_with fail
      go_ret
      exact ⟨by rw [HT.out]; first | done | rfl, HX.out.below⟩
end Go.Proofs.YtdjleoglphgdgaaGreatDoor
namespace Go.Proofs.YtdjleoglphgdgaaGreatDoor
open Go.RowKit Go.Shelf Go.Sort
set_option linter.unusedVariables false
set_option linter.unusedSimpArgs false
attribute [local go_sem] Oper.semAt_some

/-- an end of a slice that is not there -/
noncomputable def slB (op : Int) (i : Nat) (k : NT) : Bool := decide (op = 8) && decide (0 < i) && sq (noA k) (noA nn0)
noncomputable def rkB (fm : NT → Bool) (op : Int) (i : Nat) (k : NT) : Bool := slB op i k || (fm k && !(decide (op = 3) && decide (i % 2 = 0) && (!decide (k.op = 2) || !decide (k.value.kind = 4))))
noncomputable def emN (op : Int) (ks : List NT) : Nat → Nat
  | 0 => 0
  | n + 1 => emN op ks n + (if slB op n (ks.getD n nn0) then 1 else 0)
theorem emN_le (op : Int) (ks : List NT) : ∀ n, emN op ks n ≤ n
  | 0 => Nat.le_refl _
  | n + 1 => by
    rw [emN]
    have := emN_le op ks n
    split <;> omega
/-- the document's answer: is a filter well shaped? -/
noncomputable def frN : Nat → NT → Bool
  | 0, _ => false
  | h + 1, A => kdO A.op && !(decide ((A.kids.length : Int) < kdL A.op)) && !(decide (0 ≤ kdM A.op) && decide (kdM A.op < (A.kids.length : Int))) && nsB A.op A.names && (if nmO A.op then plainW A.text.data.toList else decide (A.text = .empty)) && (if A.op = 2 then coB (h + 1) A.value else sq A.value vt0) && !((decide (A.op = 3) && decide (A.kids.length % 2 = 0)) || (decide (A.op = 5) && decide (A.kids.length % 2 = 1))) && ((List.range A.kids.length).all fun i => rkB (frN h) A.op i (A.kids.getD i nn0)) && decide (emN A.op A.kids A.kids.length < 2)
def FrOk (h : Nat) : Prop := ∀ (A : NT) (va : Value) (w : World), InA w h A va → Calls Tryz.prog 10 #[va] w fun e w' => e = .returned (.bool (frN h A)) ∧ Below w.heap.size w w'
theorem mo_pos {op : Int} (h3 : op ≠ 3) (h5 : op ≠ 5) (h33 : op ≠ 33) : 0 ≤ kdM op := by
  unfold kdM
  repeat' split
  all_goals omega

end Go.Proofs.YtdjleoglphgdgaaGreatDoor
namespace Go.Proofs.YtdjleoglphgdgaaGreatDoor
open Go.RowKit Go.Shelf Go.Sort
set_option linter.unusedVariables false
set_option linter.unusedSimpArgs false

set_option maxHeartbeats 3200000 in
theorem mf_kd (op : Int) (n : Nat) : mfB op (n : Int) = (kdO op && !(decide ((n : Int) < kdL op)) && !(decide (0 ≤ kdM op) && decide (kdM op < (n : Int))) && !((decide (op = 3) && decide (n % 2 = 0)) || (decide (op = 5) && decide (n % 2 = 1)))) := by
  by_cases h1 : op = 1 ∨ op = 2 ∨ op = 6 ∨ op = 35 ∨ op = 3 ∨ op = 4 ∨ op = 5 ∨ op = 33
  · rcases h1 with rfl | rfl | rfl | rfl | rfl | rfl | rfl | rfl
    all_goals
      rw [Bool.eq_iff_iff]
      simp [mfB, kdO, kdL, kdM]
      try omega
  by_cases h2 : op = 8 ∨ op = 28 ∨ op = 30 ∨ op = 9 ∨ op = 11 ∨ op = 34 ∨ op = 10 ∨ op = 31
  · rcases h2 with rfl | rfl | rfl | rfl | rfl | rfl | rfl | rfl
    all_goals
      rw [Bool.eq_iff_iff]
      simp [mfB, kdO, kdL, kdM]
      try omega
  by_cases h3 : op = 7 ∨ op = 29 ∨ op = 32 ∨ op = 12 ∨ op = 13 ∨ op = 25 ∨ op = 26 ∨ op = 27
  · rcases h3 with rfl | rfl | rfl | rfl | rfl | rfl | rfl | rfl
    all_goals
      rw [Bool.eq_iff_iff]
      simp [mfB, kdO, kdL, kdM]
      try omega
  simp only [not_or] at h1 h2 h3
  obtain ⟨a1, a2, a3, a4, a5, a6, a7, a8⟩ := h1
  obtain ⟨b1, b2, b3, b4, b5, b6, b7, b8⟩ := h2
  obtain ⟨c1, c2, c3, c4, c5, c6, c7, c8⟩ := h3
  rw [Bool.eq_iff_iff]
  simp [mfB, kdO, kdL, kdM, a1, a2, a3, a4, a5, a6, a7, a8, b1, b2, b3, b4, b5, b6, b7, b8, c1, c2, c3, c4, c5, c6, c7, c8]
  try omega
theorem tt_eq (op : Int) (tx : ByteArray) : ttB op tx = (if nmO op then plainW tx.data.toList else decide (tx = .empty)) := by
  unfold ttB
  split
  · rfl
  · rw [Bool.eq_iff_iff, decide_eq_true_iff]
    exact empty_l
theorem cmp_neg {s : ByteArray} (hf : Pl.formed s.data.toList = true) : decide (0 ≤ Pl.cmpN s.data.toList [48]) = decide (s.data.toList.getD 0 0 ≠ 45) := by
  have hp := formed_pos hf
  have hl := Pl.toList_cons s hp
  generalize s.data.toList = l at *
  cases l with
  | nil => cases hl
  | cons c t =>
    rw [Bool.eq_iff_iff, decide_eq_true_iff, decide_eq_true_iff]
    show _ ↔ c ≠ 45
    have h48 : Pl.formed [48] = true := by decide
    by_cases hc : c.toNat = 45
    · have h1 : Pl.cmpN (c :: t) [48] = -1 := by
        unfold Pl.cmpN
        rw [hf, h48]
        simp [Pl.neg_cons, hc]
      rw [h1]
      constructor
      · intro h; omega
      · intro h; exact absurd (UInt8.toNat_inj.1 hc) h
    · have h1 : 0 ≤ Pl.cmpN (c :: t) [48] := by
        rw [Pl.cmpN_val hf h48]
        have h2 : Pl.ival [48] = 0 := by decide
        have h3 : 0 ≤ Pl.ival (c :: t) := by
          unfold Pl.ival
          rw [Pl.neg_cons, decide_eq_false hc]
          simp
        rw [h2]
        unfold Pl.cmpI
        split
        · omega
        · split <;> omega
      constructor
      · intro _ e
        rw [e] at hc
        exact hc rfl
      · intro _; exact h1
theorem form_kind {h : Nat} {V : VT} (hf : formN (h + 1) V = true) : 0 ≤ V.kind ∧ V.kind ≤ 6 := by
  rw [formN] at hf
  unfold formV at hf
  by_cases h0 : V.kind = 0 ∨ V.kind = 1 ∨ V.kind = 2
  · omega
  by_cases h3 : V.kind = 3
  · omega
  by_cases h4 : V.kind = 4
  · omega
  by_cases h5 : V.kind = 5
  · omega
  by_cases h6 : V.kind = 6
  · omega
  rw [if_neg h0, if_neg h3, if_neg h4, if_neg h5, if_neg h6] at hf
  cases hf
theorem vf_eq (h : Nat) (op : Int) (V : VT) : vfB (h + 1) op V = (if op = 2 then coB (h + 1) V else sq V vt0) := by
  unfold vfB
  by_cases h2 : op = 2
  · rw [if_pos h2, if_pos h2]
    unfold coB
    cases hf : formN (h + 1) V with
    | false =>
      simp
    | true =>
      have hk := form_kind hf
      by_cases k3 : V.kind = 3
      · have hc := cmp_neg (form_num hf k3)
        rw [if_neg (by omega), if_pos k3, hc]
        simp [k3]
      · by_cases k4 : V.kind ≤ 4
        · rw [if_pos (by omega)]
          simp [k3, k4]
        · rw [if_neg (by omega), if_neg k3]
          simp [k4]
  · rw [if_neg h2, if_neg h2]
theorem sl_no {op : Int} (h : op ≠ 8) (i : Nat) (k : NT) : slB op i k = false := by unfold slB; simp [h]
theorem em_no {op : Int} (h : op ≠ 8) (ks : List NT) : ∀ n, emN op ks n = 0
  | 0 => rfl
  | n + 1 => by rw [emN, em_no h ks n, sl_no h]; rfl
theorem kids_eq (fm : NT → Bool) (op : Int) (ks : List NT) (h8 : op = 8 → ks.length = 3) : ((List.range ks.length).all fun i => kfB fm op ks i (ks.getD i nn0)) = (((List.range ks.length).all fun i => rkB fm op i (ks.getD i nn0)) && decide (emN op ks ks.length < 2)) := by
  by_cases k8 : op = 8
  · subst k8
    rw [h8 rfl]
    have hr : List.range 3 = [0, 1, 2] := rfl
    rw [hr]
    simp only [List.all_cons, List.all_nil, emN, slB, kfB, rkB]
    generalize sq (noA (ks.getD 1 nn0)) (noA nn0) = a
    generalize hb : sq (noA (ks.getD 2 nn0)) (noA nn0) = b
    generalize fm (ks.getD 0 nn0) = f0
    generalize fm (ks.getD 1 nn0) = f1
    generalize fm (ks.getD 2 nn0) = f2
    cases a <;> cases b <;> cases f0 <;> cases f1 <;> cases f2 <;> simp_all
  · rw [em_no k8]
    simp only [show decide (0 < 2) = true from rfl, Bool.and_true]
    congr 1
    funext i
    unfold rkB kfB
    rw [sl_no k8, if_neg (fun h => k8 h.1)]
    generalize ks.getD i nn0 = k
    by_cases h3 : op = 3 ∧ i % 2 = 0
    · rw [if_pos h3]
      cases fm k <;> by_cases o2 : k.op = 2 <;> by_cases o4 : k.value.kind = 4 <;> simp [h3.1, h3.2, o2, o4]
    · rw [if_neg h3]
      have : (decide (op = 3) && decide (i % 2 = 0)) = false := by
        rw [Bool.and_eq_false_iff]
        by_cases o3 : op = 3
        · exact Or.inr (decide_eq_false (fun e => h3 ⟨o3, e⟩))
        · exact Or.inl (decide_eq_false o3)
      rw [this]
      simp
theorem fp_fr : ∀ (h : Nat) (A : NT), fpN h A = frN h A
  | 0, _ => rfl
  | h + 1, A => by
    rw [fpN, frN, show fpN h = frN h from funext (fp_fr h), tt_eq, vf_eq, mf_kd]
    by_cases h8 : A.op = 8 → A.kids.length = 3
    · rw [kids_eq (frN h) A.op A.kids h8]
      generalize ((List.range A.kids.length).all fun i => rkB (frN h) A.op i (A.kids.getD i nn0)) = x1
      generalize (if nmO A.op then plainW A.text.data.toList else decide (A.text = .empty)) = x2
      generalize (if A.op = 2 then coB (h + 1) A.value else sq A.value vt0) = x3
      generalize nsB A.op A.names = x4
      generalize kdO A.op = x5
      generalize (!(decide ((A.kids.length : Int) < kdL A.op))) = x6
      generalize (!(decide (0 ≤ kdM A.op) && decide (kdM A.op < (A.kids.length : Int)))) = x7
      generalize (!((decide (A.op = 3) && decide (A.kids.length % 2 = 0)) || (decide (A.op = 5) && decide (A.kids.length % 2 = 1)))) = x8
      generalize decide (emN A.op A.kids A.kids.length < 2) = x9
      cases x1 <;> cases x2 <;> cases x3 <;> cases x4 <;> cases x5 <;> cases x6 <;> cases x7 <;> cases x8 <;> simp
    · have hz : mfB A.op (A.kids.length : Int) = false := by
        cases hm : mfB A.op (A.kids.length : Int) with
        | false => rfl
        | true =>
          exact absurd (fun e => by rw [e] at hm; have := mf8 hm; omega) h8
      rw [mf_kd] at hz
      generalize ((List.range A.kids.length).all fun i => rkB (frN h) A.op i (A.kids.getD i nn0)) = x1
      generalize (if nmO A.op then plainW A.text.data.toList else decide (A.text = .empty)) = x2
      generalize (if A.op = 2 then coB (h + 1) A.value else sq A.value vt0) = x3
      generalize nsB A.op A.names = x4
      generalize kdO A.op = x5 at *
      generalize (!(decide ((A.kids.length : Int) < kdL A.op))) = x6 at *
      generalize (!(decide (0 ≤ kdM A.op) && decide (kdM A.op < (A.kids.length : Int)))) = x7 at *
      generalize (!((decide (A.op = 3) && decide (A.kids.length % 2 = 0)) || (decide (A.op = 5) && decide (A.kids.length % 2 = 1)))) = x8 at *
      cases x5 <;> cases x6 <;> cases x7 <;> cases x8 <;> simp_all
end Go.Proofs.YtdjleoglphgdgaaGreatDoor
namespace Go.Proofs.YtdjleoglphgdgaaGreatDoor
open Go.RowKit Go.Shelf Go.Sort
set_option linter.unusedVariables false
set_option linter.unusedSimpArgs false
attribute [local go_sem] Oper.semAt_some

set_option maxRecDepth 100000 in
set_option maxHeartbeats 6400000 in
theorem fr_c2 (h : Nat) (ih : FrOk h) (aat : Int) (atx : ByteArray) (aV : VT) (aN : List ByteArray) (aI : List NT) (va : Value) (w : World) (hA : InA w (h + 1) (NT.mk 2 aat atx aV aN aI) va)  : Calls Tryz.prog 10 #[va] w fun e w' => e = .returned (.bool (frN (h + 1) (NT.mk 2 aat atx aV aN aI))) ∧ Below w.heap.size w w' := by
  have hA0 := hA
  obtain ⟨aio, aic, ayo, ayc, ano, anc, ako, akc, rfl, a1, a2, a3, a4, hna, hka⟩ := hA
  simp only [NT.op, NT.at_, NT.text, NT.value, NT.names, NT.kids] at *
  obtain ⟨R, HR⟩ : ∃ R, Hid (frN (h + 1) (NT.mk 2 aat atx aV aN aI) = R) := ⟨_, rfl⟩
  rw [HR.out]
  have HR2 : Hid (R = (kdO 2 && !(decide ((aI.length : Int) < kdL 2)) && !(decide (0 ≤ kdM 2) && decide (kdM 2 < (aI.length : Int))) && nsB 2 aN && (if nmO 2 then plainW atx.data.toList else decide (atx = .empty)) && (if 2 = 2 then coB (h + 1) aV else sq aV vt0) && !((decide (2 = 3) && decide (aI.length % 2 = 0)) || (decide (2 = 5) && decide (aI.length % 2 = 1))) && ((List.range aI.length).all fun i => rkB (frN h) 2 i (aI.getD i nn0)) && decide (emN 2 aI aI.length < 2))) := by
    show _ = _
    rw [← HR.out, frN]
    rfl
  have HPm : Hid (∀ u, Below w.heap.size w u → Calls Tryz.prog 19 #[.agg #[.int .i64 2, .int .i64 aat, .string atx, .int .i64 aV.kind, .string aV.num, .string aV.text, .slice aio aV.items.length aic, .slice ayo aV.keys.length ayc, .slice ano aN.length anc, .slice ako aI.length akc]] u fun e w' => e = .returned (.bool (nsB 2 aN)) ∧ Below u.heap.size u w') := fun u hu => w_paramR h (NT.mk 2 aat atx aV aN aI) _ u (hA0.low hu)
  have HPl : Hid (∀ u, Calls Tryz.prog 21 #[.string atx] u fun e w' => e = .returned (.bool (plainW atx.data.toList)) ∧ w' = u) := fun u => w_rPlain atx u a1
  have HKd := Hid.mk (fun u => w_kidsR 2 u)
  have HNm := Hid.mk (fun u => w_namedR 2 u)
  have HCo : Hid (∀ u, Below w.heap.size w u → Calls Tryz.prog 22 #[.agg #[.int .i64 aV.kind, .string aV.num, .string aV.text, .slice aio aV.items.length aic, .slice ayo aV.keys.length ayc]] u fun e w' => e = .returned (.bool (coB (h + 1) aV)) ∧ Below u.heap.size u w') := fun u hu => w_constR h aV _ u (a2.toH.keep hu)
  have HAl : Hid (∀ u, Below w.heap.size w u → Calls Tryz.prog 23 #[.agg #[.int .i64 aV.kind, .string aV.num, .string aV.text, .slice aio aV.items.length aic, .slice ayo aV.keys.length ayc], .agg #[.int .i64 0, .string ⟨#[]⟩, .string ⟨#[]⟩, .slice none 0 0, .slice none 0 0]] u fun e w' => e = .returned (.bool (sq aV vt0)) ∧ Below u.heap.size u w') := fun u hu => w_rAlike (h + 1) aV vt0 _ _ u (a2.toH.keep hu) (inH_0 u h)
  have HI : Hid (∀ (k : Nat) (h1 : k < aI.length), ∃ (b off : Nat) (kat : Int) (ktx kvn kvx : ByteArray) (kio : Option Addr) (k6 c6 : Nat) (kyo : Option Addr) (k7 c7 : Nat) (kno : Option Addr) (k8 c8 : Nat) (kko : Option Addr) (k9 c9 : Nat), ako = some ⟨b, off, none⟩ ∧ ∀ u, Below w.heap.size w u → u.cell? ⟨b, off + k * 10, none⟩ = some (.int .i64 aI[k].op) ∧ u.cell? ⟨b, off + k * 10 + 1, none⟩ = some (.int .i64 kat) ∧ u.cell? ⟨b, off + k * 10 + 2, none⟩ = some (.string ktx) ∧ u.cell? ⟨b, off + k * 10 + 3, none⟩ = some (.int .i64 aI[k].value.kind) ∧ u.cell? ⟨b, off + k * 10 + 4, none⟩ = some (.string kvn) ∧ u.cell? ⟨b, off + k * 10 + 5, none⟩ = some (.string kvx) ∧ u.cell? ⟨b, off + k * 10 + 6, none⟩ = some (.slice kio k6 c6) ∧ u.cell? ⟨b, off + k * 10 + 7, none⟩ = some (.slice kyo k7 c7) ∧ u.cell? ⟨b, off + k * 10 + 8, none⟩ = some (.slice kno k8 c8) ∧ u.cell? ⟨b, off + k * 10 + 9, none⟩ = some (.slice kko k9 c9) ∧
      Calls Tryz.prog 10 #[.agg #[.int .i64 aI[k].op, .int .i64 kat, .string ktx, .int .i64 aI[k].value.kind, .string kvn, .string kvx, .slice kio k6 c6, .slice kyo k7 c7, .slice kno k8 c8, .slice kko k9 c9]] u (fun e w' => e = .returned (.bool (frN h aI[k])) ∧ Below u.heap.size u w') ∧ Calls Tryz.prog 24 #[.agg #[.int .i64 aI[k].op, .int .i64 kat, .string ktx, .int .i64 aI[k].value.kind, .string kvn, .string kvx, .slice kio k6 c6, .slice kyo k7 c7, .slice kno k8 c8, .slice kko k9 c9]] u (fun e w' => e = .returned (.bool (sq (noA aI[k]) (noA nn0))) ∧ Below u.heap.size u w')) := fun k h1 => by
    obtain ⟨b, off, q1, _, hl1, hr1⟩ := hka (by omega)
    obtain ⟨c, p, i1⟩ := hr1 k h1
    obtain ⟨h', hh⟩ : ∃ h', h = h' + 1 := by
      cases h with
      | zero => exact i1.elim
      | succ n => exact ⟨n, rfl⟩
    have i2 := i1
    rw [hh] at i2
    have i3 := i2
    obtain ⟨kio, c6, kyo, c7, kno, c8, kko, c9, ev, _⟩ := i3
    rw [ev] at i1 i2
    simp [ndV] at ev
    obtain ⟨z0, z1, z2, z3, z4, z5, z6, z7, z8, z9⟩ := ev
    have cc : ∀ u, Below w.heap.size w u → ∀ g o v v', v = v' → g < w.heap.size → w.cell? ⟨g, o, none⟩ = some v → u.cell? ⟨g, o, none⟩ = some v' := fun u hu g o v v' e hg h => by rw [← e]; exact (hu.cell (p := ⟨g, o, none⟩) hg).trans h
    refine ⟨b, off, aI[k].at_, aI[k].text, aI[k].value.num, aI[k].value.text, kio, aI[k].value.items.length, c6, kyo, aI[k].value.keys.length, c7, kno, aI[k].names.length, c8, kko, aI[k].kids.length, c9, q1, fun u hu => ?_⟩
    exact ⟨cc u hu _ _ _ _ z0 hl1 (p 0), cc u hu _ _ _ _ z1 hl1 (p 1), cc u hu _ _ _ _ z2 hl1 (p 2), cc u hu _ _ _ _ z3 hl1 (p 3), cc u hu _ _ _ _ z4 hl1 (p 4), cc u hu _ _ _ _ z5 hl1 (p 5), cc u hu _ _ _ _ z6 hl1 (p 6), cc u hu _ _ _ _ z7 hl1 (p 7), cc u hu _ _ _ _ z8 hl1 (p 8), cc u hu _ _ _ _ z9 hl1 (p 9), ih _ _ u (InN.low i1 hu), w_noneR h' _ _ u (InN.low i2 hu)⟩
  have hcap := a4.1
  have hbig := a4.2
  clear a1 a2 a3 a4 hna hka hA0 HR
  generalize hpp : (fun i => rkB (frN h) 2 i (aI.getD i nn0)) = p at *
  have HPp : Hid (∀ k (h1 : k < aI.length), p k = (slB 2 k aI[k] || (frN h aI[k] && !(decide (2 = 3) && decide (k % 2 = 0) && (!decide (aI[k].op = 2) || !decide (aI[k].value.kind = 4)))))) := fun k h1 => by
    rw [← hpp]
    show rkB (frN h) 2 k (aI.getD k nn0) = _
    rw [getD_kid h1]
    rfl
  have HEm : Hid (∀ k (h1 : k < aI.length), emN 2 aI (k + 1) = emN 2 aI k + (if slB 2 k aI[k] then 1 else 0)) := fun k h1 => by
    rw [emN, getD_kid h1]
  have HSl : Hid (∀ k (h1 : k < aI.length), slB 2 k aI[k] = (decide (2 = 8) && decide (0 < k) && sq (noA aI[k]) (noA nn0))) := fun k h1 => rfl
  clear hpp
  generalize nsB 2 aN = pB at *
  generalize plainW atx.data.toList = tB at *
  generalize coB (h + 1) aV = co at *
  generalize sq aV vt0 = al at *
  generalize aV.kind = avk at *
  generalize aV.num = avn at *
  generalize aV.text = avx at *
  generalize aV.items.length = avi at *
  generalize aV.keys.length = avy at *
  generalize aN.length = ann at *
  obtain ⟨N, hN⟩ : ∃ N, N = aI.length := ⟨_, rfl⟩
  rw [← hN] at hbig hcap ⊢
  rw [← hN] at HPm HR2
  have HN := Hid.mk hN
  clear hN
  obtain ⟨W1, hW1⟩ : ∃ W1, w.alloc (.cells #[.int .i64 2, .int .i64 aat, .string atx, .int .i64 avk, .string avn, .string avx, .slice aio avi aic, .slice ayo avy ayc, .slice ano ann anc, .slice ako N akc] 28) = W1 := ⟨_, rfl⟩
  have HX := Hid.mk (B1.new hW1)
  have x0 := HX.out.ca (j := 0) rfl
  have x1 := HX.out.ca (j := 1) rfl
  have x2 := HX.out.ca (j := 2) rfl
  have x3 := HX.out.ca (j := 3) rfl
  have x4 := HX.out.ca (j := 4) rfl
  have x5 := HX.out.ca (j := 5) rfl
  have x6 := HX.out.ca (j := 6) rfl
  have x7 := HX.out.ca (j := 7) rfl
  have x8 := HX.out.ca (j := 8) rfl
  have x9 := HX.out.ca (j := 9) rfl
  have hmo : 0 ≤ kdM 2 := by decide
  have HMo : Hid (kdM 2 = 0) := rfl
  generalize kdO 2 = ok at *
  generalize kdL 2 = lo at *
  generalize kdM 2 = mo at *
  rw [show nmO 2 = false from rfl] at HNm HR2
  go_enter Tryz.func10, Tryz.ntmps10
  go_wp2_with fail
  refine (HKd.out _).mono ?_
  rintro e w1 ⟨rfl, hw1⟩
  obtain rfl := hw1.symm
  clear hW1 HKd
  cases ok with
  | false =>
    have HT : Hid (R = false) := by
      show _ = _
      rw [HR2.out]
      simp []
    go_wp2_with fail
    go_ret
    exact ⟨by rw [HT.out]; rfl, HX.out.below⟩
  | true =>
    by_cases l1 : (N : Int) < lo
    · have dl : decide ((N : Int) < lo) = true := by rw [decide_eq_true_iff]; exact l1
      have HT : Hid (R = false) := by
        show _ = _
        rw [HR2.out]
        simp [l1]
      go_wp2_with fail
      go_ret
      exact ⟨by rw [HT.out]; rfl, HX.out.below⟩
    have dl : decide ((N : Int) < lo) = false := by rw [decide_eq_false_iff_not]; exact l1
    have L1 := Hid.mk dl
    by_cases m1 : mo < (N : Int)
    · have dm : decide ((N : Int) > mo) = true := by rw [decide_eq_true_iff]; exact m1
      have dm0 : decide (mo ≥ (0 : Int)) = true := by rw [decide_eq_true_iff]; omega
      have HT : Hid (R = false) := by
        show _ = _
        rw [HR2.out]
        simp [m1, hmo]
      go_wp2_with fail
      go_ret
      exact ⟨by rw [HT.out]; rfl, HX.out.below⟩
    have dm : decide ((N : Int) > mo) = false := by rw [decide_eq_false_iff_not]; exact m1
    have dm0 : decide (mo ≥ (0 : Int)) = true := by rw [decide_eq_true_iff]; omega
    have M1 : Hid (decide (mo < (N : Int)) = false) := dm
    have HZ : Hid (N = 0) := by
      have e := HMo.out
      show _ = _
      omega
    go_wp2_with fail
    refine (HPm.out _ HX.out.below).mono ?_
    rintro e w2 ⟨rfl, hb2⟩
    have HX2 := Hid.mk (HX.out.keep hb2)
    clear x0 x1 x2 x3 x4 x5 x6 x7 x8 x9
    have y0 := HX2.out.ca (j := 0) rfl
    have y1 := HX2.out.ca (j := 1) rfl
    have y2 := HX2.out.ca (j := 2) rfl
    have y3 := HX2.out.ca (j := 3) rfl
    have y4 := HX2.out.ca (j := 4) rfl
    have y5 := HX2.out.ca (j := 5) rfl
    have y6 := HX2.out.ca (j := 6) rfl
    have y7 := HX2.out.ca (j := 7) rfl
    have y8 := HX2.out.ca (j := 8) rfl
    have y9 := HX2.out.ca (j := 9) rfl
    clear hb2 HPm
    cases pB with
    | false =>
      have HT : Hid (R = false) := by
        show _ = _
        rw [HR2.out]
        simp [L1.out, M1.out]
      go_wp2_with fail
      go_ret
      exact ⟨by rw [HT.out]; rfl, HX2.out.below⟩
    | true =>
      go_wp2_with fail
      refine (HNm.out _).mono ?_
      rintro e w5 ⟨rfl, hw5⟩
      obtain rfl := hw5.symm
      go_wp2_with fail
      refine (HNm.out _).mono ?_
      rintro e w5 ⟨rfl, hw5⟩
      obtain rfl := hw5.symm
      by_cases te : atx = .empty
      · subst te
        have TX : Hid True := trivial
        go_wp2_with fail
        refine (HCo.out _ HX2.out.below).mono ?_
        rintro e w3 ⟨rfl, hb3⟩
        have HX3 := Hid.mk (HX2.out.keep hb3)
        clear y0 y1 y2 y3 y4 y5 y6 y7 y8 y9
        have z0 := HX3.out.ca (j := 0) rfl
        have z9 := HX3.out.ca (j := 9) rfl
        clear hb3 HAl HCo
        cases co with
        | false =>
          have HT : Hid (R = false) := by
            show _ = _
            rw [HR2.out]
            simp [L1.out, M1.out]
          go_wp2_with fail
          go_ret
          exact ⟨by rw [HT.out]; rfl, HX3.out.below⟩
        | true =>
          have HRl : Hid (R = ((List.range N).all p && decide (emN 2 aI N < 2))) := by
            show _ = _
            rw [HR2.out]
            simp [L1.out, M1.out, TX.out]
          clear HR2 HNm HPl
          go_wp2_with fail
          clear z0 z9
          go_loopw [7, 6] (fun i m wr => ∃ k : Nat, k ≤ N ∧ i = .int .i64 (k : Int) ∧ m = .int .i64 (emN 2 aI k : Int) ∧ Hid ((List.range k).all p = true) ∧ Hid (B1 w #[.int .i64 2, .int .i64 aat, .string ByteArray.empty, .int .i64 avk, .string avn, .string avx, .slice aio avi aic, .slice ayo avy ayc, .slice ano ann anc, .slice ako N akc] 28 wr)) (fun i _ _ => N - (intOf i).toNat)
          case atStart => exact ⟨0, Nat.zero_le _, rfl, rfl, rfl, HX3⟩
          case round =>
            obtain ⟨k, hk, rfl, rfl, HQ, HBw⟩ := hrel
            have t0 := HBw.out.ca (j := 0) rfl
            have t9 := HBw.out.ca (j := 9) rfl
            have hem := emN_le 2 aI k
            by_cases hlt : k < N
            · have hl1 : (k : Int) < (N : Int) := by omega
              have hz := HZ.out
              exfalso
              omega
            · have hl1 : ¬ (k : Int) < (N : Int) := by omega
              have hkN : k = N := by omega
              have HRq : Hid (R = decide (emN 2 aI k < 2)) := by
                have e := HQ.out
                rw [hkN] at e ⊢
                rw [HRl.out, e]
                rfl
              generalize emN 2 aI k = m at *
              by_cases h2 : m < 2
              · have h2' : (m : Int) < 2 := by omega
                have HT : Hid (R = true) := HRq.out.trans (decide_eq_true h2)
                go_wp2_with fail
                go_ret
                exact ⟨by rw [HT.out]; first | done | rfl, HBw.out.below⟩
              · have h2' : ¬ (m : Int) < 2 := by omega
                have HT : Hid (R = false) := HRq.out.trans (decide_eq_false h2)
                go_wp2_with fail
                go_ret
                exact ⟨by rw [HT.out]; first | done | rfl, HBw.out.below⟩
      · obtain ⟨t1, t2, t3⟩ := ne_bytes te
        have HT : Hid (R = false) := by
          show _ = _
          rw [HR2.out]
          simp [L1.out, M1.out, te]
        go_wp2_with fail
        go_ret
        exact ⟨by rw [HT.out]; rfl, HX2.out.below⟩

end Go.Proofs.YtdjleoglphgdgaaGreatDoor
