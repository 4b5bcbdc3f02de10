import Derived.Test.YtohclfgghobldaaGreatDoorM32
import Derived.Test.YtohclfgghobldaaGreatDoorM20
import Derived.Test.YtohclfgghobldaaGreatDoorM27
namespace Go.Proofs.YtohclfgghobldaaGreatDoor
open Go.RowKit Go.Shelf
set_option linter.unusedVariables false
set_option linter.unusedSimpArgs false

theorem ext_take (s : ByteArray) (p k : Nat) (hk : p + k ≤ s.size) : (s.extract p (p + k)).toList = (s.data.toList.drop p).take k := by
  rw [Lib.toList_data, extract_lst s p (p + k) hk]
  unfold cut
  rw [show p + k - p = k by omega]

set_option maxRecDepth 100000 in
set_option maxHeartbeats 6400000 in
theorem w_rmark (s : ByteArray) (p : Nat) (w : World) (hp : p < s.size) (hs : s.size ≤ 140737488355328) :
    Calls Tryz.prog 45 #[.string s, .int .i64 (p : Int)] w fun e w' => e = .returned (.int .i64 ((rmk s.data.toList p : Nat) : Int)) ∧ w' = w := by
  have hi0 : (0 : Int) ≤ (p : Int) := by omega
  have hj2 : (p : Int) ≤ (p : Int) + 2 := by omega
  have hj3 : (p : Int) ≤ (p : Int) + 3 := by omega
  have hi1 : (p : Int) < (s.size : Int) := by omega
  have hpl : p < s.data.toList.length := by rw [size_lst]; exact hp
  by_cases h3 : p + 3 ≤ s.size ∧ (s.data.toList.drop p).take 3 = [47, 47, 61]
  · have HT : Hid (rmk s.data.toList p = 3) := by show _ = _; unfold rmk; rw [size_lst, if_pos h3]
    have H3 : (p : Int) + 3 ≤ (s.size : Int) := by omega
    have g3 : ((s.extract p (p + 3)).toList == [47, 47, 61]) = true := by rw [ext_take s p 3 h3.1, h3.2]; rfl
    clear h3
    go_enter Tryz.func45, Tryz.ntmps45
    go_wp2_with fail
    go_ret
    exact ⟨by rw [HT.out]; first | done | rfl, rfl⟩
  have H3 : ¬ (p : Int) + 3 ≤ (s.size : Int) ∨ ((p : Int) + 3 ≤ (s.size : Int) ∧ ((s.extract p (p + 3)).toList == [47, 47, 61]) = false) := by
    by_cases h : p + 3 ≤ s.size
    · right
      refine ⟨by omega, ?_⟩
      rw [ext_take s p 3 h, beq_eq_false_iff_ne]
      exact fun e => h3 ⟨h, e⟩
    · left; omega
  by_cases h2 : p + 2 ≤ s.size
  · have H2 : (p : Int) + 2 ≤ (s.size : Int) := by omega
    have HX := ext_take s p 2 h2
    by_cases q0 : (s.data.toList.drop p).take 2 = [46, 46]
    · have HT : Hid (rmk s.data.toList p = 2) := by show _ = _; unfold rmk; rw [size_lst, if_neg h3, if_pos ⟨h2, by rw [q0]; decide⟩]
      have g0 : ((s.extract p (p + 2)).toList == [46, 46]) = true := by rw [HX, q0]; rfl
      clear q0 h3 HX
      rcases H3 with H3 | ⟨H3, g3⟩
      · skip
        go_enter Tryz.func45, Tryz.ntmps45
        go_wp2_with fail
        go_ret
        exact ⟨by rw [HT.out]; first | done | rfl, rfl⟩
      · skip
        go_enter Tryz.func45, Tryz.ntmps45
        go_wp2_with fail
        go_ret
        exact ⟨by rw [HT.out]; first | done | rfl, rfl⟩
    have g0 : ((s.extract p (p + 2)).toList == [46, 46]) = false := by rw [HX, beq_eq_false_iff_ne]; exact q0
    by_cases q1 : (s.data.toList.drop p).take 2 = [124, 61]
    · have HT : Hid (rmk s.data.toList p = 2) := by show _ = _; unfold rmk; rw [size_lst, if_neg h3, if_pos ⟨h2, by rw [q1]; decide⟩]
      have g1 : ((s.extract p (p + 2)).toList == [124, 61]) = true := by rw [HX, q1]; rfl
      clear q1 h3 HX
      rcases H3 with H3 | ⟨H3, g3⟩
      · skip
        go_enter Tryz.func45, Tryz.ntmps45
        go_wp2_with fail
        go_ret
        exact ⟨by rw [HT.out]; first | done | rfl, rfl⟩
      · skip
        go_enter Tryz.func45, Tryz.ntmps45
        go_wp2_with fail
        go_ret
        exact ⟨by rw [HT.out]; first | done | rfl, rfl⟩
    have g1 : ((s.extract p (p + 2)).toList == [124, 61]) = false := by rw [HX, beq_eq_false_iff_ne]; exact q1
    by_cases q2 : (s.data.toList.drop p).take 2 = [43, 61]
    · have HT : Hid (rmk s.data.toList p = 2) := by show _ = _; unfold rmk; rw [size_lst, if_neg h3, if_pos ⟨h2, by rw [q2]; decide⟩]
      have g2 : ((s.extract p (p + 2)).toList == [43, 61]) = true := by rw [HX, q2]; rfl
      clear q2 h3 HX
      rcases H3 with H3 | ⟨H3, g3⟩
      · skip
        go_enter Tryz.func45, Tryz.ntmps45
        go_wp2_with fail
        go_ret
        exact ⟨by rw [HT.out]; first | done | rfl, rfl⟩
      · skip
        go_enter Tryz.func45, Tryz.ntmps45
        go_wp2_with fail
        go_ret
        exact ⟨by rw [HT.out]; first | done | rfl, rfl⟩
    have g2 : ((s.extract p (p + 2)).toList == [43, 61]) = false := by rw [HX, beq_eq_false_iff_ne]; exact q2
    by_cases q3 : (s.data.toList.drop p).take 2 = [45, 61]
    · have HT : Hid (rmk s.data.toList p = 2) := by show _ = _; unfold rmk; rw [size_lst, if_neg h3, if_pos ⟨h2, by rw [q3]; decide⟩]
      have g3 : ((s.extract p (p + 2)).toList == [45, 61]) = true := by rw [HX, q3]; rfl
      clear q3 h3 HX
      rcases H3 with H3 | ⟨H3, g3⟩
      · skip
        go_enter Tryz.func45, Tryz.ntmps45
        go_wp2_with fail
        go_ret
        exact ⟨by rw [HT.out]; first | done | rfl, rfl⟩
      · skip
        go_enter Tryz.func45, Tryz.ntmps45
        go_wp2_with fail
        go_ret
        exact ⟨by rw [HT.out]; first | done | rfl, rfl⟩
    have g3 : ((s.extract p (p + 2)).toList == [45, 61]) = false := by rw [HX, beq_eq_false_iff_ne]; exact q3
    by_cases q4 : (s.data.toList.drop p).take 2 = [42, 61]
    · have HT : Hid (rmk s.data.toList p = 2) := by show _ = _; unfold rmk; rw [size_lst, if_neg h3, if_pos ⟨h2, by rw [q4]; decide⟩]
      have g4 : ((s.extract p (p + 2)).toList == [42, 61]) = true := by rw [HX, q4]; rfl
      clear q4 h3 HX
      rcases H3 with H3 | ⟨H3, g3⟩
      · skip
        go_enter Tryz.func45, Tryz.ntmps45
        go_wp2_with fail
        go_ret
        exact ⟨by rw [HT.out]; first | done | rfl, rfl⟩
      · skip
        go_enter Tryz.func45, Tryz.ntmps45
        go_wp2_with fail
        go_ret
        exact ⟨by rw [HT.out]; first | done | rfl, rfl⟩
    have g4 : ((s.extract p (p + 2)).toList == [42, 61]) = false := by rw [HX, beq_eq_false_iff_ne]; exact q4
    by_cases q5 : (s.data.toList.drop p).take 2 = [47, 61]
    · have HT : Hid (rmk s.data.toList p = 2) := by show _ = _; unfold rmk; rw [size_lst, if_neg h3, if_pos ⟨h2, by rw [q5]; decide⟩]
      have g5 : ((s.extract p (p + 2)).toList == [47, 61]) = true := by rw [HX, q5]; rfl
      clear q5 h3 HX
      rcases H3 with H3 | ⟨H3, g3⟩
      · skip
        go_enter Tryz.func45, Tryz.ntmps45
        go_wp2_with fail
        go_ret
        exact ⟨by rw [HT.out]; first | done | rfl, rfl⟩
      · skip
        go_enter Tryz.func45, Tryz.ntmps45
        go_wp2_with fail
        go_ret
        exact ⟨by rw [HT.out]; first | done | rfl, rfl⟩
    have g5 : ((s.extract p (p + 2)).toList == [47, 61]) = false := by rw [HX, beq_eq_false_iff_ne]; exact q5
    by_cases q6 : (s.data.toList.drop p).take 2 = [37, 61]
    · have HT : Hid (rmk s.data.toList p = 2) := by show _ = _; unfold rmk; rw [size_lst, if_neg h3, if_pos ⟨h2, by rw [q6]; decide⟩]
      have g6 : ((s.extract p (p + 2)).toList == [37, 61]) = true := by rw [HX, q6]; rfl
      clear q6 h3 HX
      rcases H3 with H3 | ⟨H3, g3⟩
      · skip
        go_enter Tryz.func45, Tryz.ntmps45
        go_wp2_with fail
        go_ret
        exact ⟨by rw [HT.out]; first | done | rfl, rfl⟩
      · skip
        go_enter Tryz.func45, Tryz.ntmps45
        go_wp2_with fail
        go_ret
        exact ⟨by rw [HT.out]; first | done | rfl, rfl⟩
    have g6 : ((s.extract p (p + 2)).toList == [37, 61]) = false := by rw [HX, beq_eq_false_iff_ne]; exact q6
    by_cases q7 : (s.data.toList.drop p).take 2 = [61, 61]
    · have HT : Hid (rmk s.data.toList p = 2) := by show _ = _; unfold rmk; rw [size_lst, if_neg h3, if_pos ⟨h2, by rw [q7]; decide⟩]
      have g7 : ((s.extract p (p + 2)).toList == [61, 61]) = true := by rw [HX, q7]; rfl
      clear q7 h3 HX
      rcases H3 with H3 | ⟨H3, g3⟩
      · skip
        go_enter Tryz.func45, Tryz.ntmps45
        go_wp2_with fail
        go_ret
        exact ⟨by rw [HT.out]; first | done | rfl, rfl⟩
      · skip
        go_enter Tryz.func45, Tryz.ntmps45
        go_wp2_with fail
        go_ret
        exact ⟨by rw [HT.out]; first | done | rfl, rfl⟩
    have g7 : ((s.extract p (p + 2)).toList == [61, 61]) = false := by rw [HX, beq_eq_false_iff_ne]; exact q7
    by_cases q8 : (s.data.toList.drop p).take 2 = [33, 61]
    · have HT : Hid (rmk s.data.toList p = 2) := by show _ = _; unfold rmk; rw [size_lst, if_neg h3, if_pos ⟨h2, by rw [q8]; decide⟩]
      have g8 : ((s.extract p (p + 2)).toList == [33, 61]) = true := by rw [HX, q8]; rfl
      clear q8 h3 HX
      rcases H3 with H3 | ⟨H3, g3⟩
      · skip
        go_enter Tryz.func45, Tryz.ntmps45
        go_wp2_with fail
        go_ret
        exact ⟨by rw [HT.out]; first | done | rfl, rfl⟩
      · skip
        go_enter Tryz.func45, Tryz.ntmps45
        go_wp2_with fail
        go_ret
        exact ⟨by rw [HT.out]; first | done | rfl, rfl⟩
    have g8 : ((s.extract p (p + 2)).toList == [33, 61]) = false := by rw [HX, beq_eq_false_iff_ne]; exact q8
    by_cases q9 : (s.data.toList.drop p).take 2 = [60, 61]
    · have HT : Hid (rmk s.data.toList p = 2) := by show _ = _; unfold rmk; rw [size_lst, if_neg h3, if_pos ⟨h2, by rw [q9]; decide⟩]
      have g9 : ((s.extract p (p + 2)).toList == [60, 61]) = true := by rw [HX, q9]; rfl
      clear q9 h3 HX
      rcases H3 with H3 | ⟨H3, g3⟩
      · skip
        go_enter Tryz.func45, Tryz.ntmps45
        go_wp2_with fail
        go_ret
        exact ⟨by rw [HT.out]; first | done | rfl, rfl⟩
      · skip
        go_enter Tryz.func45, Tryz.ntmps45
        go_wp2_with fail
        go_ret
        exact ⟨by rw [HT.out]; first | done | rfl, rfl⟩
    have g9 : ((s.extract p (p + 2)).toList == [60, 61]) = false := by rw [HX, beq_eq_false_iff_ne]; exact q9
    by_cases q10 : (s.data.toList.drop p).take 2 = [62, 61]
    · have HT : Hid (rmk s.data.toList p = 2) := by show _ = _; unfold rmk; rw [size_lst, if_neg h3, if_pos ⟨h2, by rw [q10]; decide⟩]
      have g10 : ((s.extract p (p + 2)).toList == [62, 61]) = true := by rw [HX, q10]; rfl
      clear q10 h3 HX
      rcases H3 with H3 | ⟨H3, g3⟩
      · skip
        go_enter Tryz.func45, Tryz.ntmps45
        go_wp2_with fail
        go_ret
        exact ⟨by rw [HT.out]; first | done | rfl, rfl⟩
      · skip
        go_enter Tryz.func45, Tryz.ntmps45
        go_wp2_with fail
        go_ret
        exact ⟨by rw [HT.out]; first | done | rfl, rfl⟩
    have g10 : ((s.extract p (p + 2)).toList == [62, 61]) = false := by rw [HX, beq_eq_false_iff_ne]; exact q10
    by_cases q11 : (s.data.toList.drop p).take 2 = [47, 47]
    · have HT : Hid (rmk s.data.toList p = 2) := by show _ = _; unfold rmk; rw [size_lst, if_neg h3, if_pos ⟨h2, by rw [q11]; decide⟩]
      have g11 : ((s.extract p (p + 2)).toList == [47, 47]) = true := by rw [HX, q11]; rfl
      clear q11 h3 HX
      rcases H3 with H3 | ⟨H3, g3⟩
      · skip
        go_enter Tryz.func45, Tryz.ntmps45
        go_wp2_with fail
        go_ret
        exact ⟨by rw [HT.out]; first | done | rfl, rfl⟩
      · skip
        go_enter Tryz.func45, Tryz.ntmps45
        go_wp2_with fail
        go_ret
        exact ⟨by rw [HT.out]; first | done | rfl, rfl⟩
    have g11 : ((s.extract p (p + 2)).toList == [47, 47]) = false := by rw [HX, beq_eq_false_iff_ne]; exact q11
    have hno : mk2L.contains ((s.data.toList.drop p).take 2) = false := by
      simp only [mk2L, List.contains_cons, List.contains_nil, beq_eq_false_iff_ne.2 q0, beq_eq_false_iff_ne.2 q1, beq_eq_false_iff_ne.2 q2, beq_eq_false_iff_ne.2 q3, beq_eq_false_iff_ne.2 q4, beq_eq_false_iff_ne.2 q5, beq_eq_false_iff_ne.2 q6, beq_eq_false_iff_ne.2 q7, beq_eq_false_iff_ne.2 q8, beq_eq_false_iff_ne.2 q9, beq_eq_false_iff_ne.2 q10, beq_eq_false_iff_ne.2 q11, Bool.or_false]
    have h1 := w_rmark1 s p w hp hs H3 (.inr ⟨H2, g0, g1, g2, g3, g4, g5, g6, g7, g8, g9, g10, g11⟩)
    refine h1.mono (fun e w' h => ⟨?_, h.2⟩)
    rw [h.1]
    unfold rmk rk1
    rw [size_lst, if_neg h3, if_neg (show ¬ (p + 2 ≤ s.size ∧ mk2L.contains ((s.data.toList.drop p).take 2) = true) from fun g => by rw [hno] at g; exact absurd g.2 (by decide)), getD_byte hp]
  · have h1 := w_rmark1 s p w hp hs H3 (.inl (by omega))
    refine h1.mono (fun e w' h => ⟨?_, h.2⟩)
    rw [h.1]
    unfold rmk rk1
    rw [size_lst, if_neg h3, if_neg (show ¬ (p + 2 ≤ s.size ∧ mk2L.contains ((s.data.toList.drop p).take 2) = true) from fun g => h2 g.1), getD_byte hp]
end Go.Proofs.YtohclfgghobldaaGreatDoor
namespace Go.Proofs.YtohclfgghobldaaGreatDoor
open Go.RowKit
set_option linter.unusedVariables false
set_option linter.unusedSimpArgs false

set_option maxRecDepth 100000 in
set_option maxHeartbeats 1600000 in
theorem w_literalW (x : ByteArray) (b : Bool) (w : World) (hs : x.size ≤ 140737488355328) :
    Calls Tryz.prog 100 #[.string x, .bool b] w fun e w' => e = .returned (.string ⟨(litW x.data.toList b).toArray⟩) ∧ w' = w := by
  have h1 : ¬ 9223372036854775807 < (⟨#[34]⟩ : ByteArray).size + x.size := by show ¬ _ < 1 + x.size; omega
  have h2 : ¬ (9223372036854775807 : Int) < ((⟨#[34]⟩ : ByteArray).size : Int) + (x.size : Int) := by show ¬ _ < ((1 : Nat) : Int) + (x.size : Int); omega
  have hz : ((⟨#[34]⟩ : ByteArray) ++ x).size = 1 + x.size := by rw [ByteArray.size_append]; rfl
  have h3 : ¬ 9223372036854775807 < ((⟨#[34]⟩ : ByteArray) ++ x).size + (⟨#[34]⟩ : ByteArray).size := by rw [hz]; show ¬ _ < 1 + x.size + 1; omega
  have h4 : ¬ (9223372036854775807 : Int) < (((⟨#[34]⟩ : ByteArray) ++ x).size : Int) + ((⟨#[34]⟩ : ByteArray).size : Int) := by rw [hz]; show ¬ _ < ((1 + x.size : Nat) : Int) + ((1 : Nat) : Int); omega
  have HX : Hid ((⟨#[34]⟩ : ByteArray) ++ x = ⟨(litW x.data.toList false).toArray⟩ ∧ ((⟨#[34]⟩ : ByteArray) ++ x) ++ ⟨#[34]⟩ = ⟨(litW x.data.toList true).toArray⟩) := by
    constructor
    · apply ByteArray.ext
      rw [ByteArray.data_append]
      apply Array.ext'
      rw [Array.toList_append]
      unfold litW; simp
    · apply ByteArray.ext
      rw [ByteArray.data_append, ByteArray.data_append]
      apply Array.ext'
      rw [Array.toList_append, Array.toList_append]
      unfold litW; simp
  clear hz
  cases b
  · go_enter Tryz.func100, Tryz.ntmps100
    go_wp2_with fail
    go_ret
    exact ⟨by rw [← HX.out.1]; first | done | rfl, rfl⟩
  · go_enter Tryz.func100, Tryz.ntmps100
    go_wp2_with fail
    go_ret
    exact ⟨by rw [← HX.out.2]; first | done | rfl, rfl⟩

set_option maxRecDepth 100000 in
set_option maxHeartbeats 800000 in
theorem w_wfault (p e : Int) (w : World) :
    Calls Tryz.prog 94 #[.int .i64 p, .int .i64 e] w fun en w' => en = .returned (.tuple #[.agg #[.int .i64 0, .int .i64 p, .int .i64 0, .string ⟨#[]⟩], .int .i64 e]) ∧ Below w.heap.size w w' := by
  have HB := Hid.mk (below1 w (.cells #[.int .i64 0, .int .i64 p, .int .i64 0, .string ⟨#[]⟩] 54))
  go_enter Tryz.func94, Tryz.ntmps94
  go_wp2_with fail
  (try simp only [Exit.inBlock, Exit.then])
  refine bodyPost_ret (v := .tuple #[.agg #[.int .i64 0, .int .i64 p, .int .i64 0, .string ⟨#[]⟩], .int .i64 e]) (by simp [results, Tryz.results94, go_sem]) rfl ?_
  exact ⟨rfl, HB.out⟩
end Go.Proofs.YtohclfgghobldaaGreatDoor
namespace Go.Proofs.YtohclfgghobldaaGreatDoor
open Go.RowKit
set_option linter.unusedVariables false
set_option linter.unusedSimpArgs false

/-- the cutter's box -/
def CtB (w : World) (C : Nat) (s : ByteArray) (v : Value) : Prop := w.heap[C]? = some (.cells #[.string s, v] 58 (0, 0))
theorem CtB.low {w w' : World} {n C : Nat} {s : ByteArray} {v : Value} (h : CtB w C s v) (hb : Below n w w') (hC : C < n) : CtB w' C s v := heap_lowT hb hC h
theorem CtB.lt {w : World} {C : Nat} {s : ByteArray} {v : Value} (h : CtB w C s v) : C < w.heap.size := (Array.getElem?_eq_some_iff.1 h).1
theorem CtB.c0 {w : World} {C : Nat} {s : ByteArray} {v : Value} (h : CtB w C s v) : w.cell? ⟨C, 0, none⟩ = some (.string s) := by rw [cell_of_row _ _ 0 _ _ _ h]; rfl
theorem CtB.c1 {w : World} {C : Nat} {s : ByteArray} {v : Value} (h : CtB w C s v) : w.cell? ⟨C, 1, none⟩ = some v := by rw [cell_of_row _ _ 1 _ _ _ h]; rfl
theorem CtB.f1 {w : World} {C : Nat} {s : ByteArray} {v : Value} (h : CtB w C s v) : w.frozen? ⟨C, 1, none⟩ = false := frozen_rowT (j := 1) h

set_option maxRecDepth 100000 in
set_option maxHeartbeats 3200000 in
theorem w_cName (s : ByteArray) (p C : Nat) (v : Value) (w : World) (hp : p < s.size) (hs : s.size ≤ 1099511627776) (hC : CtB w C s v) :
    Calls Tryz.prog 50 #[.pointer (some ⟨C, 0, none⟩), .int .i64 (p : Int)] w fun e w' => TokR (nameT s.data.toList p) w w' e := by
  have HN := Hid.mk (fun u => w_nameAt s p u (by omega) (by omega))
  have HO := Hid.mk (fun u => w_wOwn ⟨(nameW s.data.toList p).toArray⟩ u)
  rw [arr_lst (nameW s.data.toList p)] at HO
  have hln := nameW_len (l := s.data.toList) (p := p) (by rw [size_lst]; omega)
  rw [size_lst] at hln
  have hsz : (⟨(nameW s.data.toList p).toArray⟩ : ByteArray).size = (nameW s.data.toList p).length := arr_size _
  unfold nameT TokR tokV
  dsimp only
  generalize nameW s.data.toList p = nm at *
  obtain ⟨tb, htb⟩ : ∃ tb : ByteArray, (⟨nm.toArray⟩ : ByteArray) = tb := ⟨_, rfl⟩
  rw [htb] at HN HO hsz ⊢
  have HSZ := Hid.mk hsz
  clear htb
  have HR : Hid (((nm.length : Nat) : Int) = (tb.size : Int)) := by show _ = _; rw [hsz]
  have hln2 : p + tb.size ≤ s.size := by rw [hsz]; exact hln
  clear hsz hln
  cases ho : ownB nm with
  | false =>
    rw [ho] at HO
    clear ho
    have HC0 := Hid.mk (hC.low (below1 w tbox0) hC.lt)
    have c0 := HC0.out.c0
    unfold tbox0 at c0
    go_enter Tryz.func50, Tryz.ntmps50
    go_wp2_with fail
    refine (HN.out _).mono ?_
    rintro e w1 ⟨rfl, hw1⟩
    obtain rfl := hw1.symm
    clear c0
    go_wp2_with fail
    refine (HO.out _).mono ?_
    rintro e w1 ⟨rfl, hw1⟩
    obtain rfl := hw1.symm
    obtain ⟨W, hW⟩ : ∃ W, w.alloc tbox0 = W := ⟨_, rfl⟩
    have hX := heap_alloc_new w tbox0
    rw [hW] at hX
    have HX := Hid.mk hX
    have hb := below1 w tbox0
    rw [hW] at hb
    have HB := Hid.mk hb
    obtain ⟨kc0, kc1, kc2, kc3, kf0, kf1, kf2, kf3⟩ := tbox_cells hX
    unfold tbox0 at hW
    rw [hW]
    clear hW hX hb
    go_wp2_with fail
    (try simp only [Exit.inBlock, Exit.then])
    generalize hz : ((((W).setCell ⟨w.heap.size, 0, none⟩ (.int .i64 1)).setCell ⟨w.heap.size, 1, none⟩ (.int .i64 (p : Int))).setCell ⟨w.heap.size, 2, none⟩ (.int .i64 ((p : Int) + (tb.size : Int)))).setCell ⟨w.heap.size, 3, none⟩ (.string tb) = wz
    obtain ⟨z1, z2, z3, z4⟩ := box_set4 _ _ _ _ _ _ _ _ _ _ _ HX.out wz hz.symm
    obtain ⟨hd0, hd1, hd2, hd3, _⟩ := tbox_cells z1
    refine bodyPost_ret (v := .tuple #[.agg #[.int .i64 1, .int .i64 (p : Int), .int .i64 ((p : Int) + (tb.size : Int)), .string tb], .int .i64 0]) (by simp [results, Tryz.results50, go_sem, hd0, hd1, hd2, hd3]) rfl ?_
    exact ⟨by rw [HR.out]; first | done | rfl, HB.out.trans (z4 _ (Nat.le_refl _))⟩
  | true =>
    rw [ho] at HO
    clear ho
    have HC0 := Hid.mk (hC.low (below1 w tbox0) hC.lt)
    have c0 := HC0.out.c0
    unfold tbox0 at c0
    go_enter Tryz.func50, Tryz.ntmps50
    go_wp2_with fail
    refine (HN.out _).mono ?_
    rintro e w1 ⟨rfl, hw1⟩
    obtain rfl := hw1.symm
    clear c0
    go_wp2_with fail
    refine (HO.out _).mono ?_
    rintro e w1 ⟨rfl, hw1⟩
    obtain rfl := hw1.symm
    obtain ⟨W, hW⟩ : ∃ W, w.alloc tbox0 = W := ⟨_, rfl⟩
    have hX := heap_alloc_new w tbox0
    rw [hW] at hX
    have HX := Hid.mk hX
    have hb := below1 w tbox0
    rw [hW] at hb
    have HB := Hid.mk hb
    obtain ⟨kc0, kc1, kc2, kc3, kf0, kf1, kf2, kf3⟩ := tbox_cells hX
    unfold tbox0 at hW
    rw [hW]
    clear hW hX hb
    go_wp2_with fail
    (try simp only [Exit.inBlock, Exit.then])
    generalize hz : ((((W).setCell ⟨w.heap.size, 0, none⟩ (.int .i64 2)).setCell ⟨w.heap.size, 1, none⟩ (.int .i64 (p : Int))).setCell ⟨w.heap.size, 2, none⟩ (.int .i64 ((p : Int) + (tb.size : Int)))).setCell ⟨w.heap.size, 3, none⟩ (.string tb) = wz
    obtain ⟨z1, z2, z3, z4⟩ := box_set4 _ _ _ _ _ _ _ _ _ _ _ HX.out wz hz.symm
    obtain ⟨hd0, hd1, hd2, hd3, _⟩ := tbox_cells z1
    refine bodyPost_ret (v := .tuple #[.agg #[.int .i64 2, .int .i64 (p : Int), .int .i64 ((p : Int) + (tb.size : Int)), .string tb], .int .i64 0]) (by simp [results, Tryz.results50, go_sem, hd0, hd1, hd2, hd3]) rfl ?_
    exact ⟨by rw [HR.out]; first | done | rfl, HB.out.trans (z4 _ (Nat.le_refl _))⟩

end Go.Proofs.YtohclfgghobldaaGreatDoor
