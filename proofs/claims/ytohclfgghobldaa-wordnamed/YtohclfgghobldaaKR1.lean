import Derived.Test.YtohclfgghobldaaKWp
import Derived.Test.YtohclfgghobldaaD2
namespace Go.Proofs.Ytohclfgghobldaa
open Go.RowKit
set_option linter.unusedVariables false
set_option linter.unusedSimpArgs false

set_option maxRecDepth 100000 in
set_option maxHeartbeats 6400000 in
theorem w_rReserved (n : ByteArray) (w : World) :
    Calls Try.prog 12 #[.string n] w fun e w' => e = .returned (.bool (ownB n.data.toList)) ∧ w' = w := by
  by_cases h0 : n.data.toList = [100, 101, 102]
  · have HT : ownB n.data.toList = true := by rw [h0]; decide
    rw [HT]
    have g0 : (n.toList == [100, 101, 102]) = true := by rw [Lib.toList_data, h0]; rfl
    clear HT h0
    go_enter Try.func12, Try.ntmps12
    go_wp2_with fail
    go_ret
    exact ⟨rfl, rfl⟩
  have g0 : (n.toList == [100, 101, 102]) = false := by rw [Lib.toList_data, beq_eq_false_iff_ne]; exact h0
  have b0 := beq_eq_false_iff_ne.2 h0
  clear h0
  by_cases h1 : n.data.toList = [105, 102]
  · have HT : ownB n.data.toList = true := by rw [h1]; decide
    rw [HT]
    have g1 : (n.toList == [105, 102]) = true := by rw [Lib.toList_data, h1]; rfl
    clear HT h1
    go_enter Try.func12, Try.ntmps12
    go_wp2_with fail
    go_ret
    exact ⟨rfl, rfl⟩
  have g1 : (n.toList == [105, 102]) = false := by rw [Lib.toList_data, beq_eq_false_iff_ne]; exact h1
  have b1 := beq_eq_false_iff_ne.2 h1
  clear h1
  by_cases h2 : n.data.toList = [116, 104, 101, 110]
  · have HT : ownB n.data.toList = true := by rw [h2]; decide
    rw [HT]
    have g2 : (n.toList == [116, 104, 101, 110]) = true := by rw [Lib.toList_data, h2]; rfl
    clear HT h2
    go_enter Try.func12, Try.ntmps12
    go_wp2_with fail
    go_ret
    exact ⟨rfl, rfl⟩
  have g2 : (n.toList == [116, 104, 101, 110]) = false := by rw [Lib.toList_data, beq_eq_false_iff_ne]; exact h2
  have b2 := beq_eq_false_iff_ne.2 h2
  clear h2
  by_cases h3 : n.data.toList = [101, 108, 105, 102]
  · have HT : ownB n.data.toList = true := by rw [h3]; decide
    rw [HT]
    have g3 : (n.toList == [101, 108, 105, 102]) = true := by rw [Lib.toList_data, h3]; rfl
    clear HT h3
    go_enter Try.func12, Try.ntmps12
    go_wp2_with fail
    go_ret
    exact ⟨rfl, rfl⟩
  have g3 : (n.toList == [101, 108, 105, 102]) = false := by rw [Lib.toList_data, beq_eq_false_iff_ne]; exact h3
  have b3 := beq_eq_false_iff_ne.2 h3
  clear h3
  by_cases h4 : n.data.toList = [101, 108, 115, 101]
  · have HT : ownB n.data.toList = true := by rw [h4]; decide
    rw [HT]
    have g4 : (n.toList == [101, 108, 115, 101]) = true := by rw [Lib.toList_data, h4]; rfl
    clear HT h4
    go_enter Try.func12, Try.ntmps12
    go_wp2_with fail
    go_ret
    exact ⟨rfl, rfl⟩
  have g4 : (n.toList == [101, 108, 115, 101]) = false := by rw [Lib.toList_data, beq_eq_false_iff_ne]; exact h4
  have b4 := beq_eq_false_iff_ne.2 h4
  clear h4
  by_cases h5 : n.data.toList = [101, 110, 100]
  · have HT : ownB n.data.toList = true := by rw [h5]; decide
    rw [HT]
    have g5 : (n.toList == [101, 110, 100]) = true := by rw [Lib.toList_data, h5]; rfl
    clear HT h5
    go_enter Try.func12, Try.ntmps12
    go_wp2_with fail
    go_ret
    exact ⟨rfl, rfl⟩
  have g5 : (n.toList == [101, 110, 100]) = false := by rw [Lib.toList_data, beq_eq_false_iff_ne]; exact h5
  have b5 := beq_eq_false_iff_ne.2 h5
  clear h5
  by_cases h6 : n.data.toList = [97, 115]
  · have HT : ownB n.data.toList = true := by rw [h6]; decide
    rw [HT]
    have g6 : (n.toList == [97, 115]) = true := by rw [Lib.toList_data, h6]; rfl
    clear HT h6
    go_enter Try.func12, Try.ntmps12
    go_wp2_with fail
    go_ret
    exact ⟨rfl, rfl⟩
  have g6 : (n.toList == [97, 115]) = false := by rw [Lib.toList_data, beq_eq_false_iff_ne]; exact h6
  have b6 := beq_eq_false_iff_ne.2 h6
  clear h6
  by_cases h7 : n.data.toList = [114, 101, 100, 117, 99, 101]
  · have HT : ownB n.data.toList = true := by rw [h7]; decide
    rw [HT]
    have g7 : (n.toList == [114, 101, 100, 117, 99, 101]) = true := by rw [Lib.toList_data, h7]; rfl
    clear HT h7
    go_enter Try.func12, Try.ntmps12
    go_wp2_with fail
    go_ret
    exact ⟨rfl, rfl⟩
  have g7 : (n.toList == [114, 101, 100, 117, 99, 101]) = false := by rw [Lib.toList_data, beq_eq_false_iff_ne]; exact h7
  have b7 := beq_eq_false_iff_ne.2 h7
  clear h7
  by_cases h8 : n.data.toList = [102, 111, 114, 101, 97, 99, 104]
  · have HT : ownB n.data.toList = true := by rw [h8]; decide
    rw [HT]
    have g8 : (n.toList == [102, 111, 114, 101, 97, 99, 104]) = true := by rw [Lib.toList_data, h8]; rfl
    clear HT h8
    go_enter Try.func12, Try.ntmps12
    go_wp2_with fail
    go_ret
    exact ⟨rfl, rfl⟩
  have g8 : (n.toList == [102, 111, 114, 101, 97, 99, 104]) = false := by rw [Lib.toList_data, beq_eq_false_iff_ne]; exact h8
  have b8 := beq_eq_false_iff_ne.2 h8
  clear h8
  by_cases h9 : n.data.toList = [116, 114, 121]
  · have HT : ownB n.data.toList = true := by rw [h9]; decide
    rw [HT]
    have g9 : (n.toList == [116, 114, 121]) = true := by rw [Lib.toList_data, h9]; rfl
    clear HT h9
    go_enter Try.func12, Try.ntmps12
    go_wp2_with fail
    go_ret
    exact ⟨rfl, rfl⟩
  have g9 : (n.toList == [116, 114, 121]) = false := by rw [Lib.toList_data, beq_eq_false_iff_ne]; exact h9
  have b9 := beq_eq_false_iff_ne.2 h9
  clear h9
  by_cases h10 : n.data.toList = [99, 97, 116, 99, 104]
  · have HT : ownB n.data.toList = true := by rw [h10]; decide
    rw [HT]
    have g10 : (n.toList == [99, 97, 116, 99, 104]) = true := by rw [Lib.toList_data, h10]; rfl
    clear HT h10
    go_enter Try.func12, Try.ntmps12
    go_wp2_with fail
    go_ret
    exact ⟨rfl, rfl⟩
  have g10 : (n.toList == [99, 97, 116, 99, 104]) = false := by rw [Lib.toList_data, beq_eq_false_iff_ne]; exact h10
  have b10 := beq_eq_false_iff_ne.2 h10
  clear h10
  by_cases h11 : n.data.toList = [97, 110, 100]
  · have HT : ownB n.data.toList = true := by rw [h11]; decide
    rw [HT]
    have g11 : (n.toList == [97, 110, 100]) = true := by rw [Lib.toList_data, h11]; rfl
    clear HT h11
    go_enter Try.func12, Try.ntmps12
    go_wp2_with fail
    go_ret
    exact ⟨rfl, rfl⟩
  have g11 : (n.toList == [97, 110, 100]) = false := by rw [Lib.toList_data, beq_eq_false_iff_ne]; exact h11
  have b11 := beq_eq_false_iff_ne.2 h11
  clear h11
  by_cases h12 : n.data.toList = [111, 114]
  · have HT : ownB n.data.toList = true := by rw [h12]; decide
    rw [HT]
    have g12 : (n.toList == [111, 114]) = true := by rw [Lib.toList_data, h12]; rfl
    clear HT h12
    go_enter Try.func12, Try.ntmps12
    go_wp2_with fail
    go_ret
    exact ⟨rfl, rfl⟩
  have g12 : (n.toList == [111, 114]) = false := by rw [Lib.toList_data, beq_eq_false_iff_ne]; exact h12
  have b12 := beq_eq_false_iff_ne.2 h12
  clear h12
  by_cases h13 : n.data.toList = [108, 97, 98, 101, 108]
  · have HT : ownB n.data.toList = true := by rw [h13]; decide
    rw [HT]
    have g13 : (n.toList == [108, 97, 98, 101, 108]) = true := by rw [Lib.toList_data, h13]; rfl
    clear HT h13
    go_enter Try.func12, Try.ntmps12
    go_wp2_with fail
    go_ret
    exact ⟨rfl, rfl⟩
  have g13 : (n.toList == [108, 97, 98, 101, 108]) = false := by rw [Lib.toList_data, beq_eq_false_iff_ne]; exact h13
  have b13 := beq_eq_false_iff_ne.2 h13
  clear h13
  by_cases h14 : n.data.toList = [98, 114, 101, 97, 107]
  · have HT : ownB n.data.toList = true := by rw [h14]; decide
    rw [HT]
    have g14 : (n.toList == [98, 114, 101, 97, 107]) = true := by rw [Lib.toList_data, h14]; rfl
    clear HT h14
    go_enter Try.func12, Try.ntmps12
    go_wp2_with fail
    go_ret
    exact ⟨rfl, rfl⟩
  have g14 : (n.toList == [98, 114, 101, 97, 107]) = false := by rw [Lib.toList_data, beq_eq_false_iff_ne]; exact h14
  have b14 := beq_eq_false_iff_ne.2 h14
  clear h14
  by_cases h15 : n.data.toList = [110, 117, 108, 108]
  · have HT : ownB n.data.toList = true := by rw [h15]; decide
    rw [HT]
    have g15 : (n.toList == [110, 117, 108, 108]) = true := by rw [Lib.toList_data, h15]; rfl
    clear HT h15
    go_enter Try.func12, Try.ntmps12
    go_wp2_with fail
    go_ret
    exact ⟨rfl, rfl⟩
  have g15 : (n.toList == [110, 117, 108, 108]) = false := by rw [Lib.toList_data, beq_eq_false_iff_ne]; exact h15
  have b15 := beq_eq_false_iff_ne.2 h15
  clear h15
  by_cases h16 : n.data.toList = [116, 114, 117, 101]
  · have HT : ownB n.data.toList = true := by rw [h16]; decide
    rw [HT]
    have g16 : (n.toList == [116, 114, 117, 101]) = true := by rw [Lib.toList_data, h16]; rfl
    clear HT h16
    go_enter Try.func12, Try.ntmps12
    go_wp2_with fail
    go_ret
    exact ⟨rfl, rfl⟩
  have g16 : (n.toList == [116, 114, 117, 101]) = false := by rw [Lib.toList_data, beq_eq_false_iff_ne]; exact h16
  have b16 := beq_eq_false_iff_ne.2 h16
  clear h16
  by_cases h17 : n.data.toList = [102, 97, 108, 115, 101]
  · have HT : ownB n.data.toList = true := by rw [h17]; decide
    rw [HT]
    have g17 : (n.toList == [102, 97, 108, 115, 101]) = true := by rw [Lib.toList_data, h17]; rfl
    clear HT h17
    go_enter Try.func12, Try.ntmps12
    go_wp2_with fail
    go_ret
    exact ⟨rfl, rfl⟩
  have g17 : (n.toList == [102, 97, 108, 115, 101]) = false := by rw [Lib.toList_data, beq_eq_false_iff_ne]; exact h17
  have b17 := beq_eq_false_iff_ne.2 h17
  clear h17
  have HT : ownB n.data.toList = false := by
    unfold ownB
    simp only [ownL, List.cons_append, List.nil_append, List.contains_cons, List.contains_nil, b0, b1, b2, b3, b4, b5, b6, b7, b8, b9, b10, b11, b12, b13, b14, b15, b16, b17, Bool.or_false]
  rw [HT]
  clear HT b0 b1 b2 b3 b4 b5 b6 b7 b8 b9 b10 b11 b12 b13 b14 b15 b16 b17
  go_enter Try.func12, Try.ntmps12
  go_wp2_with fail
  go_ret
  exact ⟨rfl, rfl⟩

end Go.Proofs.Ytohclfgghobldaa
