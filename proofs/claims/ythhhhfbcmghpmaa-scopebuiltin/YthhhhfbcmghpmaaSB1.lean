import Derived.Test.YthhhhfbcmghpmaaProg
import Derived.Test.YthhhhfbcmghpmaaPlain
import Derived.WalkKit
import Derived.ProofKit
import Derived.Deep.RegionHeld3
namespace Go.Proofs.Ythhhhfbcmghpmaa
open Go.RowKit
set_option linter.unusedVariables false
set_option linter.unusedSimpArgs false

def biL0 : List (List UInt8) := [[101, 109, 112, 116, 121], [101, 114, 114, 111, 114], [108, 101, 110, 103, 116, 104], [117, 116, 102, 56, 98, 121, 116, 101, 108, 101, 110, 103, 116, 104], [110, 111, 116], [107, 101, 121, 115], [116, 121, 112, 101], [116, 111, 115, 116, 114, 105, 110, 103], [116, 111, 110, 117, 109, 98, 101, 114], [116, 111, 106, 115, 111, 110], [102, 114, 111, 109, 106, 115, 111, 110], [97, 115, 99, 105, 105, 95, 100, 111, 119, 110, 99, 97, 115, 101], [97, 115, 99, 105, 105, 95, 117, 112, 99, 97, 115, 101], [101, 120, 112, 108, 111, 100, 101], [105, 109, 112, 108, 111, 100, 101], [114, 101, 118, 101, 114, 115, 101], [115, 111, 114, 116], [109, 105, 110], [109, 97, 120], [117, 110, 105, 113, 117, 101], [97, 100, 100], [102, 108, 97, 116, 116, 101, 110], [116, 114, 97, 110, 115, 112, 111, 115, 101], [97, 98, 115], [116, 111, 97, 114, 114, 97, 121]]
def biL1 : List (List UInt8) := [[101, 114, 114, 111, 114], [112, 97, 116, 104], [104, 97, 115], [99, 111, 110, 116, 97, 105, 110, 115], [115, 116, 97, 114, 116, 115, 119, 105, 116, 104], [101, 110, 100, 115, 119, 105, 116, 104], [108, 116, 114, 105, 109, 115, 116, 114], [114, 116, 114, 105, 109, 115, 116, 114], [115, 112, 108, 105, 116], [106, 111, 105, 110], [105, 110, 100, 105, 99, 101, 115], [95, 115, 111, 114, 116, 95, 98, 121], [95, 103, 114, 111, 117, 112, 95, 98, 121], [95, 117, 110, 105, 113, 117, 101, 95, 98, 121], [95, 109, 105, 110, 95, 98, 121], [95, 109, 97, 120, 95, 98, 121], [103, 101, 116, 112, 97, 116, 104], [100, 101, 108, 112, 97, 116, 104, 115]]
def biL2 : List (List UInt8) := [[114, 97, 110, 103, 101], [115, 101, 116, 112, 97, 116, 104]]
def biB (s : List UInt8) (a : Int) : Bool := if a = 0 then biL0.contains s else if a = 1 then biL1.contains s else if a = 2 then biL2.contains s else false

set_option maxRecDepth 100000 in
set_option maxHeartbeats 6400000 in
theorem w_bi0 (n : ByteArray) (w : World) :
    Calls Try.prog 6 #[.string n] w fun e w' => e = .returned (.bool (biL0.contains n.data.toList)) ∧ w' = w := by
  by_cases h0 : n.data.toList = [101, 109, 112, 116, 121]
  · have HT : biL0.contains n.data.toList = true := by rw [h0]; decide
    rw [HT]
    have g0 : (n.toList == [101, 109, 112, 116, 121]) = true := by rw [Lib.toList_data, h0]; rfl
    clear HT h0
    go_enter Try.func6, Try.ntmps6
    go_wp2_with fail
    go_ret
    exact ⟨rfl, rfl⟩
  have g0 : (n.toList == [101, 109, 112, 116, 121]) = false := by rw [Lib.toList_data, beq_eq_false_iff_ne]; exact h0
  have b0 := beq_eq_false_iff_ne.2 h0
  clear h0
  by_cases h1 : n.data.toList = [101, 114, 114, 111, 114]
  · have HT : biL0.contains n.data.toList = true := by rw [h1]; decide
    rw [HT]
    have g1 : (n.toList == [101, 114, 114, 111, 114]) = true := by rw [Lib.toList_data, h1]; rfl
    clear HT h1
    go_enter Try.func6, Try.ntmps6
    go_wp2_with fail
    go_ret
    exact ⟨rfl, rfl⟩
  have g1 : (n.toList == [101, 114, 114, 111, 114]) = false := by rw [Lib.toList_data, beq_eq_false_iff_ne]; exact h1
  have b1 := beq_eq_false_iff_ne.2 h1
  clear h1
  by_cases h2 : n.data.toList = [108, 101, 110, 103, 116, 104]
  · have HT : biL0.contains n.data.toList = true := by rw [h2]; decide
    rw [HT]
    have g2 : (n.toList == [108, 101, 110, 103, 116, 104]) = true := by rw [Lib.toList_data, h2]; rfl
    clear HT h2
    go_enter Try.func6, Try.ntmps6
    go_wp2_with fail
    go_ret
    exact ⟨rfl, rfl⟩
  have g2 : (n.toList == [108, 101, 110, 103, 116, 104]) = false := by rw [Lib.toList_data, beq_eq_false_iff_ne]; exact h2
  have b2 := beq_eq_false_iff_ne.2 h2
  clear h2
  by_cases h3 : n.data.toList = [117, 116, 102, 56, 98, 121, 116, 101, 108, 101, 110, 103, 116, 104]
  · have HT : biL0.contains n.data.toList = true := by rw [h3]; decide
    rw [HT]
    have g3 : (n.toList == [117, 116, 102, 56, 98, 121, 116, 101, 108, 101, 110, 103, 116, 104]) = true := by rw [Lib.toList_data, h3]; rfl
    clear HT h3
    go_enter Try.func6, Try.ntmps6
    go_wp2_with fail
    go_ret
    exact ⟨rfl, rfl⟩
  have g3 : (n.toList == [117, 116, 102, 56, 98, 121, 116, 101, 108, 101, 110, 103, 116, 104]) = false := by rw [Lib.toList_data, beq_eq_false_iff_ne]; exact h3
  have b3 := beq_eq_false_iff_ne.2 h3
  clear h3
  by_cases h4 : n.data.toList = [110, 111, 116]
  · have HT : biL0.contains n.data.toList = true := by rw [h4]; decide
    rw [HT]
    have g4 : (n.toList == [110, 111, 116]) = true := by rw [Lib.toList_data, h4]; rfl
    clear HT h4
    go_enter Try.func6, Try.ntmps6
    go_wp2_with fail
    go_ret
    exact ⟨rfl, rfl⟩
  have g4 : (n.toList == [110, 111, 116]) = false := by rw [Lib.toList_data, beq_eq_false_iff_ne]; exact h4
  have b4 := beq_eq_false_iff_ne.2 h4
  clear h4
  by_cases h5 : n.data.toList = [107, 101, 121, 115]
  · have HT : biL0.contains n.data.toList = true := by rw [h5]; decide
    rw [HT]
    have g5 : (n.toList == [107, 101, 121, 115]) = true := by rw [Lib.toList_data, h5]; rfl
    clear HT h5
    go_enter Try.func6, Try.ntmps6
    go_wp2_with fail
    go_ret
    exact ⟨rfl, rfl⟩
  have g5 : (n.toList == [107, 101, 121, 115]) = false := by rw [Lib.toList_data, beq_eq_false_iff_ne]; exact h5
  have b5 := beq_eq_false_iff_ne.2 h5
  clear h5
  by_cases h6 : n.data.toList = [116, 121, 112, 101]
  · have HT : biL0.contains n.data.toList = true := by rw [h6]; decide
    rw [HT]
    have g6 : (n.toList == [116, 121, 112, 101]) = true := by rw [Lib.toList_data, h6]; rfl
    clear HT h6
    go_enter Try.func6, Try.ntmps6
    go_wp2_with fail
    go_ret
    exact ⟨rfl, rfl⟩
  have g6 : (n.toList == [116, 121, 112, 101]) = false := by rw [Lib.toList_data, beq_eq_false_iff_ne]; exact h6
  have b6 := beq_eq_false_iff_ne.2 h6
  clear h6
  by_cases h7 : n.data.toList = [116, 111, 115, 116, 114, 105, 110, 103]
  · have HT : biL0.contains n.data.toList = true := by rw [h7]; decide
    rw [HT]
    have g7 : (n.toList == [116, 111, 115, 116, 114, 105, 110, 103]) = true := by rw [Lib.toList_data, h7]; rfl
    clear HT h7
    go_enter Try.func6, Try.ntmps6
    go_wp2_with fail
    go_ret
    exact ⟨rfl, rfl⟩
  have g7 : (n.toList == [116, 111, 115, 116, 114, 105, 110, 103]) = false := by rw [Lib.toList_data, beq_eq_false_iff_ne]; exact h7
  have b7 := beq_eq_false_iff_ne.2 h7
  clear h7
  by_cases h8 : n.data.toList = [116, 111, 110, 117, 109, 98, 101, 114]
  · have HT : biL0.contains n.data.toList = true := by rw [h8]; decide
    rw [HT]
    have g8 : (n.toList == [116, 111, 110, 117, 109, 98, 101, 114]) = true := by rw [Lib.toList_data, h8]; rfl
    clear HT h8
    go_enter Try.func6, Try.ntmps6
    go_wp2_with fail
    go_ret
    exact ⟨rfl, rfl⟩
  have g8 : (n.toList == [116, 111, 110, 117, 109, 98, 101, 114]) = false := by rw [Lib.toList_data, beq_eq_false_iff_ne]; exact h8
  have b8 := beq_eq_false_iff_ne.2 h8
  clear h8
  by_cases h9 : n.data.toList = [116, 111, 106, 115, 111, 110]
  · have HT : biL0.contains n.data.toList = true := by rw [h9]; decide
    rw [HT]
    have g9 : (n.toList == [116, 111, 106, 115, 111, 110]) = true := by rw [Lib.toList_data, h9]; rfl
    clear HT h9
    go_enter Try.func6, Try.ntmps6
    go_wp2_with fail
    go_ret
    exact ⟨rfl, rfl⟩
  have g9 : (n.toList == [116, 111, 106, 115, 111, 110]) = false := by rw [Lib.toList_data, beq_eq_false_iff_ne]; exact h9
  have b9 := beq_eq_false_iff_ne.2 h9
  clear h9
  by_cases h10 : n.data.toList = [102, 114, 111, 109, 106, 115, 111, 110]
  · have HT : biL0.contains n.data.toList = true := by rw [h10]; decide
    rw [HT]
    have g10 : (n.toList == [102, 114, 111, 109, 106, 115, 111, 110]) = true := by rw [Lib.toList_data, h10]; rfl
    clear HT h10
    go_enter Try.func6, Try.ntmps6
    go_wp2_with fail
    go_ret
    exact ⟨rfl, rfl⟩
  have g10 : (n.toList == [102, 114, 111, 109, 106, 115, 111, 110]) = false := by rw [Lib.toList_data, beq_eq_false_iff_ne]; exact h10
  have b10 := beq_eq_false_iff_ne.2 h10
  clear h10
  by_cases h11 : n.data.toList = [97, 115, 99, 105, 105, 95, 100, 111, 119, 110, 99, 97, 115, 101]
  · have HT : biL0.contains n.data.toList = true := by rw [h11]; decide
    rw [HT]
    have g11 : (n.toList == [97, 115, 99, 105, 105, 95, 100, 111, 119, 110, 99, 97, 115, 101]) = true := by rw [Lib.toList_data, h11]; rfl
    clear HT h11
    go_enter Try.func6, Try.ntmps6
    go_wp2_with fail
    go_ret
    exact ⟨rfl, rfl⟩
  have g11 : (n.toList == [97, 115, 99, 105, 105, 95, 100, 111, 119, 110, 99, 97, 115, 101]) = false := by rw [Lib.toList_data, beq_eq_false_iff_ne]; exact h11
  have b11 := beq_eq_false_iff_ne.2 h11
  clear h11
  by_cases h12 : n.data.toList = [97, 115, 99, 105, 105, 95, 117, 112, 99, 97, 115, 101]
  · have HT : biL0.contains n.data.toList = true := by rw [h12]; decide
    rw [HT]
    have g12 : (n.toList == [97, 115, 99, 105, 105, 95, 117, 112, 99, 97, 115, 101]) = true := by rw [Lib.toList_data, h12]; rfl
    clear HT h12
    go_enter Try.func6, Try.ntmps6
    go_wp2_with fail
    go_ret
    exact ⟨rfl, rfl⟩
  have g12 : (n.toList == [97, 115, 99, 105, 105, 95, 117, 112, 99, 97, 115, 101]) = false := by rw [Lib.toList_data, beq_eq_false_iff_ne]; exact h12
  have b12 := beq_eq_false_iff_ne.2 h12
  clear h12
  by_cases h13 : n.data.toList = [101, 120, 112, 108, 111, 100, 101]
  · have HT : biL0.contains n.data.toList = true := by rw [h13]; decide
    rw [HT]
    have g13 : (n.toList == [101, 120, 112, 108, 111, 100, 101]) = true := by rw [Lib.toList_data, h13]; rfl
    clear HT h13
    go_enter Try.func6, Try.ntmps6
    go_wp2_with fail
    go_ret
    exact ⟨rfl, rfl⟩
  have g13 : (n.toList == [101, 120, 112, 108, 111, 100, 101]) = false := by rw [Lib.toList_data, beq_eq_false_iff_ne]; exact h13
  have b13 := beq_eq_false_iff_ne.2 h13
  clear h13
  by_cases h14 : n.data.toList = [105, 109, 112, 108, 111, 100, 101]
  · have HT : biL0.contains n.data.toList = true := by rw [h14]; decide
    rw [HT]
    have g14 : (n.toList == [105, 109, 112, 108, 111, 100, 101]) = true := by rw [Lib.toList_data, h14]; rfl
    clear HT h14
    go_enter Try.func6, Try.ntmps6
    go_wp2_with fail
    go_ret
    exact ⟨rfl, rfl⟩
  have g14 : (n.toList == [105, 109, 112, 108, 111, 100, 101]) = false := by rw [Lib.toList_data, beq_eq_false_iff_ne]; exact h14
  have b14 := beq_eq_false_iff_ne.2 h14
  clear h14
  by_cases h15 : n.data.toList = [114, 101, 118, 101, 114, 115, 101]
  · have HT : biL0.contains n.data.toList = true := by rw [h15]; decide
    rw [HT]
    have g15 : (n.toList == [114, 101, 118, 101, 114, 115, 101]) = true := by rw [Lib.toList_data, h15]; rfl
    clear HT h15
    go_enter Try.func6, Try.ntmps6
    go_wp2_with fail
    go_ret
    exact ⟨rfl, rfl⟩
  have g15 : (n.toList == [114, 101, 118, 101, 114, 115, 101]) = false := by rw [Lib.toList_data, beq_eq_false_iff_ne]; exact h15
  have b15 := beq_eq_false_iff_ne.2 h15
  clear h15
  by_cases h16 : n.data.toList = [115, 111, 114, 116]
  · have HT : biL0.contains n.data.toList = true := by rw [h16]; decide
    rw [HT]
    have g16 : (n.toList == [115, 111, 114, 116]) = true := by rw [Lib.toList_data, h16]; rfl
    clear HT h16
    go_enter Try.func6, Try.ntmps6
    go_wp2_with fail
    go_ret
    exact ⟨rfl, rfl⟩
  have g16 : (n.toList == [115, 111, 114, 116]) = false := by rw [Lib.toList_data, beq_eq_false_iff_ne]; exact h16
  have b16 := beq_eq_false_iff_ne.2 h16
  clear h16
  by_cases h17 : n.data.toList = [109, 105, 110]
  · have HT : biL0.contains n.data.toList = true := by rw [h17]; decide
    rw [HT]
    have g17 : (n.toList == [109, 105, 110]) = true := by rw [Lib.toList_data, h17]; rfl
    clear HT h17
    go_enter Try.func6, Try.ntmps6
    go_wp2_with fail
    go_ret
    exact ⟨rfl, rfl⟩
  have g17 : (n.toList == [109, 105, 110]) = false := by rw [Lib.toList_data, beq_eq_false_iff_ne]; exact h17
  have b17 := beq_eq_false_iff_ne.2 h17
  clear h17
  by_cases h18 : n.data.toList = [109, 97, 120]
  · have HT : biL0.contains n.data.toList = true := by rw [h18]; decide
    rw [HT]
    have g18 : (n.toList == [109, 97, 120]) = true := by rw [Lib.toList_data, h18]; rfl
    clear HT h18
    go_enter Try.func6, Try.ntmps6
    go_wp2_with fail
    go_ret
    exact ⟨rfl, rfl⟩
  have g18 : (n.toList == [109, 97, 120]) = false := by rw [Lib.toList_data, beq_eq_false_iff_ne]; exact h18
  have b18 := beq_eq_false_iff_ne.2 h18
  clear h18
  by_cases h19 : n.data.toList = [117, 110, 105, 113, 117, 101]
  · have HT : biL0.contains n.data.toList = true := by rw [h19]; decide
    rw [HT]
    have g19 : (n.toList == [117, 110, 105, 113, 117, 101]) = true := by rw [Lib.toList_data, h19]; rfl
    clear HT h19
    go_enter Try.func6, Try.ntmps6
    go_wp2_with fail
    go_ret
    exact ⟨rfl, rfl⟩
  have g19 : (n.toList == [117, 110, 105, 113, 117, 101]) = false := by rw [Lib.toList_data, beq_eq_false_iff_ne]; exact h19
  have b19 := beq_eq_false_iff_ne.2 h19
  clear h19
  by_cases h20 : n.data.toList = [97, 100, 100]
  · have HT : biL0.contains n.data.toList = true := by rw [h20]; decide
    rw [HT]
    have g20 : (n.toList == [97, 100, 100]) = true := by rw [Lib.toList_data, h20]; rfl
    clear HT h20
    go_enter Try.func6, Try.ntmps6
    go_wp2_with fail
    go_ret
    exact ⟨rfl, rfl⟩
  have g20 : (n.toList == [97, 100, 100]) = false := by rw [Lib.toList_data, beq_eq_false_iff_ne]; exact h20
  have b20 := beq_eq_false_iff_ne.2 h20
  clear h20
  by_cases h21 : n.data.toList = [102, 108, 97, 116, 116, 101, 110]
  · have HT : biL0.contains n.data.toList = true := by rw [h21]; decide
    rw [HT]
    have g21 : (n.toList == [102, 108, 97, 116, 116, 101, 110]) = true := by rw [Lib.toList_data, h21]; rfl
    clear HT h21
    go_enter Try.func6, Try.ntmps6
    go_wp2_with fail
    go_ret
    exact ⟨rfl, rfl⟩
  have g21 : (n.toList == [102, 108, 97, 116, 116, 101, 110]) = false := by rw [Lib.toList_data, beq_eq_false_iff_ne]; exact h21
  have b21 := beq_eq_false_iff_ne.2 h21
  clear h21
  by_cases h22 : n.data.toList = [116, 114, 97, 110, 115, 112, 111, 115, 101]
  · have HT : biL0.contains n.data.toList = true := by rw [h22]; decide
    rw [HT]
    have g22 : (n.toList == [116, 114, 97, 110, 115, 112, 111, 115, 101]) = true := by rw [Lib.toList_data, h22]; rfl
    clear HT h22
    go_enter Try.func6, Try.ntmps6
    go_wp2_with fail
    go_ret
    exact ⟨rfl, rfl⟩
  have g22 : (n.toList == [116, 114, 97, 110, 115, 112, 111, 115, 101]) = false := by rw [Lib.toList_data, beq_eq_false_iff_ne]; exact h22
  have b22 := beq_eq_false_iff_ne.2 h22
  clear h22
  by_cases h23 : n.data.toList = [97, 98, 115]
  · have HT : biL0.contains n.data.toList = true := by rw [h23]; decide
    rw [HT]
    have g23 : (n.toList == [97, 98, 115]) = true := by rw [Lib.toList_data, h23]; rfl
    clear HT h23
    go_enter Try.func6, Try.ntmps6
    go_wp2_with fail
    go_ret
    exact ⟨rfl, rfl⟩
  have g23 : (n.toList == [97, 98, 115]) = false := by rw [Lib.toList_data, beq_eq_false_iff_ne]; exact h23
  have b23 := beq_eq_false_iff_ne.2 h23
  clear h23
  by_cases h24 : n.data.toList = [116, 111, 97, 114, 114, 97, 121]
  · have HT : biL0.contains n.data.toList = true := by rw [h24]; decide
    rw [HT]
    have g24 : (n.toList == [116, 111, 97, 114, 114, 97, 121]) = true := by rw [Lib.toList_data, h24]; rfl
    clear HT h24
    go_enter Try.func6, Try.ntmps6
    go_wp2_with fail
    go_ret
    exact ⟨rfl, rfl⟩
  have g24 : (n.toList == [116, 111, 97, 114, 114, 97, 121]) = false := by rw [Lib.toList_data, beq_eq_false_iff_ne]; exact h24
  have b24 := beq_eq_false_iff_ne.2 h24
  clear h24
  have HT : biL0.contains n.data.toList = false := by
    unfold biL0
    simp only [List.contains_cons, b0, b1, b2, b3, b4, b5, b6, b7, b8, b9, b10, b11, b12, b13, b14, b15, b16, b17, b18, b19, b20, b21, b22, b23, b24, Bool.or_false, Bool.false_or]
    rfl
  rw [HT]
  clear HT b0 b1 b2 b3 b4 b5 b6 b7 b8 b9 b10 b11 b12 b13 b14 b15 b16 b17 b18 b19 b20 b21 b22 b23 b24
  go_enter Try.func6, Try.ntmps6
  go_wp2_with fail
  go_ret
  exact ⟨rfl, rfl⟩

set_option maxRecDepth 100000 in
set_option maxHeartbeats 6400000 in
theorem w_bi1 (n : ByteArray) (w : World) :
    Calls Try.prog 7 #[.string n] w fun e w' => e = .returned (.bool (biL1.contains n.data.toList)) ∧ w' = w := by
  by_cases h0 : n.data.toList = [101, 114, 114, 111, 114]
  · have HT : biL1.contains n.data.toList = true := by rw [h0]; decide
    rw [HT]
    have g0 : (n.toList == [101, 114, 114, 111, 114]) = true := by rw [Lib.toList_data, h0]; rfl
    clear HT h0
    go_enter Try.func7, Try.ntmps7
    go_wp2_with fail
    go_ret
    exact ⟨rfl, rfl⟩
  have g0 : (n.toList == [101, 114, 114, 111, 114]) = false := by rw [Lib.toList_data, beq_eq_false_iff_ne]; exact h0
  have b0 := beq_eq_false_iff_ne.2 h0
  clear h0
  by_cases h1 : n.data.toList = [112, 97, 116, 104]
  · have HT : biL1.contains n.data.toList = true := by rw [h1]; decide
    rw [HT]
    have g1 : (n.toList == [112, 97, 116, 104]) = true := by rw [Lib.toList_data, h1]; rfl
    clear HT h1
    go_enter Try.func7, Try.ntmps7
    go_wp2_with fail
    go_ret
    exact ⟨rfl, rfl⟩
  have g1 : (n.toList == [112, 97, 116, 104]) = false := by rw [Lib.toList_data, beq_eq_false_iff_ne]; exact h1
  have b1 := beq_eq_false_iff_ne.2 h1
  clear h1
  by_cases h2 : n.data.toList = [104, 97, 115]
  · have HT : biL1.contains n.data.toList = true := by rw [h2]; decide
    rw [HT]
    have g2 : (n.toList == [104, 97, 115]) = true := by rw [Lib.toList_data, h2]; rfl
    clear HT h2
    go_enter Try.func7, Try.ntmps7
    go_wp2_with fail
    go_ret
    exact ⟨rfl, rfl⟩
  have g2 : (n.toList == [104, 97, 115]) = false := by rw [Lib.toList_data, beq_eq_false_iff_ne]; exact h2
  have b2 := beq_eq_false_iff_ne.2 h2
  clear h2
  by_cases h3 : n.data.toList = [99, 111, 110, 116, 97, 105, 110, 115]
  · have HT : biL1.contains n.data.toList = true := by rw [h3]; decide
    rw [HT]
    have g3 : (n.toList == [99, 111, 110, 116, 97, 105, 110, 115]) = true := by rw [Lib.toList_data, h3]; rfl
    clear HT h3
    go_enter Try.func7, Try.ntmps7
    go_wp2_with fail
    go_ret
    exact ⟨rfl, rfl⟩
  have g3 : (n.toList == [99, 111, 110, 116, 97, 105, 110, 115]) = false := by rw [Lib.toList_data, beq_eq_false_iff_ne]; exact h3
  have b3 := beq_eq_false_iff_ne.2 h3
  clear h3
  by_cases h4 : n.data.toList = [115, 116, 97, 114, 116, 115, 119, 105, 116, 104]
  · have HT : biL1.contains n.data.toList = true := by rw [h4]; decide
    rw [HT]
    have g4 : (n.toList == [115, 116, 97, 114, 116, 115, 119, 105, 116, 104]) = true := by rw [Lib.toList_data, h4]; rfl
    clear HT h4
    go_enter Try.func7, Try.ntmps7
    go_wp2_with fail
    go_ret
    exact ⟨rfl, rfl⟩
  have g4 : (n.toList == [115, 116, 97, 114, 116, 115, 119, 105, 116, 104]) = false := by rw [Lib.toList_data, beq_eq_false_iff_ne]; exact h4
  have b4 := beq_eq_false_iff_ne.2 h4
  clear h4
  by_cases h5 : n.data.toList = [101, 110, 100, 115, 119, 105, 116, 104]
  · have HT : biL1.contains n.data.toList = true := by rw [h5]; decide
    rw [HT]
    have g5 : (n.toList == [101, 110, 100, 115, 119, 105, 116, 104]) = true := by rw [Lib.toList_data, h5]; rfl
    clear HT h5
    go_enter Try.func7, Try.ntmps7
    go_wp2_with fail
    go_ret
    exact ⟨rfl, rfl⟩
  have g5 : (n.toList == [101, 110, 100, 115, 119, 105, 116, 104]) = false := by rw [Lib.toList_data, beq_eq_false_iff_ne]; exact h5
  have b5 := beq_eq_false_iff_ne.2 h5
  clear h5
  by_cases h6 : n.data.toList = [108, 116, 114, 105, 109, 115, 116, 114]
  · have HT : biL1.contains n.data.toList = true := by rw [h6]; decide
    rw [HT]
    have g6 : (n.toList == [108, 116, 114, 105, 109, 115, 116, 114]) = true := by rw [Lib.toList_data, h6]; rfl
    clear HT h6
    go_enter Try.func7, Try.ntmps7
    go_wp2_with fail
    go_ret
    exact ⟨rfl, rfl⟩
  have g6 : (n.toList == [108, 116, 114, 105, 109, 115, 116, 114]) = false := by rw [Lib.toList_data, beq_eq_false_iff_ne]; exact h6
  have b6 := beq_eq_false_iff_ne.2 h6
  clear h6
  by_cases h7 : n.data.toList = [114, 116, 114, 105, 109, 115, 116, 114]
  · have HT : biL1.contains n.data.toList = true := by rw [h7]; decide
    rw [HT]
    have g7 : (n.toList == [114, 116, 114, 105, 109, 115, 116, 114]) = true := by rw [Lib.toList_data, h7]; rfl
    clear HT h7
    go_enter Try.func7, Try.ntmps7
    go_wp2_with fail
    go_ret
    exact ⟨rfl, rfl⟩
  have g7 : (n.toList == [114, 116, 114, 105, 109, 115, 116, 114]) = false := by rw [Lib.toList_data, beq_eq_false_iff_ne]; exact h7
  have b7 := beq_eq_false_iff_ne.2 h7
  clear h7
  by_cases h8 : n.data.toList = [115, 112, 108, 105, 116]
  · have HT : biL1.contains n.data.toList = true := by rw [h8]; decide
    rw [HT]
    have g8 : (n.toList == [115, 112, 108, 105, 116]) = true := by rw [Lib.toList_data, h8]; rfl
    clear HT h8
    go_enter Try.func7, Try.ntmps7
    go_wp2_with fail
    go_ret
    exact ⟨rfl, rfl⟩
  have g8 : (n.toList == [115, 112, 108, 105, 116]) = false := by rw [Lib.toList_data, beq_eq_false_iff_ne]; exact h8
  have b8 := beq_eq_false_iff_ne.2 h8
  clear h8
  by_cases h9 : n.data.toList = [106, 111, 105, 110]
  · have HT : biL1.contains n.data.toList = true := by rw [h9]; decide
    rw [HT]
    have g9 : (n.toList == [106, 111, 105, 110]) = true := by rw [Lib.toList_data, h9]; rfl
    clear HT h9
    go_enter Try.func7, Try.ntmps7
    go_wp2_with fail
    go_ret
    exact ⟨rfl, rfl⟩
  have g9 : (n.toList == [106, 111, 105, 110]) = false := by rw [Lib.toList_data, beq_eq_false_iff_ne]; exact h9
  have b9 := beq_eq_false_iff_ne.2 h9
  clear h9
  by_cases h10 : n.data.toList = [105, 110, 100, 105, 99, 101, 115]
  · have HT : biL1.contains n.data.toList = true := by rw [h10]; decide
    rw [HT]
    have g10 : (n.toList == [105, 110, 100, 105, 99, 101, 115]) = true := by rw [Lib.toList_data, h10]; rfl
    clear HT h10
    go_enter Try.func7, Try.ntmps7
    go_wp2_with fail
    go_ret
    exact ⟨rfl, rfl⟩
  have g10 : (n.toList == [105, 110, 100, 105, 99, 101, 115]) = false := by rw [Lib.toList_data, beq_eq_false_iff_ne]; exact h10
  have b10 := beq_eq_false_iff_ne.2 h10
  clear h10
  by_cases h11 : n.data.toList = [95, 115, 111, 114, 116, 95, 98, 121]
  · have HT : biL1.contains n.data.toList = true := by rw [h11]; decide
    rw [HT]
    have g11 : (n.toList == [95, 115, 111, 114, 116, 95, 98, 121]) = true := by rw [Lib.toList_data, h11]; rfl
    clear HT h11
    go_enter Try.func7, Try.ntmps7
    go_wp2_with fail
    go_ret
    exact ⟨rfl, rfl⟩
  have g11 : (n.toList == [95, 115, 111, 114, 116, 95, 98, 121]) = false := by rw [Lib.toList_data, beq_eq_false_iff_ne]; exact h11
  have b11 := beq_eq_false_iff_ne.2 h11
  clear h11
  by_cases h12 : n.data.toList = [95, 103, 114, 111, 117, 112, 95, 98, 121]
  · have HT : biL1.contains n.data.toList = true := by rw [h12]; decide
    rw [HT]
    have g12 : (n.toList == [95, 103, 114, 111, 117, 112, 95, 98, 121]) = true := by rw [Lib.toList_data, h12]; rfl
    clear HT h12
    go_enter Try.func7, Try.ntmps7
    go_wp2_with fail
    go_ret
    exact ⟨rfl, rfl⟩
  have g12 : (n.toList == [95, 103, 114, 111, 117, 112, 95, 98, 121]) = false := by rw [Lib.toList_data, beq_eq_false_iff_ne]; exact h12
  have b12 := beq_eq_false_iff_ne.2 h12
  clear h12
  by_cases h13 : n.data.toList = [95, 117, 110, 105, 113, 117, 101, 95, 98, 121]
  · have HT : biL1.contains n.data.toList = true := by rw [h13]; decide
    rw [HT]
    have g13 : (n.toList == [95, 117, 110, 105, 113, 117, 101, 95, 98, 121]) = true := by rw [Lib.toList_data, h13]; rfl
    clear HT h13
    go_enter Try.func7, Try.ntmps7
    go_wp2_with fail
    go_ret
    exact ⟨rfl, rfl⟩
  have g13 : (n.toList == [95, 117, 110, 105, 113, 117, 101, 95, 98, 121]) = false := by rw [Lib.toList_data, beq_eq_false_iff_ne]; exact h13
  have b13 := beq_eq_false_iff_ne.2 h13
  clear h13
  by_cases h14 : n.data.toList = [95, 109, 105, 110, 95, 98, 121]
  · have HT : biL1.contains n.data.toList = true := by rw [h14]; decide
    rw [HT]
    have g14 : (n.toList == [95, 109, 105, 110, 95, 98, 121]) = true := by rw [Lib.toList_data, h14]; rfl
    clear HT h14
    go_enter Try.func7, Try.ntmps7
    go_wp2_with fail
    go_ret
    exact ⟨rfl, rfl⟩
  have g14 : (n.toList == [95, 109, 105, 110, 95, 98, 121]) = false := by rw [Lib.toList_data, beq_eq_false_iff_ne]; exact h14
  have b14 := beq_eq_false_iff_ne.2 h14
  clear h14
  by_cases h15 : n.data.toList = [95, 109, 97, 120, 95, 98, 121]
  · have HT : biL1.contains n.data.toList = true := by rw [h15]; decide
    rw [HT]
    have g15 : (n.toList == [95, 109, 97, 120, 95, 98, 121]) = true := by rw [Lib.toList_data, h15]; rfl
    clear HT h15
    go_enter Try.func7, Try.ntmps7
    go_wp2_with fail
    go_ret
    exact ⟨rfl, rfl⟩
  have g15 : (n.toList == [95, 109, 97, 120, 95, 98, 121]) = false := by rw [Lib.toList_data, beq_eq_false_iff_ne]; exact h15
  have b15 := beq_eq_false_iff_ne.2 h15
  clear h15
  by_cases h16 : n.data.toList = [103, 101, 116, 112, 97, 116, 104]
  · have HT : biL1.contains n.data.toList = true := by rw [h16]; decide
    rw [HT]
    have g16 : (n.toList == [103, 101, 116, 112, 97, 116, 104]) = true := by rw [Lib.toList_data, h16]; rfl
    clear HT h16
    go_enter Try.func7, Try.ntmps7
    go_wp2_with fail
    go_ret
    exact ⟨rfl, rfl⟩
  have g16 : (n.toList == [103, 101, 116, 112, 97, 116, 104]) = false := by rw [Lib.toList_data, beq_eq_false_iff_ne]; exact h16
  have b16 := beq_eq_false_iff_ne.2 h16
  clear h16
  by_cases h17 : n.data.toList = [100, 101, 108, 112, 97, 116, 104, 115]
  · have HT : biL1.contains n.data.toList = true := by rw [h17]; decide
    rw [HT]
    have g17 : (n.toList == [100, 101, 108, 112, 97, 116, 104, 115]) = true := by rw [Lib.toList_data, h17]; rfl
    clear HT h17
    go_enter Try.func7, Try.ntmps7
    go_wp2_with fail
    go_ret
    exact ⟨rfl, rfl⟩
  have g17 : (n.toList == [100, 101, 108, 112, 97, 116, 104, 115]) = false := by rw [Lib.toList_data, beq_eq_false_iff_ne]; exact h17
  have b17 := beq_eq_false_iff_ne.2 h17
  clear h17
  have HT : biL1.contains n.data.toList = false := by
    unfold biL1
    simp only [List.contains_cons, b0, b1, b2, b3, b4, b5, b6, b7, b8, b9, b10, b11, b12, b13, b14, b15, b16, b17, Bool.or_false, Bool.false_or]
    rfl
  rw [HT]
  clear HT b0 b1 b2 b3 b4 b5 b6 b7 b8 b9 b10 b11 b12 b13 b14 b15 b16 b17
  go_enter Try.func7, Try.ntmps7
  go_wp2_with fail
  go_ret
  exact ⟨rfl, rfl⟩

set_option maxRecDepth 100000 in
set_option maxHeartbeats 6400000 in
theorem w_bi2 (n : ByteArray) (w : World) :
    Calls Try.prog 4 #[.string n, .int .i64 2] w fun e w' => e = .returned (.bool (biL2.contains n.data.toList)) ∧ w' = w := by
  by_cases h0 : n.data.toList = [114, 97, 110, 103, 101]
  · have HT : biL2.contains n.data.toList = true := by rw [h0]; decide
    rw [HT]
    have g0 : (n.toList == [114, 97, 110, 103, 101]) = true := by rw [Lib.toList_data, h0]; rfl
    clear HT h0
    go_enter Try.func4, Try.ntmps4
    go_wp2_with fail
    go_ret
    exact ⟨by first | rfl | simp [*], rfl⟩
  have g0 : (n.toList == [114, 97, 110, 103, 101]) = false := by rw [Lib.toList_data, beq_eq_false_iff_ne]; exact h0
  have b0 := beq_eq_false_iff_ne.2 h0
  clear h0
  by_cases h1 : n.data.toList = [115, 101, 116, 112, 97, 116, 104]
  · have HT : biL2.contains n.data.toList = true := by rw [h1]; decide
    rw [HT]
    have g1 : (n.toList == [115, 101, 116, 112, 97, 116, 104]) = true := by rw [Lib.toList_data, h1]; rfl
    clear HT h1
    go_enter Try.func4, Try.ntmps4
    go_wp2_with fail
    go_ret
    exact ⟨by first | rfl | simp [*], rfl⟩
  have g1 : (n.toList == [115, 101, 116, 112, 97, 116, 104]) = false := by rw [Lib.toList_data, beq_eq_false_iff_ne]; exact h1
  have b1 := beq_eq_false_iff_ne.2 h1
  clear h1
  have HT : biL2.contains n.data.toList = false := by
    unfold biL2
    simp only [List.contains_cons, b0, b1, Bool.or_false, Bool.false_or]
    rfl
  rw [HT]
  clear HT b0 b1
  go_enter Try.func4, Try.ntmps4
  go_wp2_with fail
  go_ret
  exact ⟨by first | rfl | simp [*], rfl⟩

set_option maxRecDepth 100000 in
set_option maxHeartbeats 6400000 in
theorem w_bi (n : ByteArray) (a : Int) (w : World) :
    Calls Try.prog 4 #[.string n, .int .i64 a] w fun e w' => e = .returned (.bool (biB n.data.toList a)) ∧ w' = w := by
  unfold biB
  by_cases a0 : a = 0
  · subst a0
    rw [if_pos rfl]
    have H := Hid.mk (w_bi0 n)
    generalize biL0.contains n.data.toList = bb at *
    go_enter Try.func4, Try.ntmps4
    go_wp2_with fail
    refine (H.out _).mono ?_
    rintro e w1 ⟨rfl, rfl⟩
    go_wp2_with fail
    go_ret
    exact ⟨rfl, rfl⟩
  rw [if_neg a0]
  by_cases a1 : a = 1
  · subst a1
    rw [if_pos rfl]
    have H := Hid.mk (w_bi1 n)
    generalize biL1.contains n.data.toList = bb at *
    go_enter Try.func4, Try.ntmps4
    go_wp2_with fail
    refine (H.out _).mono ?_
    rintro e w1 ⟨rfl, rfl⟩
    go_wp2_with fail
    go_ret
    exact ⟨rfl, rfl⟩
  rw [if_neg a1]
  by_cases a2 : a = 2
  · subst a2
    rw [if_pos rfl]
    exact w_bi2 n w
  rw [if_neg a2]
  have q0 : (a == 0) = false := beq_eq_false_iff_ne.2 a0
  have q1 : (a == 1) = false := beq_eq_false_iff_ne.2 a1
  have q2 : (a == 2) = false := beq_eq_false_iff_ne.2 a2
  clear a0 a1 a2
  go_enter Try.func4, Try.ntmps4
  go_wp2_with fail
  go_ret
  exact ⟨rfl, rfl⟩

set_option maxRecDepth 100000 in
set_option maxHeartbeats 6400000 in
theorem w_rb0 (n : ByteArray) (w : World) :
    Calls Try.prog 5 #[.string n, .int .i64 0] w fun e w' => e = .returned (.bool (biL0.contains n.data.toList)) ∧ w' = w := by
  by_cases h0 : n.data.toList = [101, 109, 112, 116, 121]
  · have HT : biL0.contains n.data.toList = true := by rw [h0]; decide
    rw [HT]
    have g0 : (n.toList == [101, 109, 112, 116, 121]) = true := by rw [Lib.toList_data, h0]; rfl
    clear HT h0
    go_enter Try.func5, Try.ntmps5
    go_wp2_with fail
    go_ret
    exact ⟨by first | rfl | simp [*], rfl⟩
  have g0 : (n.toList == [101, 109, 112, 116, 121]) = false := by rw [Lib.toList_data, beq_eq_false_iff_ne]; exact h0
  have b0 := beq_eq_false_iff_ne.2 h0
  clear h0
  by_cases h1 : n.data.toList = [101, 114, 114, 111, 114]
  · have HT : biL0.contains n.data.toList = true := by rw [h1]; decide
    rw [HT]
    have g1 : (n.toList == [101, 114, 114, 111, 114]) = true := by rw [Lib.toList_data, h1]; rfl
    clear HT h1
    go_enter Try.func5, Try.ntmps5
    go_wp2_with fail
    go_ret
    exact ⟨by first | rfl | simp [*], rfl⟩
  have g1 : (n.toList == [101, 114, 114, 111, 114]) = false := by rw [Lib.toList_data, beq_eq_false_iff_ne]; exact h1
  have b1 := beq_eq_false_iff_ne.2 h1
  clear h1
  by_cases h2 : n.data.toList = [108, 101, 110, 103, 116, 104]
  · have HT : biL0.contains n.data.toList = true := by rw [h2]; decide
    rw [HT]
    have g2 : (n.toList == [108, 101, 110, 103, 116, 104]) = true := by rw [Lib.toList_data, h2]; rfl
    clear HT h2
    go_enter Try.func5, Try.ntmps5
    go_wp2_with fail
    go_ret
    exact ⟨by first | rfl | simp [*], rfl⟩
  have g2 : (n.toList == [108, 101, 110, 103, 116, 104]) = false := by rw [Lib.toList_data, beq_eq_false_iff_ne]; exact h2
  have b2 := beq_eq_false_iff_ne.2 h2
  clear h2
  by_cases h3 : n.data.toList = [117, 116, 102, 56, 98, 121, 116, 101, 108, 101, 110, 103, 116, 104]
  · have HT : biL0.contains n.data.toList = true := by rw [h3]; decide
    rw [HT]
    have g3 : (n.toList == [117, 116, 102, 56, 98, 121, 116, 101, 108, 101, 110, 103, 116, 104]) = true := by rw [Lib.toList_data, h3]; rfl
    clear HT h3
    go_enter Try.func5, Try.ntmps5
    go_wp2_with fail
    go_ret
    exact ⟨by first | rfl | simp [*], rfl⟩
  have g3 : (n.toList == [117, 116, 102, 56, 98, 121, 116, 101, 108, 101, 110, 103, 116, 104]) = false := by rw [Lib.toList_data, beq_eq_false_iff_ne]; exact h3
  have b3 := beq_eq_false_iff_ne.2 h3
  clear h3
  by_cases h4 : n.data.toList = [110, 111, 116]
  · have HT : biL0.contains n.data.toList = true := by rw [h4]; decide
    rw [HT]
    have g4 : (n.toList == [110, 111, 116]) = true := by rw [Lib.toList_data, h4]; rfl
    clear HT h4
    go_enter Try.func5, Try.ntmps5
    go_wp2_with fail
    go_ret
    exact ⟨by first | rfl | simp [*], rfl⟩
  have g4 : (n.toList == [110, 111, 116]) = false := by rw [Lib.toList_data, beq_eq_false_iff_ne]; exact h4
  have b4 := beq_eq_false_iff_ne.2 h4
  clear h4
  by_cases h5 : n.data.toList = [107, 101, 121, 115]
  · have HT : biL0.contains n.data.toList = true := by rw [h5]; decide
    rw [HT]
    have g5 : (n.toList == [107, 101, 121, 115]) = true := by rw [Lib.toList_data, h5]; rfl
    clear HT h5
    go_enter Try.func5, Try.ntmps5
    go_wp2_with fail
    go_ret
    exact ⟨by first | rfl | simp [*], rfl⟩
  have g5 : (n.toList == [107, 101, 121, 115]) = false := by rw [Lib.toList_data, beq_eq_false_iff_ne]; exact h5
  have b5 := beq_eq_false_iff_ne.2 h5
  clear h5
  by_cases h6 : n.data.toList = [116, 121, 112, 101]
  · have HT : biL0.contains n.data.toList = true := by rw [h6]; decide
    rw [HT]
    have g6 : (n.toList == [116, 121, 112, 101]) = true := by rw [Lib.toList_data, h6]; rfl
    clear HT h6
    go_enter Try.func5, Try.ntmps5
    go_wp2_with fail
    go_ret
    exact ⟨by first | rfl | simp [*], rfl⟩
  have g6 : (n.toList == [116, 121, 112, 101]) = false := by rw [Lib.toList_data, beq_eq_false_iff_ne]; exact h6
  have b6 := beq_eq_false_iff_ne.2 h6
  clear h6
  by_cases h7 : n.data.toList = [116, 111, 115, 116, 114, 105, 110, 103]
  · have HT : biL0.contains n.data.toList = true := by rw [h7]; decide
    rw [HT]
    have g7 : (n.toList == [116, 111, 115, 116, 114, 105, 110, 103]) = true := by rw [Lib.toList_data, h7]; rfl
    clear HT h7
    go_enter Try.func5, Try.ntmps5
    go_wp2_with fail
    go_ret
    exact ⟨by first | rfl | simp [*], rfl⟩
  have g7 : (n.toList == [116, 111, 115, 116, 114, 105, 110, 103]) = false := by rw [Lib.toList_data, beq_eq_false_iff_ne]; exact h7
  have b7 := beq_eq_false_iff_ne.2 h7
  clear h7
  by_cases h8 : n.data.toList = [116, 111, 110, 117, 109, 98, 101, 114]
  · have HT : biL0.contains n.data.toList = true := by rw [h8]; decide
    rw [HT]
    have g8 : (n.toList == [116, 111, 110, 117, 109, 98, 101, 114]) = true := by rw [Lib.toList_data, h8]; rfl
    clear HT h8
    go_enter Try.func5, Try.ntmps5
    go_wp2_with fail
    go_ret
    exact ⟨by first | rfl | simp [*], rfl⟩
  have g8 : (n.toList == [116, 111, 110, 117, 109, 98, 101, 114]) = false := by rw [Lib.toList_data, beq_eq_false_iff_ne]; exact h8
  have b8 := beq_eq_false_iff_ne.2 h8
  clear h8
  by_cases h9 : n.data.toList = [116, 111, 106, 115, 111, 110]
  · have HT : biL0.contains n.data.toList = true := by rw [h9]; decide
    rw [HT]
    have g9 : (n.toList == [116, 111, 106, 115, 111, 110]) = true := by rw [Lib.toList_data, h9]; rfl
    clear HT h9
    go_enter Try.func5, Try.ntmps5
    go_wp2_with fail
    go_ret
    exact ⟨by first | rfl | simp [*], rfl⟩
  have g9 : (n.toList == [116, 111, 106, 115, 111, 110]) = false := by rw [Lib.toList_data, beq_eq_false_iff_ne]; exact h9
  have b9 := beq_eq_false_iff_ne.2 h9
  clear h9
  by_cases h10 : n.data.toList = [102, 114, 111, 109, 106, 115, 111, 110]
  · have HT : biL0.contains n.data.toList = true := by rw [h10]; decide
    rw [HT]
    have g10 : (n.toList == [102, 114, 111, 109, 106, 115, 111, 110]) = true := by rw [Lib.toList_data, h10]; rfl
    clear HT h10
    go_enter Try.func5, Try.ntmps5
    go_wp2_with fail
    go_ret
    exact ⟨by first | rfl | simp [*], rfl⟩
  have g10 : (n.toList == [102, 114, 111, 109, 106, 115, 111, 110]) = false := by rw [Lib.toList_data, beq_eq_false_iff_ne]; exact h10
  have b10 := beq_eq_false_iff_ne.2 h10
  clear h10
  by_cases h11 : n.data.toList = [97, 115, 99, 105, 105, 95, 100, 111, 119, 110, 99, 97, 115, 101]
  · have HT : biL0.contains n.data.toList = true := by rw [h11]; decide
    rw [HT]
    have g11 : (n.toList == [97, 115, 99, 105, 105, 95, 100, 111, 119, 110, 99, 97, 115, 101]) = true := by rw [Lib.toList_data, h11]; rfl
    clear HT h11
    go_enter Try.func5, Try.ntmps5
    go_wp2_with fail
    go_ret
    exact ⟨by first | rfl | simp [*], rfl⟩
  have g11 : (n.toList == [97, 115, 99, 105, 105, 95, 100, 111, 119, 110, 99, 97, 115, 101]) = false := by rw [Lib.toList_data, beq_eq_false_iff_ne]; exact h11
  have b11 := beq_eq_false_iff_ne.2 h11
  clear h11
  by_cases h12 : n.data.toList = [97, 115, 99, 105, 105, 95, 117, 112, 99, 97, 115, 101]
  · have HT : biL0.contains n.data.toList = true := by rw [h12]; decide
    rw [HT]
    have g12 : (n.toList == [97, 115, 99, 105, 105, 95, 117, 112, 99, 97, 115, 101]) = true := by rw [Lib.toList_data, h12]; rfl
    clear HT h12
    go_enter Try.func5, Try.ntmps5
    go_wp2_with fail
    go_ret
    exact ⟨by first | rfl | simp [*], rfl⟩
  have g12 : (n.toList == [97, 115, 99, 105, 105, 95, 117, 112, 99, 97, 115, 101]) = false := by rw [Lib.toList_data, beq_eq_false_iff_ne]; exact h12
  have b12 := beq_eq_false_iff_ne.2 h12
  clear h12
  by_cases h13 : n.data.toList = [101, 120, 112, 108, 111, 100, 101]
  · have HT : biL0.contains n.data.toList = true := by rw [h13]; decide
    rw [HT]
    have g13 : (n.toList == [101, 120, 112, 108, 111, 100, 101]) = true := by rw [Lib.toList_data, h13]; rfl
    clear HT h13
    go_enter Try.func5, Try.ntmps5
    go_wp2_with fail
    go_ret
    exact ⟨by first | rfl | simp [*], rfl⟩
  have g13 : (n.toList == [101, 120, 112, 108, 111, 100, 101]) = false := by rw [Lib.toList_data, beq_eq_false_iff_ne]; exact h13
  have b13 := beq_eq_false_iff_ne.2 h13
  clear h13
  by_cases h14 : n.data.toList = [105, 109, 112, 108, 111, 100, 101]
  · have HT : biL0.contains n.data.toList = true := by rw [h14]; decide
    rw [HT]
    have g14 : (n.toList == [105, 109, 112, 108, 111, 100, 101]) = true := by rw [Lib.toList_data, h14]; rfl
    clear HT h14
    go_enter Try.func5, Try.ntmps5
    go_wp2_with fail
    go_ret
    exact ⟨by first | rfl | simp [*], rfl⟩
  have g14 : (n.toList == [105, 109, 112, 108, 111, 100, 101]) = false := by rw [Lib.toList_data, beq_eq_false_iff_ne]; exact h14
  have b14 := beq_eq_false_iff_ne.2 h14
  clear h14
  by_cases h15 : n.data.toList = [114, 101, 118, 101, 114, 115, 101]
  · have HT : biL0.contains n.data.toList = true := by rw [h15]; decide
    rw [HT]
    have g15 : (n.toList == [114, 101, 118, 101, 114, 115, 101]) = true := by rw [Lib.toList_data, h15]; rfl
    clear HT h15
    go_enter Try.func5, Try.ntmps5
    go_wp2_with fail
    go_ret
    exact ⟨by first | rfl | simp [*], rfl⟩
  have g15 : (n.toList == [114, 101, 118, 101, 114, 115, 101]) = false := by rw [Lib.toList_data, beq_eq_false_iff_ne]; exact h15
  have b15 := beq_eq_false_iff_ne.2 h15
  clear h15
  by_cases h16 : n.data.toList = [115, 111, 114, 116]
  · have HT : biL0.contains n.data.toList = true := by rw [h16]; decide
    rw [HT]
    have g16 : (n.toList == [115, 111, 114, 116]) = true := by rw [Lib.toList_data, h16]; rfl
    clear HT h16
    go_enter Try.func5, Try.ntmps5
    go_wp2_with fail
    go_ret
    exact ⟨by first | rfl | simp [*], rfl⟩
  have g16 : (n.toList == [115, 111, 114, 116]) = false := by rw [Lib.toList_data, beq_eq_false_iff_ne]; exact h16
  have b16 := beq_eq_false_iff_ne.2 h16
  clear h16
  by_cases h17 : n.data.toList = [109, 105, 110]
  · have HT : biL0.contains n.data.toList = true := by rw [h17]; decide
    rw [HT]
    have g17 : (n.toList == [109, 105, 110]) = true := by rw [Lib.toList_data, h17]; rfl
    clear HT h17
    go_enter Try.func5, Try.ntmps5
    go_wp2_with fail
    go_ret
    exact ⟨by first | rfl | simp [*], rfl⟩
  have g17 : (n.toList == [109, 105, 110]) = false := by rw [Lib.toList_data, beq_eq_false_iff_ne]; exact h17
  have b17 := beq_eq_false_iff_ne.2 h17
  clear h17
  by_cases h18 : n.data.toList = [109, 97, 120]
  · have HT : biL0.contains n.data.toList = true := by rw [h18]; decide
    rw [HT]
    have g18 : (n.toList == [109, 97, 120]) = true := by rw [Lib.toList_data, h18]; rfl
    clear HT h18
    go_enter Try.func5, Try.ntmps5
    go_wp2_with fail
    go_ret
    exact ⟨by first | rfl | simp [*], rfl⟩
  have g18 : (n.toList == [109, 97, 120]) = false := by rw [Lib.toList_data, beq_eq_false_iff_ne]; exact h18
  have b18 := beq_eq_false_iff_ne.2 h18
  clear h18
  by_cases h19 : n.data.toList = [117, 110, 105, 113, 117, 101]
  · have HT : biL0.contains n.data.toList = true := by rw [h19]; decide
    rw [HT]
    have g19 : (n.toList == [117, 110, 105, 113, 117, 101]) = true := by rw [Lib.toList_data, h19]; rfl
    clear HT h19
    go_enter Try.func5, Try.ntmps5
    go_wp2_with fail
    go_ret
    exact ⟨by first | rfl | simp [*], rfl⟩
  have g19 : (n.toList == [117, 110, 105, 113, 117, 101]) = false := by rw [Lib.toList_data, beq_eq_false_iff_ne]; exact h19
  have b19 := beq_eq_false_iff_ne.2 h19
  clear h19
  by_cases h20 : n.data.toList = [97, 100, 100]
  · have HT : biL0.contains n.data.toList = true := by rw [h20]; decide
    rw [HT]
    have g20 : (n.toList == [97, 100, 100]) = true := by rw [Lib.toList_data, h20]; rfl
    clear HT h20
    go_enter Try.func5, Try.ntmps5
    go_wp2_with fail
    go_ret
    exact ⟨by first | rfl | simp [*], rfl⟩
  have g20 : (n.toList == [97, 100, 100]) = false := by rw [Lib.toList_data, beq_eq_false_iff_ne]; exact h20
  have b20 := beq_eq_false_iff_ne.2 h20
  clear h20
  by_cases h21 : n.data.toList = [102, 108, 97, 116, 116, 101, 110]
  · have HT : biL0.contains n.data.toList = true := by rw [h21]; decide
    rw [HT]
    have g21 : (n.toList == [102, 108, 97, 116, 116, 101, 110]) = true := by rw [Lib.toList_data, h21]; rfl
    clear HT h21
    go_enter Try.func5, Try.ntmps5
    go_wp2_with fail
    go_ret
    exact ⟨by first | rfl | simp [*], rfl⟩
  have g21 : (n.toList == [102, 108, 97, 116, 116, 101, 110]) = false := by rw [Lib.toList_data, beq_eq_false_iff_ne]; exact h21
  have b21 := beq_eq_false_iff_ne.2 h21
  clear h21
  by_cases h22 : n.data.toList = [116, 114, 97, 110, 115, 112, 111, 115, 101]
  · have HT : biL0.contains n.data.toList = true := by rw [h22]; decide
    rw [HT]
    have g22 : (n.toList == [116, 114, 97, 110, 115, 112, 111, 115, 101]) = true := by rw [Lib.toList_data, h22]; rfl
    clear HT h22
    go_enter Try.func5, Try.ntmps5
    go_wp2_with fail
    go_ret
    exact ⟨by first | rfl | simp [*], rfl⟩
  have g22 : (n.toList == [116, 114, 97, 110, 115, 112, 111, 115, 101]) = false := by rw [Lib.toList_data, beq_eq_false_iff_ne]; exact h22
  have b22 := beq_eq_false_iff_ne.2 h22
  clear h22
  by_cases h23 : n.data.toList = [97, 98, 115]
  · have HT : biL0.contains n.data.toList = true := by rw [h23]; decide
    rw [HT]
    have g23 : (n.toList == [97, 98, 115]) = true := by rw [Lib.toList_data, h23]; rfl
    clear HT h23
    go_enter Try.func5, Try.ntmps5
    go_wp2_with fail
    go_ret
    exact ⟨by first | rfl | simp [*], rfl⟩
  have g23 : (n.toList == [97, 98, 115]) = false := by rw [Lib.toList_data, beq_eq_false_iff_ne]; exact h23
  have b23 := beq_eq_false_iff_ne.2 h23
  clear h23
  by_cases h24 : n.data.toList = [116, 111, 97, 114, 114, 97, 121]
  · have HT : biL0.contains n.data.toList = true := by rw [h24]; decide
    rw [HT]
    have g24 : (n.toList == [116, 111, 97, 114, 114, 97, 121]) = true := by rw [Lib.toList_data, h24]; rfl
    clear HT h24
    go_enter Try.func5, Try.ntmps5
    go_wp2_with fail
    go_ret
    exact ⟨by first | rfl | simp [*], rfl⟩
  have g24 : (n.toList == [116, 111, 97, 114, 114, 97, 121]) = false := by rw [Lib.toList_data, beq_eq_false_iff_ne]; exact h24
  have b24 := beq_eq_false_iff_ne.2 h24
  clear h24
  have HT : biL0.contains n.data.toList = false := by
    unfold biL0
    simp only [List.contains_cons, b0, b1, b2, b3, b4, b5, b6, b7, b8, b9, b10, b11, b12, b13, b14, b15, b16, b17, b18, b19, b20, b21, b22, b23, b24, Bool.or_false, Bool.false_or]
    rfl
  rw [HT]
  clear HT b0 b1 b2 b3 b4 b5 b6 b7 b8 b9 b10 b11 b12 b13 b14 b15 b16 b17 b18 b19 b20 b21 b22 b23 b24
  go_enter Try.func5, Try.ntmps5
  go_wp2_with fail
  go_ret
  exact ⟨by first | rfl | simp [*], rfl⟩

set_option maxRecDepth 100000 in
set_option maxHeartbeats 6400000 in
theorem w_rb1 (n : ByteArray) (w : World) :
    Calls Try.prog 5 #[.string n, .int .i64 1] w fun e w' => e = .returned (.bool (biL1.contains n.data.toList)) ∧ w' = w := by
  by_cases h0 : n.data.toList = [101, 114, 114, 111, 114]
  · have HT : biL1.contains n.data.toList = true := by rw [h0]; decide
    rw [HT]
    have g0 : (n.toList == [101, 114, 114, 111, 114]) = true := by rw [Lib.toList_data, h0]; rfl
    clear HT h0
    go_enter Try.func5, Try.ntmps5
    go_wp2_with fail
    go_ret
    exact ⟨by first | rfl | simp [*], rfl⟩
  have g0 : (n.toList == [101, 114, 114, 111, 114]) = false := by rw [Lib.toList_data, beq_eq_false_iff_ne]; exact h0
  have b0 := beq_eq_false_iff_ne.2 h0
  clear h0
  by_cases h1 : n.data.toList = [112, 97, 116, 104]
  · have HT : biL1.contains n.data.toList = true := by rw [h1]; decide
    rw [HT]
    have g1 : (n.toList == [112, 97, 116, 104]) = true := by rw [Lib.toList_data, h1]; rfl
    clear HT h1
    go_enter Try.func5, Try.ntmps5
    go_wp2_with fail
    go_ret
    exact ⟨by first | rfl | simp [*], rfl⟩
  have g1 : (n.toList == [112, 97, 116, 104]) = false := by rw [Lib.toList_data, beq_eq_false_iff_ne]; exact h1
  have b1 := beq_eq_false_iff_ne.2 h1
  clear h1
  by_cases h2 : n.data.toList = [104, 97, 115]
  · have HT : biL1.contains n.data.toList = true := by rw [h2]; decide
    rw [HT]
    have g2 : (n.toList == [104, 97, 115]) = true := by rw [Lib.toList_data, h2]; rfl
    clear HT h2
    go_enter Try.func5, Try.ntmps5
    go_wp2_with fail
    go_ret
    exact ⟨by first | rfl | simp [*], rfl⟩
  have g2 : (n.toList == [104, 97, 115]) = false := by rw [Lib.toList_data, beq_eq_false_iff_ne]; exact h2
  have b2 := beq_eq_false_iff_ne.2 h2
  clear h2
  by_cases h3 : n.data.toList = [99, 111, 110, 116, 97, 105, 110, 115]
  · have HT : biL1.contains n.data.toList = true := by rw [h3]; decide
    rw [HT]
    have g3 : (n.toList == [99, 111, 110, 116, 97, 105, 110, 115]) = true := by rw [Lib.toList_data, h3]; rfl
    clear HT h3
    go_enter Try.func5, Try.ntmps5
    go_wp2_with fail
    go_ret
    exact ⟨by first | rfl | simp [*], rfl⟩
  have g3 : (n.toList == [99, 111, 110, 116, 97, 105, 110, 115]) = false := by rw [Lib.toList_data, beq_eq_false_iff_ne]; exact h3
  have b3 := beq_eq_false_iff_ne.2 h3
  clear h3
  by_cases h4 : n.data.toList = [115, 116, 97, 114, 116, 115, 119, 105, 116, 104]
  · have HT : biL1.contains n.data.toList = true := by rw [h4]; decide
    rw [HT]
    have g4 : (n.toList == [115, 116, 97, 114, 116, 115, 119, 105, 116, 104]) = true := by rw [Lib.toList_data, h4]; rfl
    clear HT h4
    go_enter Try.func5, Try.ntmps5
    go_wp2_with fail
    go_ret
    exact ⟨by first | rfl | simp [*], rfl⟩
  have g4 : (n.toList == [115, 116, 97, 114, 116, 115, 119, 105, 116, 104]) = false := by rw [Lib.toList_data, beq_eq_false_iff_ne]; exact h4
  have b4 := beq_eq_false_iff_ne.2 h4
  clear h4
  by_cases h5 : n.data.toList = [101, 110, 100, 115, 119, 105, 116, 104]
  · have HT : biL1.contains n.data.toList = true := by rw [h5]; decide
    rw [HT]
    have g5 : (n.toList == [101, 110, 100, 115, 119, 105, 116, 104]) = true := by rw [Lib.toList_data, h5]; rfl
    clear HT h5
    go_enter Try.func5, Try.ntmps5
    go_wp2_with fail
    go_ret
    exact ⟨by first | rfl | simp [*], rfl⟩
  have g5 : (n.toList == [101, 110, 100, 115, 119, 105, 116, 104]) = false := by rw [Lib.toList_data, beq_eq_false_iff_ne]; exact h5
  have b5 := beq_eq_false_iff_ne.2 h5
  clear h5
  by_cases h6 : n.data.toList = [108, 116, 114, 105, 109, 115, 116, 114]
  · have HT : biL1.contains n.data.toList = true := by rw [h6]; decide
    rw [HT]
    have g6 : (n.toList == [108, 116, 114, 105, 109, 115, 116, 114]) = true := by rw [Lib.toList_data, h6]; rfl
    clear HT h6
    go_enter Try.func5, Try.ntmps5
    go_wp2_with fail
    go_ret
    exact ⟨by first | rfl | simp [*], rfl⟩
  have g6 : (n.toList == [108, 116, 114, 105, 109, 115, 116, 114]) = false := by rw [Lib.toList_data, beq_eq_false_iff_ne]; exact h6
  have b6 := beq_eq_false_iff_ne.2 h6
  clear h6
  by_cases h7 : n.data.toList = [114, 116, 114, 105, 109, 115, 116, 114]
  · have HT : biL1.contains n.data.toList = true := by rw [h7]; decide
    rw [HT]
    have g7 : (n.toList == [114, 116, 114, 105, 109, 115, 116, 114]) = true := by rw [Lib.toList_data, h7]; rfl
    clear HT h7
    go_enter Try.func5, Try.ntmps5
    go_wp2_with fail
    go_ret
    exact ⟨by first | rfl | simp [*], rfl⟩
  have g7 : (n.toList == [114, 116, 114, 105, 109, 115, 116, 114]) = false := by rw [Lib.toList_data, beq_eq_false_iff_ne]; exact h7
  have b7 := beq_eq_false_iff_ne.2 h7
  clear h7
  by_cases h8 : n.data.toList = [115, 112, 108, 105, 116]
  · have HT : biL1.contains n.data.toList = true := by rw [h8]; decide
    rw [HT]
    have g8 : (n.toList == [115, 112, 108, 105, 116]) = true := by rw [Lib.toList_data, h8]; rfl
    clear HT h8
    go_enter Try.func5, Try.ntmps5
    go_wp2_with fail
    go_ret
    exact ⟨by first | rfl | simp [*], rfl⟩
  have g8 : (n.toList == [115, 112, 108, 105, 116]) = false := by rw [Lib.toList_data, beq_eq_false_iff_ne]; exact h8
  have b8 := beq_eq_false_iff_ne.2 h8
  clear h8
  by_cases h9 : n.data.toList = [106, 111, 105, 110]
  · have HT : biL1.contains n.data.toList = true := by rw [h9]; decide
    rw [HT]
    have g9 : (n.toList == [106, 111, 105, 110]) = true := by rw [Lib.toList_data, h9]; rfl
    clear HT h9
    go_enter Try.func5, Try.ntmps5
    go_wp2_with fail
    go_ret
    exact ⟨by first | rfl | simp [*], rfl⟩
  have g9 : (n.toList == [106, 111, 105, 110]) = false := by rw [Lib.toList_data, beq_eq_false_iff_ne]; exact h9
  have b9 := beq_eq_false_iff_ne.2 h9
  clear h9
  by_cases h10 : n.data.toList = [105, 110, 100, 105, 99, 101, 115]
  · have HT : biL1.contains n.data.toList = true := by rw [h10]; decide
    rw [HT]
    have g10 : (n.toList == [105, 110, 100, 105, 99, 101, 115]) = true := by rw [Lib.toList_data, h10]; rfl
    clear HT h10
    go_enter Try.func5, Try.ntmps5
    go_wp2_with fail
    go_ret
    exact ⟨by first | rfl | simp [*], rfl⟩
  have g10 : (n.toList == [105, 110, 100, 105, 99, 101, 115]) = false := by rw [Lib.toList_data, beq_eq_false_iff_ne]; exact h10
  have b10 := beq_eq_false_iff_ne.2 h10
  clear h10
  by_cases h11 : n.data.toList = [95, 115, 111, 114, 116, 95, 98, 121]
  · have HT : biL1.contains n.data.toList = true := by rw [h11]; decide
    rw [HT]
    have g11 : (n.toList == [95, 115, 111, 114, 116, 95, 98, 121]) = true := by rw [Lib.toList_data, h11]; rfl
    clear HT h11
    go_enter Try.func5, Try.ntmps5
    go_wp2_with fail
    go_ret
    exact ⟨by first | rfl | simp [*], rfl⟩
  have g11 : (n.toList == [95, 115, 111, 114, 116, 95, 98, 121]) = false := by rw [Lib.toList_data, beq_eq_false_iff_ne]; exact h11
  have b11 := beq_eq_false_iff_ne.2 h11
  clear h11
  by_cases h12 : n.data.toList = [95, 103, 114, 111, 117, 112, 95, 98, 121]
  · have HT : biL1.contains n.data.toList = true := by rw [h12]; decide
    rw [HT]
    have g12 : (n.toList == [95, 103, 114, 111, 117, 112, 95, 98, 121]) = true := by rw [Lib.toList_data, h12]; rfl
    clear HT h12
    go_enter Try.func5, Try.ntmps5
    go_wp2_with fail
    go_ret
    exact ⟨by first | rfl | simp [*], rfl⟩
  have g12 : (n.toList == [95, 103, 114, 111, 117, 112, 95, 98, 121]) = false := by rw [Lib.toList_data, beq_eq_false_iff_ne]; exact h12
  have b12 := beq_eq_false_iff_ne.2 h12
  clear h12
  by_cases h13 : n.data.toList = [95, 117, 110, 105, 113, 117, 101, 95, 98, 121]
  · have HT : biL1.contains n.data.toList = true := by rw [h13]; decide
    rw [HT]
    have g13 : (n.toList == [95, 117, 110, 105, 113, 117, 101, 95, 98, 121]) = true := by rw [Lib.toList_data, h13]; rfl
    clear HT h13
    go_enter Try.func5, Try.ntmps5
    go_wp2_with fail
    go_ret
    exact ⟨by first | rfl | simp [*], rfl⟩
  have g13 : (n.toList == [95, 117, 110, 105, 113, 117, 101, 95, 98, 121]) = false := by rw [Lib.toList_data, beq_eq_false_iff_ne]; exact h13
  have b13 := beq_eq_false_iff_ne.2 h13
  clear h13
  by_cases h14 : n.data.toList = [95, 109, 105, 110, 95, 98, 121]
  · have HT : biL1.contains n.data.toList = true := by rw [h14]; decide
    rw [HT]
    have g14 : (n.toList == [95, 109, 105, 110, 95, 98, 121]) = true := by rw [Lib.toList_data, h14]; rfl
    clear HT h14
    go_enter Try.func5, Try.ntmps5
    go_wp2_with fail
    go_ret
    exact ⟨by first | rfl | simp [*], rfl⟩
  have g14 : (n.toList == [95, 109, 105, 110, 95, 98, 121]) = false := by rw [Lib.toList_data, beq_eq_false_iff_ne]; exact h14
  have b14 := beq_eq_false_iff_ne.2 h14
  clear h14
  by_cases h15 : n.data.toList = [95, 109, 97, 120, 95, 98, 121]
  · have HT : biL1.contains n.data.toList = true := by rw [h15]; decide
    rw [HT]
    have g15 : (n.toList == [95, 109, 97, 120, 95, 98, 121]) = true := by rw [Lib.toList_data, h15]; rfl
    clear HT h15
    go_enter Try.func5, Try.ntmps5
    go_wp2_with fail
    go_ret
    exact ⟨by first | rfl | simp [*], rfl⟩
  have g15 : (n.toList == [95, 109, 97, 120, 95, 98, 121]) = false := by rw [Lib.toList_data, beq_eq_false_iff_ne]; exact h15
  have b15 := beq_eq_false_iff_ne.2 h15
  clear h15
  by_cases h16 : n.data.toList = [103, 101, 116, 112, 97, 116, 104]
  · have HT : biL1.contains n.data.toList = true := by rw [h16]; decide
    rw [HT]
    have g16 : (n.toList == [103, 101, 116, 112, 97, 116, 104]) = true := by rw [Lib.toList_data, h16]; rfl
    clear HT h16
    go_enter Try.func5, Try.ntmps5
    go_wp2_with fail
    go_ret
    exact ⟨by first | rfl | simp [*], rfl⟩
  have g16 : (n.toList == [103, 101, 116, 112, 97, 116, 104]) = false := by rw [Lib.toList_data, beq_eq_false_iff_ne]; exact h16
  have b16 := beq_eq_false_iff_ne.2 h16
  clear h16
  by_cases h17 : n.data.toList = [100, 101, 108, 112, 97, 116, 104, 115]
  · have HT : biL1.contains n.data.toList = true := by rw [h17]; decide
    rw [HT]
    have g17 : (n.toList == [100, 101, 108, 112, 97, 116, 104, 115]) = true := by rw [Lib.toList_data, h17]; rfl
    clear HT h17
    go_enter Try.func5, Try.ntmps5
    go_wp2_with fail
    go_ret
    exact ⟨by first | rfl | simp [*], rfl⟩
  have g17 : (n.toList == [100, 101, 108, 112, 97, 116, 104, 115]) = false := by rw [Lib.toList_data, beq_eq_false_iff_ne]; exact h17
  have b17 := beq_eq_false_iff_ne.2 h17
  clear h17
  have HT : biL1.contains n.data.toList = false := by
    unfold biL1
    simp only [List.contains_cons, b0, b1, b2, b3, b4, b5, b6, b7, b8, b9, b10, b11, b12, b13, b14, b15, b16, b17, Bool.or_false, Bool.false_or]
    rfl
  rw [HT]
  clear HT b0 b1 b2 b3 b4 b5 b6 b7 b8 b9 b10 b11 b12 b13 b14 b15 b16 b17
  go_enter Try.func5, Try.ntmps5
  go_wp2_with fail
  go_ret
  exact ⟨by first | rfl | simp [*], rfl⟩

set_option maxRecDepth 100000 in
set_option maxHeartbeats 6400000 in
theorem w_rb2 (n : ByteArray) (w : World) :
    Calls Try.prog 5 #[.string n, .int .i64 2] w fun e w' => e = .returned (.bool (biL2.contains n.data.toList)) ∧ w' = w := by
  by_cases h0 : n.data.toList = [114, 97, 110, 103, 101]
  · have HT : biL2.contains n.data.toList = true := by rw [h0]; decide
    rw [HT]
    have g0 : (n.toList == [114, 97, 110, 103, 101]) = true := by rw [Lib.toList_data, h0]; rfl
    clear HT h0
    go_enter Try.func5, Try.ntmps5
    go_wp2_with fail
    go_ret
    exact ⟨by first | rfl | simp [*], rfl⟩
  have g0 : (n.toList == [114, 97, 110, 103, 101]) = false := by rw [Lib.toList_data, beq_eq_false_iff_ne]; exact h0
  have b0 := beq_eq_false_iff_ne.2 h0
  clear h0
  by_cases h1 : n.data.toList = [115, 101, 116, 112, 97, 116, 104]
  · have HT : biL2.contains n.data.toList = true := by rw [h1]; decide
    rw [HT]
    have g1 : (n.toList == [115, 101, 116, 112, 97, 116, 104]) = true := by rw [Lib.toList_data, h1]; rfl
    clear HT h1
    go_enter Try.func5, Try.ntmps5
    go_wp2_with fail
    go_ret
    exact ⟨by first | rfl | simp [*], rfl⟩
  have g1 : (n.toList == [115, 101, 116, 112, 97, 116, 104]) = false := by rw [Lib.toList_data, beq_eq_false_iff_ne]; exact h1
  have b1 := beq_eq_false_iff_ne.2 h1
  clear h1
  have HT : biL2.contains n.data.toList = false := by
    unfold biL2
    simp only [List.contains_cons, b0, b1, Bool.or_false, Bool.false_or]
    rfl
  rw [HT]
  clear HT b0 b1
  go_enter Try.func5, Try.ntmps5
  go_wp2_with fail
  go_ret
  exact ⟨by first | rfl | simp [*], rfl⟩

set_option maxRecDepth 100000 in
set_option maxHeartbeats 6400000 in
theorem w_rb (n : ByteArray) (a : Int) (w : World) :
    Calls Try.prog 5 #[.string n, .int .i64 a] w fun e w' => e = .returned (.bool (biB n.data.toList a)) ∧ w' = w := by
  unfold biB
  by_cases a0 : a = 0
  · subst a0
    rw [if_pos rfl]
    exact w_rb0 n w
  rw [if_neg a0]
  by_cases a1 : a = 1
  · subst a1
    rw [if_pos rfl]
    exact w_rb1 n w
  rw [if_neg a1]
  by_cases a2 : a = 2
  · subst a2
    rw [if_pos rfl]
    exact w_rb2 n w
  rw [if_neg a2]
  have q0 : (a == 0) = false := beq_eq_false_iff_ne.2 a0
  have q1 : (a == 1) = false := beq_eq_false_iff_ne.2 a1
  have q2 : (a == 2) = false := beq_eq_false_iff_ne.2 a2
  clear a0 a1 a2
  go_enter Try.func5, Try.ntmps5
  go_wp2_with fail
  go_ret
  exact ⟨rfl, rfl⟩

set_option maxRecDepth 100000 in
set_option maxHeartbeats 6400000 in
theorem w_ScopeBuiltin (n : ByteArray) (a : Int) (w : World) :
    Calls Try.prog 3 #[.string n, .int .i64 a] w fun e w' => e = .returned (.bool true) ∧ w' = w := by
  have H1 := Hid.mk (w_bi n a)
  have H2 := Hid.mk (w_rb n a)
  have H3 : Hid (∀ w, Calls Try.prog 4 #[.string ⟨#[112, 97, 116, 104]⟩, .int .i64 1] w fun e w' => e = .returned (.bool true) ∧ w' = w) := fun w => w_bi ⟨#[112, 97, 116, 104]⟩ 1 w
  have H4 : Hid (∀ w, Calls Try.prog 4 #[.string ⟨#[112, 97, 116, 104]⟩, .int .i64 0] w fun e w' => e = .returned (.bool false) ∧ w' = w) := fun w => w_bi ⟨#[112, 97, 116, 104]⟩ 0 w
  generalize biB n.data.toList a = b at *
  go_enter Try.func3, Try.ntmps3
  go_wp2_with fail
  refine (H1.out _).mono ?_
  rintro e w1 ⟨rfl, rfl⟩
  go_wp2_with fail
  refine (H2.out _).mono ?_
  rintro e w1 ⟨rfl, rfl⟩
  have hbb : (b == b) = true := by cases b <;> rfl
  go_wp2_with fail
  refine (H3.out _).mono ?_
  rintro e w1 ⟨rfl, rfl⟩
  go_wp2_with fail
  refine (H4.out _).mono ?_
  rintro e w1 ⟨rfl, rfl⟩
  go_wp2_with fail
  go_ret
  exact ⟨rfl, rfl⟩
end Go.Proofs.Ythhhhfbcmghpmaa
