import Derived.Test.YtdegoefedkidcacDoorV12
namespace Go.Proofs.YtdegoefedkidcacDoor
open Go.RowKit
set_option linter.unusedVariables false
set_option linter.unusedSimpArgs false

theorem runes_pos {l : List UInt8} (h : l ≠ []) : 0 < (runes l).length := by rw [runes_cons h, List.length_cons]; omega
theorem ba_ext {a b : ByteArray} (h : a.data.toList = b.data.toList) : a = b := ByteArray.ext (Array.ext' h)
theorem extract_list (s : ByteArray) (i j : Nat) : (s.extract i j).data.toList = (s.data.toList.take j).drop i := by
  rw [Lib.extract_data, List.drop_take]

theorem cut_list (s : ByteArray) (F T : Nat) (h : F ≤ T) : (cutS s (F : Int) (T : Int)).data.toList = (s.data.toList.take (off s.data.toList T)).drop (off s.data.toList F) := by
  unfold cutS
  have hm : max (F : Int) 0 = (F : Int) := by omega
  rw [hm, Int.toNat_natCast, Int.toNat_natCast]
  by_cases he : F = T
  · subst he
    rw [if_pos (Int.le_refl _), List.drop_eq_nil_of_le (by rw [List.length_take]; omega)]; rfl
  · rw [if_neg (by omega), extract_list]
theorem cut_all (s : ByteArray) : cutS s (-1) ((runes s.data.toList).length : Int) = s := by
  apply ba_ext
  unfold cutS
  have hm : max (-1 : Int) 0 = 0 := by omega
  rw [hm]
  by_cases h : s.data.toList = []
  · rw [h, runes_nil]; rfl
  · have := runes_pos h
    rw [if_neg (by omega), extract_list, Int.toNat_natCast, off_end _ _ (Nat.le_refl _), List.take_length]; rfl
theorem cut_none (s : ByteArray) (i : Int) : cutS s i i = .empty := by
  unfold cutS; rw [if_pos (by omega)]
theorem cut_runes (s : ByteArray) (F T : Nat) (h : F ≤ T) (hT : T ≤ (runes s.data.toList).length) : (runes (cutS s (F : Int) (T : Int)).data.toList).length = T - F := by
  rw [cut_list s F T h]
  obtain ⟨d, rfl⟩ := Nat.le.dest h
  rw [off_add, List.drop_take, Nat.add_sub_cancel_left, runes_take, runes_drop, List.length_take, List.length_drop]
  omega
theorem cut_three (s : ByteArray) (I J n : Nat) (h1 : I ≤ J) (h2 : J ≤ n) (hn : n = (runes s.data.toList).length) : cutS s (0 : Int) (I : Int) ++ cutS s (I : Int) (J : Int) ++ cutS s (J : Int) (n : Int) = s := by
  apply ba_ext
  have e0 := cut_list s 0 I (Nat.zero_le _)
  have e1 := cut_list s I J h1
  have e2 := cut_list s J n h2
  rw [show ((0 : Nat) : Int) = 0 from rfl] at e0
  rw [ByteArray.data_append, ByteArray.data_append, Array.toList_append, Array.toList_append, e0, e1, e2, off_end n _ (by omega), List.take_length]
  have ez : off s.data.toList 0 = 0 := rfl
  rw [ez, List.drop_zero]
  generalize s.data.toList = L at *
  have hm := off_mono L h1
  have e3 : L.take (off L I) = (L.take (off L J)).take (off L I) := by rw [List.take_take, Nat.min_eq_left hm]
  rw [e3, List.take_append_drop, List.take_append_drop]

set_option maxRecDepth 100000 in
set_option maxHeartbeats 3200000 in
theorem w_UtfCuts (s : ByteArray) (i j : Int) (w : World) (hs : s.size ≤ 4611686018427387904) :
    Calls Tryd.prog 6 #[.string s, .int .i64 i, .int .i64 j] w fun e w' => e = .returned (.bool true) ∧ Below w.heap.size w w' := by
  have HL := Hid.mk (fun u => w_Len s u (by omega))
  have HC1 := Hid.mk (fun u => w_Cut s (-1) ((runes s.data.toList).length : Int) u hs)
  rw [cut_all] at HC1
  have HC2 := Hid.mk (fun u => w_Cut s i i u hs)
  rw [cut_none] at HC2
  have hnl := runes_len_le s.data.toList
  rw [len_toList] at hnl
  obtain ⟨n, hn⟩ : ∃ n, n = (runes s.data.toList).length := ⟨_, rfl⟩
  by_cases hc : 0 ≤ i ∧ i ≤ j ∧ j ≤ (n : Int)
  · obtain ⟨h0, h1, h2⟩ := hc
    obtain ⟨I, rfl⟩ : ∃ I : Nat, i = (I : Int) := ⟨i.toNat, by omega⟩
    obtain ⟨J, rfl⟩ : ∃ J : Nat, j = (J : Int) := ⟨j.toNat, by omega⟩
    have HA := Hid.mk (fun u => w_Cut s 0 (I : Int) u hs)
    have HB := Hid.mk (fun u => w_Cut s (I : Int) (J : Int) u hs)
    have HC := Hid.mk (fun u => w_Cut s (J : Int) (n : Int) u hs)
    have hsum := cut_three s I J n (by omega) (by omega) hn
    have ra := cut_runes s 0 I (Nat.zero_le _) (by omega)
    have rb := cut_runes s I J (by omega) (by omega)
    have rc := cut_runes s J n (by omega) (by omega)
    rw [show ((0 : Nat) : Int) = 0 from rfl] at ra
    rw [← hn] at HL HC1
    generalize cutS s 0 (I : Int) = a at *
    generalize cutS s (I : Int) (J : Int) = b at *
    generalize cutS s (J : Int) (n : Int) = c at *
    have hsz : a.size + b.size + c.size = s.size := by rw [← hsum, ByteArray.size_append, ByteArray.size_append]
    have hab : (a ++ b).size = a.size + b.size := ByteArray.size_append
    have HLA := Hid.mk (fun u => w_Len a u (by omega))
    have HLB := Hid.mk (fun u => w_Len b u (by omega))
    have HLC := Hid.mk (fun u => w_Len c u (by omega))
    rw [ra, show ((I - 0 : Nat) : Int) = (I : Int) by omega] at HLA
    rw [rb, show ((J - I : Nat) : Int) = (J : Int) - (I : Int) by omega] at HLB
    rw [rc, show ((n - J : Nat) : Int) = (n : Int) - (J : Int) by omega] at HLC
    have q4 : (n : Int) ≤ 4611686018427387904 := by omega
    clear ra rb rc hn
    have q1 : ¬ ((I : Int) < 0) := by omega
    have q2 : ¬ ((J : Int) < (I : Int)) := by omega
    have q3 : ¬ ((n : Int) < (J : Int)) := by omega
    generalize (I : Int) = x at *
    generalize (J : Int) = y at *
    generalize (n : Int) = z at *
    clear hnl
    go_enter Tryd.func6, Tryd.ntmps6
    go_wp2_with fail
    refine (w_fixed _).mono ?_
    rintro e w1 ⟨rfl, hb1⟩
    have HB1 := Hid.mk hb1
    clear hb1
    go_wp2_with fail
    refine (HL.out _).mono ?_
    rintro e w2 ⟨rfl, hb2⟩
    have HB2 := Hid.mk (below_more HB1.out hb2)
    clear hb2
    go_wp2_with fail
    refine (HC1.out _).mono ?_
    rintro e w3 ⟨rfl, hb3⟩
    have HB3 := Hid.mk (below_more HB2.out hb3)
    clear hb3
    go_wp2_with fail
    refine (HC2.out _).mono ?_
    rintro e w4 ⟨rfl, hb4⟩
    have HB4 := Hid.mk (below_more HB3.out hb4)
    clear hb4
    go_wp2_with fail
    refine (HA.out _).mono ?_
    rintro e w5 ⟨rfl, hb5⟩
    have HB5 := Hid.mk (below_more HB4.out hb5)
    clear hb5
    go_wp2_with fail
    refine (HB.out _).mono ?_
    rintro e w6 ⟨rfl, hb6⟩
    have HB6 := Hid.mk (below_more HB5.out hb6)
    clear hb6
    go_wp2_with fail
    refine (HC.out _).mono ?_
    rintro e w7 ⟨rfl, hb7⟩
    have HB7 := Hid.mk (below_more HB6.out hb7)
    clear hb7
    go_wp2_with fail
    refine (HLA.out _).mono ?_
    rintro e w8 ⟨rfl, hb8⟩
    have HB8 := Hid.mk (below_more HB7.out hb8)
    clear hb8
    go_wp2_with fail
    refine (HLB.out _).mono ?_
    rintro e w9 ⟨rfl, hb9⟩
    have HB9 := Hid.mk (below_more HB8.out hb9)
    clear hb9
    go_wp2_with fail
    refine (HLC.out _).mono ?_
    rintro e w10 ⟨rfl, hb10⟩
    have HB10 := Hid.mk (below_more HB9.out hb10)
    clear hb10
    go_wp2_with fail
    go_ret
    exact ⟨by first | rfl | simp, HB10.out⟩
  · rw [← hn] at HL HC1
    clear hn
    have main : ∀ (hcond : i < 0 ∨ (¬ i < 0 ∧ j < i) ∨ (¬ i < 0 ∧ ¬ j < i ∧ (n : Int) < j)), Calls Tryd.prog 6 #[.string s, .int .i64 i, .int .i64 j] w fun e w' => e = .returned (.bool true) ∧ Below w.heap.size w w' := by
      intro hcond
      clear hc
      rcases hcond with q1 | ⟨q1, q2⟩ | ⟨q1, q2, q3⟩
      all_goals
        go_enter Tryd.func6, Tryd.ntmps6
        go_wp2_with fail
        refine (w_fixed _).mono ?_
        rintro e w1 ⟨rfl, hb1⟩
        have HB1 := Hid.mk hb1
        clear hb1
        go_wp2_with fail
        refine (HL.out _).mono ?_
        rintro e w2 ⟨rfl, hb2⟩
        have HB2 := Hid.mk (below_more HB1.out hb2)
        clear hb2
        go_wp2_with fail
        refine (HC1.out _).mono ?_
        rintro e w3 ⟨rfl, hb3⟩
        have HB3 := Hid.mk (below_more HB2.out hb3)
        clear hb3
        go_wp2_with fail
        refine (HC2.out _).mono ?_
        rintro e w4 ⟨rfl, hb4⟩
        have HB4 := Hid.mk (below_more HB3.out hb4)
        clear hb4
        go_wp2_with fail
        go_ret
        exact ⟨rfl, HB4.out⟩
    exact main (by omega)
end Go.Proofs.YtdegoefedkidcacDoor
