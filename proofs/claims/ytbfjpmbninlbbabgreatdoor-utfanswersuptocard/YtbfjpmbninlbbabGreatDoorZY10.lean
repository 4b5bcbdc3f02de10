import Derived.Test.YtbfjpmbninlbbabGreatDoorM37
import Derived.Deep.RegionWith
namespace Go.Proofs.YtbfjpmbninlbbabGreatDoor
open Go.RowKit
set_option linter.unusedVariables false
set_option linter.unusedSimpArgs false

set_option maxRecDepth 100000 in
set_option maxHeartbeats 6400000 in
theorem ans_2 : AnsOk 2 := by
  intro f t S P ao n cap xs w hS hP hn hxl hI hxr hE
  have hrl := runes_len_le S.data.toList
  rw [size_len] at hrl
  have hR := runes_isR S.data.toList
  obtain ⟨m, hm⟩ : ∃ m, (runes S.data.toList).length = m := ⟨_, rfl⟩
  have HRu := Hid.mk (fun u => w_Runes2 S _ m u rfl hm (by omega))
  have HrR := Hid.mk (fun u => w_rRunes S u (by omega))
  unfold ListR at HrR
  rw [toI_len, hm] at HrR
  have HNum : Hid (∀ (v : Value) (u : World), Ints .i32 u v (toI (runes S.data.toList)) → Calls Tryz.prog 16 #[v] u fun e w' => ∃ so' sc, e = .returned (.slice so' m sc) ∧ Hid (Ints .i64 w' (.slice so' m sc) (toI (runes S.data.toList))) ∧ Below u.heap.size u w') := by
    intro v u h
    have := w_numbers v _ u h (fun i _ => toI_range _ hR i) (by rw [toI_len]; omega)
    unfold ListR at this
    rw [toI_len, hm] at this
    exact this
  have HAl : Hid (∀ {va vb : Value} {u : World}, Ints .i64 u va (toI (runes S.data.toList)) → Ints .i64 u vb (toI (runes S.data.toList)) → Calls Tryz.prog 15 #[va, vb] u fun e w' => e = .returned (.bool true) ∧ Below u.heap.size u w') := fun h1 h2 => w_alike _ _ _ _ h1 h2 (by rw [toI_len]; omega)
  clear hm hR
  generalize toI (runes S.data.toList) = Z at HRu HrR HNum HAl
  have HX := Hid.mk (obx_new w 2 S P f t ao n cap)
  have hfo := first_or hI
  clear hI hE
  rcases hfo with h0 | ⟨h0, b, off, rfl, hnc, x0, hx0, hc⟩
  · subst h0
    clear hxr hxl
    go_enter Tryz.func5, Tryz.ntmps5
    go_wp2_with fail
    refine (HRu.out _).mono ?_
    rintro e w2 ⟨g, cap2, rfl, HH2, hb2⟩
    have HX2 := Hid.mk ((HX.out.keep hb2).drew)
    have HBd : Hid (Below w2.heap.size w2 w2.drew) := (Below.refl _ _).drew
    have HNu : Hid (∀ u, Below w2.heap.size w2 u → Calls Tryz.prog 16 #[.slice (some ⟨g, 0, none⟩) m cap2] u fun e w' => ∃ so' sc, e = .returned (.slice so' m sc) ∧ Hid (Ints .i64 w' (.slice so' m sc) Z) ∧ Below u.heap.size u w') := fun u hu => HNum.out _ _ (HH2.out.ints.keep hu)
    have g1 := HX2.out.c1
    clear hb2
    go_wp2_with fail
    go_region_with (first | (go_at_call 15; refine (HAl.out HXx.out HYy.out).mono ?_; rintro e w5 ⟨rfl, hb5⟩; have HL := Hid.mk (HK.out.keep hb5); clear hb5) | (go_at_call 16; refine (HNu.out _ HBj.out).mono ?_; rintro e w4 ⟨so, sc, rfl, HIn, hb4⟩; have HK := Hid.mk (HJ.out.keep hb4); have HYy := Hid.mk (HRr.out.keep hb4); have HXx := HIn; clear hb4) | (go_at_call 17; refine (HrR.out _).mono ?_; rintro e w4 ⟨so', sc', rfl, HRr, hb4⟩; have HK := Hid.mk (HJ.out.keep hb4); have HXx := Hid.mk (HIn.out.keep hb4); have HYy := HRr; clear hb4) | (go_at_call 16; refine (HNu.out _ HBd.out).mono ?_; rintro e w3 ⟨so, sc, rfl, HIn, hb3⟩; have HJ := Hid.mk (HX2.out.keep hb3); have g1 := HJ.out.c1; clear hb3) | (go_at_call 17; refine (HrR.out _).mono ?_; rintro e w3 ⟨so', sc', rfl, HRr, hb3⟩; have HJ := Hid.mk (HX2.out.keep hb3); have HBj := Hid.mk (HBd.out.trans hb3); have g1 := HJ.out.c1; clear hb3))
    all_goals go_wp2_with fail
    all_goals go_ret
    all_goals exact ⟨by first | rfl | simp, HL.out.below⟩
  · have h1 : (0 : Int) < (n : Int) := by omega
    have hcc := hc (.cells #[.int .i64 2, .string S, .string P, .int .i64 f, .int .i64 t, .slice (some ⟨b, off, none⟩) n cap] 27)
    have hxb := hxr 0 (by omega)
    rw [hx0] at hxb
    obtain ⟨hxb1, hxb2⟩ := hxb
    clear hc hxr hxl hx0
    go_enter Tryz.func5, Tryz.ntmps5
    go_wp2_with fail
    refine (HRu.out _).mono ?_
    rintro e w2 ⟨g, cap2, rfl, HH2, hb2⟩
    have HX2 := Hid.mk ((HX.out.keep hb2).drew)
    have HBd : Hid (Below w2.heap.size w2 w2.drew) := (Below.refl _ _).drew
    have HNu : Hid (∀ u, Below w2.heap.size w2 u → Calls Tryz.prog 16 #[.slice (some ⟨g, 0, none⟩) m cap2] u fun e w' => ∃ so' sc, e = .returned (.slice so' m sc) ∧ Hid (Ints .i64 w' (.slice so' m sc) Z) ∧ Below u.heap.size u w') := fun u hu => HNum.out _ _ (HH2.out.ints.keep hu)
    have g1 := HX2.out.c1
    clear hb2
    go_wp2_with fail
    go_region_with (first | (go_at_call 15; refine (HAl.out HXx.out HYy.out).mono ?_; rintro e w5 ⟨rfl, hb5⟩; have HL := Hid.mk (HK.out.keep hb5); clear hb5) | (go_at_call 16; refine (HNu.out _ HBj.out).mono ?_; rintro e w4 ⟨so, sc, rfl, HIn, hb4⟩; have HK := Hid.mk (HJ.out.keep hb4); have HYy := Hid.mk (HRr.out.keep hb4); have HXx := HIn; clear hb4) | (go_at_call 17; refine (HrR.out _).mono ?_; rintro e w4 ⟨so', sc', rfl, HRr, hb4⟩; have HK := Hid.mk (HJ.out.keep hb4); have HXx := Hid.mk (HIn.out.keep hb4); have HYy := HRr; clear hb4) | (go_at_call 16; refine (HNu.out _ HBd.out).mono ?_; rintro e w3 ⟨so, sc, rfl, HIn, hb3⟩; have HJ := Hid.mk (HX2.out.keep hb3); have g1 := HJ.out.c1; clear hb3) | (go_at_call 17; refine (HrR.out _).mono ?_; rintro e w3 ⟨so', sc', rfl, HRr, hb3⟩; have HJ := Hid.mk (HX2.out.keep hb3); have HBj := Hid.mk (HBd.out.trans hb3); have g1 := HJ.out.c1; clear hb3))
    all_goals go_wp2_with fail
    all_goals go_ret
    all_goals exact ⟨by first | rfl | simp, HL.out.below⟩

set_option maxRecDepth 100000 in
set_option maxHeartbeats 6400000 in
theorem ans_else (k : Int) (h0x : k ≠ 0) (h1x : k ≠ 1) (h2x : k ≠ 2) (h3x : k ≠ 3) (h4x : k ≠ 4) (h5x : k ≠ 5) (h6x : k ≠ 6) (h7x : k ≠ 7) (h8x : k ≠ 8) (h9x : k ≠ 9) (h10x : k ≠ 10) (h11x : k ≠ 11) : AnsOk k := by
  intro f t S P ao n cap xs w hS hP hn hxl hI hxr hE
  have e0 : (k == 0) = false := by rw [beq_eq_false_iff_ne]; exact h0x
  have e1 : (k == 1) = false := by rw [beq_eq_false_iff_ne]; exact h1x
  have e2 : (k == 2) = false := by rw [beq_eq_false_iff_ne]; exact h2x
  have e3 : (k == 3) = false := by rw [beq_eq_false_iff_ne]; exact h3x
  have e4 : (k == 4) = false := by rw [beq_eq_false_iff_ne]; exact h4x
  have e5 : (k == 5) = false := by rw [beq_eq_false_iff_ne]; exact h5x
  have e6 : (k == 6) = false := by rw [beq_eq_false_iff_ne]; exact h6x
  have e7 : (k == 7) = false := by rw [beq_eq_false_iff_ne]; exact h7x
  have e8 : (k == 8) = false := by rw [beq_eq_false_iff_ne]; exact h8x
  have e9 : (k == 9) = false := by rw [beq_eq_false_iff_ne]; exact h9x
  have e10 : (k == 10) = false := by rw [beq_eq_false_iff_ne]; exact h10x
  have e11 : (k == 11) = false := by rw [beq_eq_false_iff_ne]; exact h11x
  clear h0x h1x h2x h3x h4x h5x h6x h7x h8x h9x h10x h11x
  have HA := Hid.mk (fun (z : Int) u => w_Escaped z u)
  have HB := Hid.mk (fun (z : Int) u => w_rEscaped z u)
  have HX := Hid.mk (obx_new w k S P f t ao n cap)
  have hfo := first_or hI
  clear hI hE
  rcases hfo with h0 | ⟨h0, b, off, rfl, hnc, x0, hx0, hc⟩
  · subst h0
    clear hxr hxl
    go_enter Tryz.func5, Tryz.ntmps5
    go_wp2_with fail
    refine (HA.out 0 _).mono ?_
    rintro e w2 ⟨rfl, hb2⟩
    have HJ := Hid.mk (HX.out.keep hb2)
    clear hb2
    go_wp2_with fail
    refine (HB.out 0 _).mono ?_
    rintro e w3 ⟨rfl, hb3⟩
    have HK := Hid.mk (HJ.out.keep hb3)
    clear hb3
    generalize (ByteArray.mk (esc (rn 0)).toArray) = V
    go_wp2_with fail
    go_ret
    exact ⟨by first | rfl | simp, HK.out.below⟩
  · have h1 : (0 : Int) < (n : Int) := by omega
    have hcc := hc (.cells #[.int .i64 k, .string S, .string P, .int .i64 f, .int .i64 t, .slice (some ⟨b, off, none⟩) n cap] 27)
    have hxb := hxr 0 (by omega)
    rw [hx0] at hxb
    obtain ⟨hxb1, hxb2⟩ := hxb
    clear hc hxr hxl hx0
    go_enter Tryz.func5, Tryz.ntmps5
    go_wp2_with fail
    refine (HA.out x0 _).mono ?_
    rintro e w2 ⟨rfl, hb2⟩
    have HJ := Hid.mk (HX.out.keep hb2)
    clear hb2
    go_wp2_with fail
    refine (HB.out x0 _).mono ?_
    rintro e w3 ⟨rfl, hb3⟩
    have HK := Hid.mk (HJ.out.keep hb3)
    clear hb3
    generalize (ByteArray.mk (esc (rn x0)).toArray) = V
    go_wp2_with fail
    go_ret
    exact ⟨by first | rfl | simp, HK.out.below⟩

end Go.Proofs.YtbfjpmbninlbbabGreatDoor
