import Derived.Test.YtbfjpmbninlbbabGreatDoorM37
import Derived.Deep.RegionWith
namespace Go.Proofs.YtbfjpmbninlbbabGreatDoor
open Go.RowKit
set_option linter.unusedVariables false
set_option linter.unusedSimpArgs false

set_option maxRecDepth 100000 in
set_option maxHeartbeats 6400000 in
theorem ans_10 : AnsOk 10 := by
  intro f t S P ao n cap xs w hS hP hn hxl hI hxr hE
  have HA : Hid (∀ u, Below w.heap.size w u → Calls Tryz.prog 32 #[.string S, .int .i64 f] u fun e w' => e = .returned (.tuple #[.int .i32 ((escZ S f).1 : Int), .int .i64 ((escZ S f).2.1 : Int), .int .i64 ((escZ S f).2.2 : Int)]) ∧ Below u.heap.size u w') := fun u hu => w_Escape_z S f u hS (hE.keep hu)
  have HB := Hid.mk (fun u => w_rEscape_z S f u hS)
  have hlt := escZ_lt S f
  generalize escZ S f = V at HA HB hlt
  obtain ⟨va, vb, vc⟩ := V
  have hlt' : va ≤ 1114111 := hlt
  have HA1 : Hid (∀ u, Below w.heap.size w u → Calls Tryz.prog 32 #[.string S, .int .i64 f] u fun e w' => e = .returned (.tuple #[.int .i32 (va : Int), .int .i64 (vb : Int), .int .i64 (vc : Int)]) ∧ Below u.heap.size u w') := HA.out
  have HB1 : Hid (∀ u, Calls Tryz.prog 33 #[.string S, .int .i64 f] u fun e w' => e = .returned (.tuple #[.int .i64 (va : Int), .int .i64 (vb : Int), .int .i64 (vc : Int)]) ∧ w' = u) := HB.out
  generalize (vb : Int) = B at HA1 HB1
  generalize (vc : Int) = C at HA1 HB1
  have hB : (B == B) = true := by simp
  have hC : (C == C) = true := by simp
  have hA : ((va : Int) == (va : Int)) = true := by simp
  clear HA HB hlt
  have HX := Hid.mk ((obx_new w 10 S P f t ao n cap))
  have hfo := first_or hI
  clear hI hxr hE
  rcases hfo with h0 | ⟨h0, b, off, rfl, hnc, x0, _, hc⟩
  · subst h0
    go_enter Tryz.func5, Tryz.ntmps5
    go_wp2_with fail
    refine (HA1.out _ HX.out.below).mono ?_
    rintro e w2 ⟨rfl, hb2⟩
    have HJ := Hid.mk (HX.out.keep hb2)
    have g1 := HJ.out.c1
    have g3 := HJ.out.c3
    clear hb2
    go_wp2_with fail
    refine (HB1.out _).mono ?_
    rintro e w3 ⟨rfl, hw⟩
    obtain rfl := hw.symm
    go_wp2_with fail
    go_ret
    exact ⟨by first | rfl | simp, HJ.out.below⟩
  · have h1 : (0 : Int) < (n : Int) := by omega
    have hcc := hc (.cells #[.int .i64 10, .string S, .string P, .int .i64 f, .int .i64 t, .slice (some ⟨b, off, none⟩) n cap] 27)
    clear hc
    go_enter Tryz.func5, Tryz.ntmps5
    go_wp2_with fail
    refine (HA1.out _ HX.out.below).mono ?_
    rintro e w2 ⟨rfl, hb2⟩
    have HJ := Hid.mk (HX.out.keep hb2)
    have g1 := HJ.out.c1
    have g3 := HJ.out.c3
    clear hb2
    go_wp2_with fail
    refine (HB1.out _).mono ?_
    rintro e w3 ⟨rfl, hw⟩
    obtain rfl := hw.symm
    go_wp2_with fail
    go_ret
    exact ⟨by first | rfl | simp, HJ.out.below⟩

set_option maxRecDepth 100000 in
set_option maxHeartbeats 6400000 in
theorem ans_11 : AnsOk 11 := by
  intro f t S P ao n cap xs w hS hP hn hxl hI hxr hE
  have HA : Hid (∀ u, Below w.heap.size w u → Calls Tryz.prog 34 #[.string S, .int .i64 f] u fun e w' => e = .returned (.bool true) ∧ Below u.heap.size u w') := fun u hu => w_reads S f u hS (hE.keep hu)
  have HX := Hid.mk ((obx_new w 11 S P f t ao n cap))
  have hfo := first_or hI
  clear hI hxr hE
  rcases hfo with h0 | ⟨h0, b, off, rfl, hnc, x0, _, hc⟩
  · subst h0
    go_enter Tryz.func5, Tryz.ntmps5
    go_wp2_with fail
    refine (HA.out _ HX.out.below).mono ?_
    rintro e w2 ⟨rfl, hb2⟩
    have HJ := Hid.mk (HX.out.keep hb2)
    clear hb2
    go_wp2_with fail
    go_ret
    exact ⟨by first | rfl | simp, HJ.out.below⟩
  · have h1 : (0 : Int) < (n : Int) := by omega
    have hcc := hc (.cells #[.int .i64 11, .string S, .string P, .int .i64 f, .int .i64 t, .slice (some ⟨b, off, none⟩) n cap] 27)
    clear hc
    go_enter Tryz.func5, Tryz.ntmps5
    go_wp2_with fail
    refine (HA.out _ HX.out.below).mono ?_
    rintro e w2 ⟨rfl, hb2⟩
    have HJ := Hid.mk (HX.out.keep hb2)
    clear hb2
    go_wp2_with fail
    go_ret
    exact ⟨by first | rfl | simp, HJ.out.below⟩

set_option maxRecDepth 100000 in
set_option maxHeartbeats 6400000 in
theorem ans_3 : AnsOk 3 := by
  intro f t S P ao n cap xs w hS hP hn hxl hI hxr hE
  have HNu : Hid (∀ u, Below w.heap.size w u → Calls Tryz.prog 16 #[.slice ao n cap] u fun e w' => ∃ so' sc, e = .returned (.slice so' n sc) ∧ Hid (Ints .i64 w' (.slice so' n sc) xs) ∧ Below u.heap.size u w') := by
    intro u hu
    have := w_numbers _ _ u (hI.keep hu) hxr (by omega)
    unfold ListR at this
    rw [hxl] at this
    exact this
  have HTx : Hid (∀ {v : Value} {u : World}, Ints .i64 u v xs → Calls Tryz.prog 18 #[v] u fun e w' => e = .returned (.string ⟨(rtxt xs).toArray⟩) ∧ Below u.heap.size u w') := fun h => w_refText _ _ _ h (by omega)
  have HTw : Hid (∀ u, Below w.heap.size w u → Calls Tryz.prog 20 #[.slice ao n cap] u fun e w' => ∃ g cap', e = .returned (.slice (some ⟨g, 0, none⟩) n cap') ∧ Hid (Head .i32 w' g n cap' xs) ∧ Below u.heap.size u w') := fun u hu => w_twin _ xs n u (hI.keep hu) hxl (by omega)
  have HUT : Hid (∀ {g cap' : Nat} {u : World}, Head .i32 u g n cap' xs → Calls Tryz.prog 19 #[.slice (some ⟨g, 0, none⟩) n cap'] u fun e w' => e = .returned (.string ⟨(rtxt xs).toArray⟩) ∧ w' = u) := fun {g cap' u} h => w_Text g n cap' xs u h.1 (fun j hj => h.2.2.2 j (by rw [← h.1]; exact hj))
  generalize (ByteArray.mk (rtxt xs).toArray) = V at HTx HUT
  have hV : (V.toList == V.toList) = true := by simp
  clear hxl
  have HX := Hid.mk ((obx_new w 3 S P f t ao n cap))
  have hfo := first_or hI
  clear hI hxr hE
  rcases hfo with h0 | ⟨h0, b, off, rfl, hnc, x0, _, hc⟩
  · subst h0
    go_enter Tryz.func5, Tryz.ntmps5
    go_wp2_with fail
    refine (HNu.out _ HX.out.below).mono ?_
    rintro e w2 ⟨so, sc, rfl, HI2, hb2⟩
    have HJ := Hid.mk (HX.out.keep hb2)
    have HT1 := Hid.mk (HTx.out HI2.out)
    clear hb2
    go_wp2_with fail
    refine HT1.out.mono ?_
    rintro e w3 ⟨rfl, hb3⟩
    have HK := Hid.mk (HJ.out.keep hb3)
    have g5 := HK.out.c5
    clear hb3 HT1
    go_wp2_with fail
    refine (HTw.out _ HK.out.below).mono ?_
    rintro e w4 ⟨g, cap', rfl, HH, hb4⟩
    have HL := Hid.mk (HK.out.keep hb4)
    have HU1 := Hid.mk (HUT.out HH.out)
    clear hb4 g5
    go_wp2_with fail
    refine HU1.out.mono ?_
    rintro e w5 ⟨rfl, hw⟩
    obtain rfl := hw.symm
    go_wp2_with fail
    go_ret
    exact ⟨by first | rfl | simp, HL.out.below⟩
  · have h1 : (0 : Int) < (n : Int) := by omega
    have hcc := hc (.cells #[.int .i64 3, .string S, .string P, .int .i64 f, .int .i64 t, .slice (some ⟨b, off, none⟩) n cap] 27)
    clear hc
    go_enter Tryz.func5, Tryz.ntmps5
    go_wp2_with fail
    refine (HNu.out _ HX.out.below).mono ?_
    rintro e w2 ⟨so, sc, rfl, HI2, hb2⟩
    have HJ := Hid.mk (HX.out.keep hb2)
    have HT1 := Hid.mk (HTx.out HI2.out)
    clear hb2
    go_wp2_with fail
    refine HT1.out.mono ?_
    rintro e w3 ⟨rfl, hb3⟩
    have HK := Hid.mk (HJ.out.keep hb3)
    have g5 := HK.out.c5
    clear hb3 HT1
    go_wp2_with fail
    refine (HTw.out _ HK.out.below).mono ?_
    rintro e w4 ⟨g, cap', rfl, HH, hb4⟩
    have HL := Hid.mk (HK.out.keep hb4)
    have HU1 := Hid.mk (HUT.out HH.out)
    clear hb4 g5
    go_wp2_with fail
    refine HU1.out.mono ?_
    rintro e w5 ⟨rfl, hw⟩
    obtain rfl := hw.symm
    go_wp2_with fail
    go_ret
    exact ⟨by first | rfl | simp, HL.out.below⟩

end Go.Proofs.YtbfjpmbninlbbabGreatDoor
