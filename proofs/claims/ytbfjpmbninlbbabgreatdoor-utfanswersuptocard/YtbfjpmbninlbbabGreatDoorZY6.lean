import Derived.Test.YtbfjpmbninlbbabGreatDoorM37
import Derived.Deep.RegionWith
import Derived.Deep.RegionHeld3
namespace Go.Proofs.YtbfjpmbninlbbabGreatDoor
open Go.RowKit
set_option linter.unusedVariables false
set_option linter.unusedSimpArgs false

set_option maxRecDepth 100000 in
set_option maxHeartbeats 6400000 in
theorem ans_4 : AnsOk 4 := by
  intro f t S P ao n cap xs w hS hP hn hxl hI hxr hE
  have HA := Hid.mk (fun u => w_Cut S f t u (by omega))
  have HB := Hid.mk (fun u => w_rCut S f t u hS)
  generalize cutS S f t = V at HA HB
  have HX := Hid.mk ((obx_new w 4 S P f t ao n cap).drew)
  have hfo := first_or hI
  clear hI hxr hE hxl
  rcases hfo with h0 | ⟨h0, b, off, rfl, hnc, x0, _, hc⟩
  · subst h0
    go_enter Tryz.func5, Tryz.ntmps5
    go_wp2_with fail
    go_region_held3 (fun u => u.cell? ⟨w.heap.size, 1, none⟩ = some (.string S) ∧ u.cell? ⟨w.heap.size, 3, none⟩ = some (.int .i64 f) ∧ u.cell? ⟨w.heap.size, 4, none⟩ = some (.int .i64 t)) (first | exact ⟨HK.out.c1, HK.out.c3, HK.out.c4⟩ | exact ⟨HJ.out.c1, HJ.out.c3, HJ.out.c4⟩ | exact ⟨HX.out.c1, HX.out.c3, HX.out.c4⟩) (first | (go_at_call 11; refine (HA.out _).mono ?_; rintro e w3 ⟨rfl, hb3⟩; have HK := Hid.mk (HJ.out.keep hb3); clear hb3) | (go_at_call 21; refine (HB.out _).mono ?_; rintro e w3 ⟨rfl, hb3⟩; have HK := Hid.mk (HJ.out.keep hb3); clear hb3) | (go_at_call 11; refine (HA.out _).mono ?_; rintro e w2 ⟨rfl, hb2⟩; have HJ := Hid.mk (HX.out.keep hb2); clear hb2) | (go_at_call 21; refine (HB.out _).mono ?_; rintro e w2 ⟨rfl, hb2⟩; have HJ := Hid.mk (HX.out.keep hb2); clear hb2))
    all_goals go_wp2_with fail
    all_goals go_ret
    all_goals exact ⟨by first | rfl | simp, HK.out.below⟩
  · have h1 : (0 : Int) < (n : Int) := by omega
    have hcc := hc (.cells #[.int .i64 4, .string S, .string P, .int .i64 f, .int .i64 t, .slice (some ⟨b, off, none⟩) n cap] 27)
    clear hc
    go_enter Tryz.func5, Tryz.ntmps5
    go_wp2_with fail
    go_region_held3 (fun u => u.cell? ⟨w.heap.size, 1, none⟩ = some (.string S) ∧ u.cell? ⟨w.heap.size, 3, none⟩ = some (.int .i64 f) ∧ u.cell? ⟨w.heap.size, 4, none⟩ = some (.int .i64 t)) (first | exact ⟨HK.out.c1, HK.out.c3, HK.out.c4⟩ | exact ⟨HJ.out.c1, HJ.out.c3, HJ.out.c4⟩ | exact ⟨HX.out.c1, HX.out.c3, HX.out.c4⟩) (first | (go_at_call 11; refine (HA.out _).mono ?_; rintro e w3 ⟨rfl, hb3⟩; have HK := Hid.mk (HJ.out.keep hb3); clear hb3) | (go_at_call 21; refine (HB.out _).mono ?_; rintro e w3 ⟨rfl, hb3⟩; have HK := Hid.mk (HJ.out.keep hb3); clear hb3) | (go_at_call 11; refine (HA.out _).mono ?_; rintro e w2 ⟨rfl, hb2⟩; have HJ := Hid.mk (HX.out.keep hb2); clear hb2) | (go_at_call 21; refine (HB.out _).mono ?_; rintro e w2 ⟨rfl, hb2⟩; have HJ := Hid.mk (HX.out.keep hb2); clear hb2))
    all_goals go_wp2_with fail
    all_goals go_ret
    all_goals exact ⟨by first | rfl | simp, HK.out.below⟩

set_option maxRecDepth 100000 in
set_option maxHeartbeats 6400000 in
theorem ans_7 : AnsOk 7 := by
  intro f t S P ao n cap xs w hS hP hn hxl hI hxr hE
  have HA := Hid.mk (fun u => w_Lower S u (by omega))
  have HB := Hid.mk (fun u => w_rLower S u hS)
  generalize low S = V at HA HB
  have HX := Hid.mk ((obx_new w 7 S P f t ao n cap).drew)
  have hfo := first_or hI
  clear hI hxr hE hxl
  rcases hfo with h0 | ⟨h0, b, off, rfl, hnc, x0, _, hc⟩
  · subst h0
    go_enter Tryz.func5, Tryz.ntmps5
    go_wp2_with fail
    go_region_with (first | (go_at_call 27; refine (HA.out _).mono ?_; rintro e w3 ⟨rfl, hb3⟩; have HK := Hid.mk (HJ.out.keep hb3); clear hb3) | (go_at_call 28; refine (HB.out _).mono ?_; rintro e w3 ⟨rfl, hb3⟩; have HK := Hid.mk (HJ.out.keep hb3); clear hb3) | (go_at_call 27; refine (HA.out _).mono ?_; rintro e w2 ⟨rfl, hb2⟩; have HJ := Hid.mk (HX.out.keep hb2); clear hb2; have g1 := HJ.out.c1; have g3 := HJ.out.c3; have g4 := HJ.out.c4) | (go_at_call 28; refine (HB.out _).mono ?_; rintro e w2 ⟨rfl, hb2⟩; have HJ := Hid.mk (HX.out.keep hb2); clear hb2; have g1 := HJ.out.c1; have g3 := HJ.out.c3; have g4 := HJ.out.c4))
    all_goals go_wp2_with fail
    all_goals go_ret
    all_goals exact ⟨by first | rfl | simp, HK.out.below⟩
  · have h1 : (0 : Int) < (n : Int) := by omega
    have hcc := hc (.cells #[.int .i64 7, .string S, .string P, .int .i64 f, .int .i64 t, .slice (some ⟨b, off, none⟩) n cap] 27)
    clear hc
    go_enter Tryz.func5, Tryz.ntmps5
    go_wp2_with fail
    go_region_with (first | (go_at_call 27; refine (HA.out _).mono ?_; rintro e w3 ⟨rfl, hb3⟩; have HK := Hid.mk (HJ.out.keep hb3); clear hb3) | (go_at_call 28; refine (HB.out _).mono ?_; rintro e w3 ⟨rfl, hb3⟩; have HK := Hid.mk (HJ.out.keep hb3); clear hb3) | (go_at_call 27; refine (HA.out _).mono ?_; rintro e w2 ⟨rfl, hb2⟩; have HJ := Hid.mk (HX.out.keep hb2); clear hb2; have g1 := HJ.out.c1; have g3 := HJ.out.c3; have g4 := HJ.out.c4) | (go_at_call 28; refine (HB.out _).mono ?_; rintro e w2 ⟨rfl, hb2⟩; have HJ := Hid.mk (HX.out.keep hb2); clear hb2; have g1 := HJ.out.c1; have g3 := HJ.out.c3; have g4 := HJ.out.c4))
    all_goals go_wp2_with fail
    all_goals go_ret
    all_goals exact ⟨by first | rfl | simp, HK.out.below⟩

end Go.Proofs.YtbfjpmbninlbbabGreatDoor
