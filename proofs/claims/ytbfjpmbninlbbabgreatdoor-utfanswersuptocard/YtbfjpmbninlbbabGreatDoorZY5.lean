import Derived.Test.YtbfjpmbninlbbabGreatDoorM37
import Derived.Deep.RegionWith
namespace Go.Proofs.YtbfjpmbninlbbabGreatDoor
open Go.RowKit
set_option linter.unusedVariables false
set_option linter.unusedSimpArgs false

set_option maxRecDepth 100000 in
set_option maxHeartbeats 6400000 in
theorem ans_0 : AnsOk 0 := by
  intro f t S P ao n cap xs w hS hP hn hxl hI hxr hE
  have HA := Hid.mk (fun u => w_Valid S u (by omega))
  have HB := Hid.mk (fun u => w_rValid S u hS)
  generalize okB S.data.toList = V at HA HB
  have HX := Hid.mk ((obx_new w 0 S P f t ao n cap).drew)
  have hfo := first_or hI
  clear hI hxr hE hxl
  rcases hfo with h0 | ⟨h0, b, off, rfl, hnc, x0, _, hc⟩
  · subst h0
    go_enter Tryz.func5, Tryz.ntmps5
    go_wp2_with fail
    go_region_with (first | (go_at_call 7; refine (HA.out _).mono ?_; rintro e w3 ⟨rfl, hb3⟩; have HK := Hid.mk (HJ.out.keep hb3); clear hb3) | (go_at_call 12; refine (HB.out _).mono ?_; rintro e w3 ⟨rfl, hb3⟩; have HK := Hid.mk (HJ.out.keep hb3); clear hb3) | (go_at_call 7; refine (HA.out _).mono ?_; rintro e w2 ⟨rfl, hb2⟩; have HJ := Hid.mk (HX.out.keep hb2); clear hb2; have g1 := HJ.out.c1; have g3 := HJ.out.c3; have g4 := HJ.out.c4) | (go_at_call 12; refine (HB.out _).mono ?_; rintro e w2 ⟨rfl, hb2⟩; have HJ := Hid.mk (HX.out.keep hb2); clear hb2; have g1 := HJ.out.c1; have g3 := HJ.out.c3; have g4 := HJ.out.c4))
    all_goals go_wp2_with fail
    all_goals go_ret
    all_goals exact ⟨by first | rfl | simp, HK.out.below⟩
  · have h1 : (0 : Int) < (n : Int) := by omega
    have hcc := hc (.cells #[.int .i64 0, .string S, .string P, .int .i64 f, .int .i64 t, .slice (some ⟨b, off, none⟩) n cap] 27)
    clear hc
    go_enter Tryz.func5, Tryz.ntmps5
    go_wp2_with fail
    go_region_with (first | (go_at_call 7; refine (HA.out _).mono ?_; rintro e w3 ⟨rfl, hb3⟩; have HK := Hid.mk (HJ.out.keep hb3); clear hb3) | (go_at_call 12; refine (HB.out _).mono ?_; rintro e w3 ⟨rfl, hb3⟩; have HK := Hid.mk (HJ.out.keep hb3); clear hb3) | (go_at_call 7; refine (HA.out _).mono ?_; rintro e w2 ⟨rfl, hb2⟩; have HJ := Hid.mk (HX.out.keep hb2); clear hb2; have g1 := HJ.out.c1; have g3 := HJ.out.c3; have g4 := HJ.out.c4) | (go_at_call 12; refine (HB.out _).mono ?_; rintro e w2 ⟨rfl, hb2⟩; have HJ := Hid.mk (HX.out.keep hb2); clear hb2; have g1 := HJ.out.c1; have g3 := HJ.out.c3; have g4 := HJ.out.c4))
    all_goals go_wp2_with fail
    all_goals go_ret
    all_goals exact ⟨by first | rfl | simp, HK.out.below⟩

set_option maxRecDepth 100000 in
set_option maxHeartbeats 6400000 in
theorem ans_1 : AnsOk 1 := by
  intro f t S P ao n cap xs w hS hP hn hxl hI hxr hE
  have HA := Hid.mk (fun u => w_Len S u (by omega))
  have HB := Hid.mk (fun u => w_rLen S u hS)
  generalize (runes S.data.toList).length = V at HA HB
  have HX := Hid.mk ((obx_new w 1 S P f t ao n cap).drew)
  have hfo := first_or hI
  clear hI hxr hE hxl
  rcases hfo with h0 | ⟨h0, b, off, rfl, hnc, x0, _, hc⟩
  · subst h0
    go_enter Tryz.func5, Tryz.ntmps5
    go_wp2_with fail
    go_region_with (first | (go_at_call 8; refine (HA.out _).mono ?_; rintro e w3 ⟨rfl, hb3⟩; have HK := Hid.mk (HJ.out.keep hb3); clear hb3) | (go_at_call 13; refine (HB.out _).mono ?_; rintro e w3 ⟨rfl, hb3⟩; have HK := Hid.mk (HJ.out.keep hb3); clear hb3) | (go_at_call 8; refine (HA.out _).mono ?_; rintro e w2 ⟨rfl, hb2⟩; have HJ := Hid.mk (HX.out.keep hb2); clear hb2; have g1 := HJ.out.c1; have g3 := HJ.out.c3; have g4 := HJ.out.c4) | (go_at_call 13; refine (HB.out _).mono ?_; rintro e w2 ⟨rfl, hb2⟩; have HJ := Hid.mk (HX.out.keep hb2); clear hb2; have g1 := HJ.out.c1; have g3 := HJ.out.c3; have g4 := HJ.out.c4))
    all_goals go_wp2_with fail
    all_goals go_ret
    all_goals exact ⟨by first | rfl | simp, HK.out.below⟩
  · have h1 : (0 : Int) < (n : Int) := by omega
    have hcc := hc (.cells #[.int .i64 1, .string S, .string P, .int .i64 f, .int .i64 t, .slice (some ⟨b, off, none⟩) n cap] 27)
    clear hc
    go_enter Tryz.func5, Tryz.ntmps5
    go_wp2_with fail
    go_region_with (first | (go_at_call 8; refine (HA.out _).mono ?_; rintro e w3 ⟨rfl, hb3⟩; have HK := Hid.mk (HJ.out.keep hb3); clear hb3) | (go_at_call 13; refine (HB.out _).mono ?_; rintro e w3 ⟨rfl, hb3⟩; have HK := Hid.mk (HJ.out.keep hb3); clear hb3) | (go_at_call 8; refine (HA.out _).mono ?_; rintro e w2 ⟨rfl, hb2⟩; have HJ := Hid.mk (HX.out.keep hb2); clear hb2; have g1 := HJ.out.c1; have g3 := HJ.out.c3; have g4 := HJ.out.c4) | (go_at_call 13; refine (HB.out _).mono ?_; rintro e w2 ⟨rfl, hb2⟩; have HJ := Hid.mk (HX.out.keep hb2); clear hb2; have g1 := HJ.out.c1; have g3 := HJ.out.c3; have g4 := HJ.out.c4))
    all_goals go_wp2_with fail
    all_goals go_ret
    all_goals exact ⟨by first | rfl | simp, HK.out.below⟩

end Go.Proofs.YtbfjpmbninlbbabGreatDoor
