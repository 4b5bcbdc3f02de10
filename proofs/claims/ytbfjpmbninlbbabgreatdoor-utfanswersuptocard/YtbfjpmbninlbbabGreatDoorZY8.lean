import Derived.Test.YtbfjpmbninlbbabGreatDoorM37
import Derived.Deep.RegionWith
namespace Go.Proofs.YtbfjpmbninlbbabGreatDoor
open Go.RowKit
set_option linter.unusedVariables false
set_option linter.unusedSimpArgs false

set_option maxRecDepth 100000 in
set_option maxHeartbeats 6400000 in
theorem ans_5 : AnsOk 5 := by
  intro f t S P ao n cap xs w hS hP hn hxl hI hxr hE
  have HA := Hid.mk (fun u => w_Find S P u (by omega))
  have HB := Hid.mk (fun u => w_rFind S P u hS hP)
  have hlf := fnd_len S.data.toList (plcs S P) (runes S.data.toList).length
  have hrl := runes_len_le S.data.toList
  rw [size_len] at hrl
  have hL : (natI (fnd S.data.toList (plcs S P) (runes S.data.toList).length)).length = (fnd S.data.toList (plcs S P) (runes S.data.toList).length).length := by simp [natI]
  have HAl : Hid (∀ {va vb : Value} {u : World}, Ints .i64 u va (natI (fnd S.data.toList (plcs S P) (runes S.data.toList).length)) → Ints .i64 u vb (natI (fnd S.data.toList (plcs S P) (runes S.data.toList).length)) → Calls Tryz.prog 15 #[va, vb] u fun e w' => e = .returned (.bool true) ∧ Below u.heap.size u w') := fun h1 h2 => w_alike _ _ _ _ h1 h2 (by omega)
  clear hL hlf hrl
  generalize natI (fnd S.data.toList (plcs S P) (runes S.data.toList).length) = V at HA HB HAl
  generalize (fnd S.data.toList (plcs S P) (runes S.data.toList).length).length = m at HA HB
  have HX := Hid.mk ((obx_new w 5 S P f t ao n cap))
  have hfo := first_or hI
  clear hI hxr hE
  rcases hfo with h0 | ⟨h0, b, off, rfl, hnc, x0, _, hc⟩
  · subst h0
    go_enter Tryz.func5, Tryz.ntmps5
    go_wp2_with fail
    refine (HA.out _).mono ?_
    rintro e w2 ⟨so, sc, n2, rfl, HR2, hb2⟩
    have HJ := Hid.mk (HX.out.keep hb2)
    have g1 := HJ.out.c1
    have g2 := HJ.out.c2
    clear hb2
    go_wp2_with fail
    refine (HB.out _).mono ?_
    rintro e w3 ⟨so', sc', n3, rfl, HR3, hb3⟩
    have HK := Hid.mk (HJ.out.keep hb3)
    have HAl1 := Hid.mk (HAl.out (HR2.out.2.keep hb3) HR3.out.2)
    clear hb3 g1 g2
    go_wp2_with fail
    refine HAl1.out.mono ?_
    rintro e w4 ⟨rfl, hb4⟩
    have HL := Hid.mk (HK.out.keep hb4)
    clear hb4
    go_wp2_with fail
    go_ret
    exact ⟨by first | rfl | simp, HL.out.below⟩
  · have h1 : (0 : Int) < (n : Int) := by omega
    have hcc := hc (.cells #[.int .i64 5, .string S, .string P, .int .i64 f, .int .i64 t, .slice (some ⟨b, off, none⟩) n cap] 27)
    clear hc
    go_enter Tryz.func5, Tryz.ntmps5
    go_wp2_with fail
    refine (HA.out _).mono ?_
    rintro e w2 ⟨so, sc, n2, rfl, HR2, hb2⟩
    have HJ := Hid.mk (HX.out.keep hb2)
    have g1 := HJ.out.c1
    have g2 := HJ.out.c2
    clear hb2
    go_wp2_with fail
    refine (HB.out _).mono ?_
    rintro e w3 ⟨so', sc', n3, rfl, HR3, hb3⟩
    have HK := Hid.mk (HJ.out.keep hb3)
    have HAl1 := Hid.mk (HAl.out (HR2.out.2.keep hb3) HR3.out.2)
    clear hb3 g1 g2
    go_wp2_with fail
    refine HAl1.out.mono ?_
    rintro e w4 ⟨rfl, hb4⟩
    have HL := Hid.mk (HK.out.keep hb4)
    clear hb4
    go_wp2_with fail
    go_ret
    exact ⟨by first | rfl | simp, HL.out.below⟩

set_option maxRecDepth 100000 in
set_option maxHeartbeats 6400000 in
theorem ans_6 : AnsOk 6 := by
  intro f t S P ao n cap xs w hS hP hn hxl hI hxr hE
  have HA := Hid.mk (fun u => w_uSplit S P hS u)
  have HB := Hid.mk (fun u => w_rSplit S P hS hP u)
  have hfew := spL_few S P
  unfold SplR at HA HB
  generalize spL S P = L at HA HB hfew
  have HAl : Hid (∀ {va vb : Value} {u : World}, Txs u va L → Txs u vb L → Calls Tryz.prog 25 #[va, vb] u fun e w' => e = .returned (.bool true) ∧ Below u.heap.size u w') := fun h1 h2 => w_alikeTexts _ _ _ _ h1 h2 (by omega)
  clear hfew
  have HX := Hid.mk ((obx_new w 6 S P f t ao n cap))
  have hfo := first_or hI
  clear hI hxr hE
  rcases hfo with h0 | ⟨h0, b, off, rfl, hnc, x0, _, hc⟩
  · subst h0
    go_enter Tryz.func5, Tryz.ntmps5
    go_wp2_with fail
    refine (HA.out _).mono ?_
    rintro e w2 ⟨so, sc, n2, rfl, hn2, HO2, hb2⟩
    have HT2 := Hid.mk (Txs.of HO2.out hn2)
    have HJ := Hid.mk (HX.out.keep hb2)
    have g1 := HJ.out.c1
    have g2 := HJ.out.c2
    clear hb2 hn2 HO2
    go_wp2_with fail
    refine (HB.out _).mono ?_
    rintro e w3 ⟨so', sc', n3, rfl, hn3, HO3, hb3⟩
    have HK := Hid.mk (HJ.out.keep hb3)
    have HAl1 := Hid.mk (HAl.out (HT2.out.keep hb3) (Txs.of HO3.out hn3))
    clear hb3 g1 g2 hn3 HO3 HT2
    go_wp2_with fail
    refine HAl1.out.mono ?_
    rintro e w4 ⟨rfl, hb4⟩
    have HL := Hid.mk (HK.out.keep hb4)
    clear hb4
    go_wp2_with fail
    go_ret
    exact ⟨by first | rfl | simp, HL.out.below⟩
  · have h1 : (0 : Int) < (n : Int) := by omega
    have hcc := hc (.cells #[.int .i64 6, .string S, .string P, .int .i64 f, .int .i64 t, .slice (some ⟨b, off, none⟩) n cap] 27)
    clear hc
    go_enter Tryz.func5, Tryz.ntmps5
    go_wp2_with fail
    refine (HA.out _).mono ?_
    rintro e w2 ⟨so, sc, n2, rfl, hn2, HO2, hb2⟩
    have HT2 := Hid.mk (Txs.of HO2.out hn2)
    have HJ := Hid.mk (HX.out.keep hb2)
    have g1 := HJ.out.c1
    have g2 := HJ.out.c2
    clear hb2 hn2 HO2
    go_wp2_with fail
    refine (HB.out _).mono ?_
    rintro e w3 ⟨so', sc', n3, rfl, hn3, HO3, hb3⟩
    have HK := Hid.mk (HJ.out.keep hb3)
    have HAl1 := Hid.mk (HAl.out (HT2.out.keep hb3) (Txs.of HO3.out hn3))
    clear hb3 g1 g2 hn3 HO3 HT2
    go_wp2_with fail
    refine HAl1.out.mono ?_
    rintro e w4 ⟨rfl, hb4⟩
    have HL := Hid.mk (HK.out.keep hb4)
    clear hb4
    go_wp2_with fail
    go_ret
    exact ⟨by first | rfl | simp, HL.out.below⟩

end Go.Proofs.YtbfjpmbninlbbabGreatDoor
