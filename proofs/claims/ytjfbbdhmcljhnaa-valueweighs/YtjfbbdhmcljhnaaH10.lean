import Derived.Test.YtjfbbdhmcljhnaaH9
import Derived.Test.YtjfbbdhmcljhnaaE9z
import Derived.Deep.RegionHeld3
namespace Go.Proofs.Ytjfbbdhmcljhnaa
open Go.RowKit
set_option linter.unusedVariables false
set_option linter.unusedSimpArgs false

set_option maxRecDepth 100000 in
set_option maxHeartbeats 3200000 in
theorem w_ValueWeighs (h : Nat) (T : VT) (v0 v1 v2 v3 v4 : Value) (w : World) (hI : InH w h T (.agg #[v0, v1, v2, v3, v4])) :
    Calls Try.prog 6 #[.agg #[v0, v1, v2, v3, v4]] w fun e w' => e = .returned (.bool true) ∧ Below w.heap.size w w' := by
  have HI := Hid.mk hI
  obtain ⟨k, n, t, io, N, icap, ko, K, kcap, rfl, rfl, rfl, rfl, rfl⟩ := hI.shape
  have HX := Hid.mk (vbx_new w (.int .i64 k) (.string n) (.string t) (.slice io N icap) (.slice ko K kcap))
  have HS := Hid.mk (fun u (hu : VBx w u (.int .i64 k) (.string n) (.string t) (.slice io N icap) (.slice ko K kcap)) => w_smallE h T _ u (HI.out.keep hu.below))
  have HF := Hid.mk (fun u (hu : VBx w u (.int .i64 k) (.string n) (.string t) (.slice io N icap) (.slice ko K kcap)) => w_rFormed h T _ u (HI.out.keep hu.below))
  have HW : Hid (szN h T ≤ 10000 → formN h T = true → wtN h T ≤ 9223372036854775807 ∧ dpN h T ≤ wtN h T ∧
      (∀ u, VBx w u (.int .i64 k) (.string n) (.string t) (.slice io N icap) (.slice ko K kcap) → Calls Try.prog 17 #[.agg #[.int .i64 k, .string n, .string t, .slice io N icap, .slice ko K kcap]] u fun e w' => e = .returned (.int .i64 ((wtN h T : Nat) : Int)) ∧ Hid (VBx w w' (.int .i64 k) (.string n) (.string t) (.slice io N icap) (.slice ko K kcap))) ∧
      (∀ u, VBx w u (.int .i64 k) (.string n) (.string t) (.slice io N icap) (.slice ko K kcap) → Calls Try.prog 18 #[.agg #[.int .i64 k, .string n, .string t, .slice io N icap, .slice ko K kcap]] u fun e w' => e = .returned (.int .i64 ((wtN h T : Nat) : Int)) ∧ Hid (VBx w w' (.int .i64 k) (.string n) (.string t) (.slice io N icap) (.slice ko K kcap))) ∧
      (∀ u, VBx w u (.int .i64 k) (.string n) (.string t) (.slice io N icap) (.slice ko K kcap) → Calls Try.prog 19 #[.agg #[.int .i64 k, .string n, .string t, .slice io N icap, .slice ko K kcap]] u fun e w' => e = .returned (.int .i64 ((dpN h T : Nat) : Int)) ∧ Hid (VBx w w' (.int .i64 k) (.string n) (.string t) (.slice io N icap) (.slice ko K kcap))) ∧
      (∀ u, VBx w u (.int .i64 k) (.string n) (.string t) (.slice io N icap) (.slice ko K kcap) → Calls Try.prog 20 #[.agg #[.int .i64 k, .string n, .string t, .slice io N icap, .slice ko K kcap]] u fun e w' => e = .returned (.int .i64 ((dpN h T : Nat) : Int)) ∧ Hid (VBx w w' (.int .i64 k) (.string n) (.string t) (.slice io N icap) (.slice ko K kcap)))) := by
    intro hsz hf
    refine ⟨wt_bound HI.out (by omega), dp_wt h T hf, fun u hu => ?_, fun u hu => ?_, fun u hu => ?_, fun u hu => ?_⟩
    · exact (w_vWeight h T _ u (HI.out.keep hu.below) (by omega) hf).mono fun e w' ⟨he, hb⟩ => ⟨he, hu.keep hb⟩
    · exact (w_rWeight h T _ u (HI.out.keep hu.below) (by omega) hf).mono fun e w' ⟨he, hb⟩ => ⟨he, hu.keep hb⟩
    · exact (w_vDepth h T _ u (HI.out.keep hu.below) hsz).mono fun e w' ⟨he, hb⟩ => ⟨he, hu.keep hb⟩
    · exact (w_rDepth h T _ u (HI.out.keep hu.below) (by omega) hf).mono fun e w' ⟨he, hb⟩ => ⟨he, hu.keep hb⟩
  clear hI HI
  go_enter Try.func6, Try.ntmps6
  go_wp2_with fail
  refine (vweight_text _ ⟨#[97, 98]⟩ _ _ _ _ _ _ _ (by decide)).mono ?_
  rintro e w1 ⟨rfl, hb1⟩
  have hthree : ((1 + (⟨#[97, 98]⟩ : ByteArray).size : Nat) : Int) = 3 := by decide
  rw [hthree]
  clear hthree
  have HJ := Hid.mk (HX.out.keep hb1)
  have g0 := HJ.out.c0
  have g1 := HJ.out.c1
  have g2 := HJ.out.c2
  have g3 := HJ.out.c3
  have g4 := HJ.out.c4
  clear hb1 HX
  go_wp2_with fail
  refine (HS.out _ HJ.out).mono ?_
  rintro e w2 ⟨b, rfl, hsm, hb2⟩
  have HK := Hid.mk (HJ.out.keep hb2)
  clear hb2 g0 g1 g2 g3 g4 HJ
  have g0 := HK.out.c0
  have g1 := HK.out.c1
  have g2 := HK.out.c2
  have g3 := HK.out.c3
  have g4 := HK.out.c4
  cases b with
  | false =>
    clear hsm
    go_wp2_with fail
    go_ret
    exact ⟨rfl, HK.out.below⟩
  | true =>
    have HSM := Hid.mk (hsm rfl)
    clear hsm
    go_wp2_with fail
    refine (HF.out _ HK.out).mono ?_
    rintro e w3 ⟨rfl, hb3⟩
    have HL := Hid.mk (HK.out.keep hb3)
    clear hb3 g0 g1 g2 g3 g4 HK HF HS
    cases hfm : formN h T with
    | false =>
      clear hfm
      go_wp2_with fail
      go_ret
      exact ⟨rfl, HL.out.below⟩
    | true =>
      obtain ⟨hq, hdq, hA, hB, hC, hD⟩ := HW.out HSM.out hfm
      generalize wtN h T = q at hq hdq hA hB
      generalize dpN h T = d at hdq hC hD
      have HA := Hid.mk hA
      have HB := Hid.mk hB
      have HC := Hid.mk hC
      have HD := Hid.mk hD
      have hge : (d : Int) ≤ (q : Int) := by omega
      clear hA hB hC hD HW hfm HSM hdq
      go_wp2_with fail
      go_region_held3 (fun u => u.cell? ⟨w.heap.size, 0, none⟩ = some (.int .i64 k) ∧ u.cell? ⟨w.heap.size, 1, none⟩ = some (.string n) ∧ u.cell? ⟨w.heap.size, 2, none⟩ = some (.string t) ∧ u.cell? ⟨w.heap.size, 3, none⟩ = some (.slice io N icap) ∧ u.cell? ⟨w.heap.size, 4, none⟩ = some (.slice ko K kcap)) (exact ⟨HL.out.c0, HL.out.c1, HL.out.c2, HL.out.c3, HL.out.c4⟩) (first | (go_at_call 17; refine (HA.out _ (by first | exact HL.out | exact HL.out.drew)).mono ?_; rintro e w4 ⟨rfl, HL⟩) | (go_at_call 18; refine (HB.out _ (by first | exact HL.out | exact HL.out.drew)).mono ?_; rintro e w4 ⟨rfl, HL⟩) | (go_at_call 19; refine (HC.out _ (by first | exact HL.out | exact HL.out.drew)).mono ?_; rintro e w4 ⟨rfl, HL⟩) | (go_at_call 20; refine (HD.out _ (by first | exact HL.out | exact HL.out.drew)).mono ?_; rintro e w4 ⟨rfl, HL⟩))
      all_goals go_wp2_with fail
      all_goals go_ret
      all_goals exact ⟨by simp, HL.out.below⟩
end Go.Proofs.Ytjfbbdhmcljhnaa
