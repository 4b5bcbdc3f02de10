import Derived.Test.YtjfbbdhmcljhnaaZT13
import Derived.Test.YtjfbbdhmcljhnaaZH6x
import Derived.Test.YtjfbbdhmcljhnaaM15
import Derived.Deep.RegionHeld3
import Derived.Deep.RegionWith
namespace Go.Proofs.Ytjfbbdhmcljhnaa
open Go.RowKit
set_option linter.unusedVariables false
set_option linter.unusedSimpArgs false

set_option maxRecDepth 100000 in
set_option maxHeartbeats 3200000 in
theorem w_ValueFormed (h : Nat) (T : VT) (w : World) (k : Int) (n t : ByteArray) (io : Option Addr) (N icap : Nat) (ko : Option Addr) (K kcap : Nat) (hI : InH w h T (.agg #[.int .i64 k, .string n, .string t, .slice io N icap, .slice ko K kcap])) :
    Calls Try.prog 3 #[.agg #[.int .i64 k, .string n, .string t, .slice io N icap, .slice ko K kcap]] w fun e w' => e = .returned (.bool true) ∧ Below w.heap.size w w' := by
  have HX := Hid.mk (vbx_new w (.int .i64 k) (.string n) (.string t) (.slice io N icap) (.slice ko K kcap))
  have HS : Hid (∀ u, VBx w u (.int .i64 k) (.string n) (.string t) (.slice io N icap) (.slice ko K kcap) → Calls Try.prog 9 #[.agg #[.int .i64 k, .string n, .string t, .slice io N icap, .slice ko K kcap]] u fun e w' => e = .returned (.bool (decide (szN h T ≤ 10000))) ∧ Hid (VBx w w' (.int .i64 k) (.string n) (.string t) (.slice io N icap) (.slice ko K kcap))) := fun u hu => (w_smallX h T _ u (hI.keep hu.below)).mono fun e w' ⟨he, hb⟩ => ⟨he, hu.keep hb⟩
  have HV : Hid (∀ u, VBx w u (.int .i64 k) (.string n) (.string t) (.slice io N icap) (.slice ko K kcap) → Calls Try.prog 11 #[.agg #[.int .i64 k, .string n, .string t, .slice io N icap, .slice ko K kcap]] u fun e w' => e = .returned (.bool (formN h T)) ∧ Hid (VBx w w' (.int .i64 k) (.string n) (.string t) (.slice io N icap) (.slice ko K kcap))) := fun u hu => (w_vFormed h T _ u (hI.keep hu.below)).mono fun e w' ⟨he, hb⟩ => ⟨he, hu.keep hb⟩
  have HR : Hid (∀ u, VBx w u (.int .i64 k) (.string n) (.string t) (.slice io N icap) (.slice ko K kcap) → Calls Try.prog 12 #[.agg #[.int .i64 k, .string n, .string t, .slice io N icap, .slice ko K kcap]] u fun e w' => e = .returned (.bool (formN h T)) ∧ Hid (VBx w w' (.int .i64 k) (.string n) (.string t) (.slice io N icap) (.slice ko K kcap))) := fun u hu => (w_rFormed h T _ u (hI.keep hu.below)).mono fun e w' ⟨he, hb⟩ => ⟨he, hu.keep hb⟩
  have HLv : Hid (∀ u, VBx w u (.int .i64 k) (.string n) (.string t) (.slice io N icap) (.slice ko K kcap) → Calls Try.prog 10 #[] u fun e w' => e = .returned (.bool true) ∧ Hid (VBx w w' (.int .i64 k) (.string n) (.string t) (.slice io N icap) (.slice ko K kcap))) := fun u hu => (w_lives u).mono fun e w' ⟨he, hb⟩ => ⟨he, hu.keep hb⟩
  have HL := HX
  generalize formN h T = f at HV HR
  cases hd : decide (szN h T ≤ 10000) with
  | false =>
    rw [hd] at HS
    clear hI hd HX HV HR HLv
    go_enter Try.func3, Try.ntmps3
    go_wp2_with fail
    refine wp_region_any (by kernel_rfl) ?_
    (try (change wpAny _ _ _ _ _ _ _ (World.drew _)))
    refine wpAny_ready (rs := [0]) (by kernel_rfl) (by simp) ?_
    refine AllReady.cons rfl (fun K hK => ?_) AllReady.nil
    go_simp
    refine hK _ _ ?_
    clear hK K
    refine wpAny_ready (rs := [1]) (by kernel_rfl) (by simp) ?_
    refine AllReady.cons rfl (fun K hK => ?_) AllReady.nil
    go_simp
    refine (HS.out _ (by first | exact HL.out | exact HL.out.drew)).mono ?_
    rintro e w4 ⟨rfl, HL⟩
    simp only []
    refine hK _ _ ?_
    clear hK K
    refine wpAny_take (i := 2) (v := .bool true) rfl (by kernel_rfl) (by kernel_rfl) (by kernel_rfl) (fun _ _ _ h => h) (Or.inl ⟨by rfl, fun w => by go_simp⟩) ?_
    (try simp only [Act.put, List.setIfInBounds_toArray, List.set_cons_zero, List.set_cons_succ])
    refine wpAny_take (i := 3) (v := .bool true) rfl (by kernel_rfl) (by kernel_rfl) (by kernel_rfl) (fun _ _ _ h => h) (Or.inl ⟨by rfl, fun w => by go_simp⟩) ?_
    (try simp only [Act.put, List.setIfInBounds_toArray, List.set_cons_zero, List.set_cons_succ])
    refine wpAny_take (i := 4) (v := undef) rfl (by kernel_rfl) (by kernel_rfl) (by kernel_rfl) (fun _ _ _ h => h) (Or.inr ⟨by rfl, rfl⟩) ?_
    (try simp only [Act.put, List.setIfInBounds_toArray, List.set_cons_zero, List.set_cons_succ])
    refine wpAny_take (i := 5) (v := undef) rfl (by kernel_rfl) (by kernel_rfl) (by kernel_rfl) (fun _ _ _ h => h) (Or.inr ⟨by rfl, rfl⟩) ?_
    (try simp only [Act.put, List.setIfInBounds_toArray, List.set_cons_zero, List.set_cons_succ])
    refine wpAny_take (i := 6) (v := undef) rfl (by kernel_rfl) (by kernel_rfl) (by kernel_rfl) (fun _ _ _ h => h) (Or.inr ⟨by rfl, rfl⟩) ?_
    (try simp only [Act.put, List.setIfInBounds_toArray, List.set_cons_zero, List.set_cons_succ])
    refine wpAny_take (i := 7) (v := undef) rfl (by kernel_rfl) (by kernel_rfl) (by kernel_rfl) (fun _ _ _ h => h) (Or.inr ⟨by rfl, rfl⟩) ?_
    (try simp only [Act.put, List.setIfInBounds_toArray, List.set_cons_zero, List.set_cons_succ])
    refine wpAny_take (i := 8) (v := undef) rfl (by kernel_rfl) (by kernel_rfl) (by kernel_rfl) (fun _ _ _ h => h) (Or.inr ⟨by rfl, rfl⟩) ?_
    (try simp only [Act.put, List.setIfInBounds_toArray, List.set_cons_zero, List.set_cons_succ])
    refine wpAny_take (i := 9) (v := undef) rfl (by kernel_rfl) (by kernel_rfl) (by kernel_rfl) (fun _ _ _ h => h) (Or.inr ⟨by rfl, rfl⟩) ?_
    (try simp only [Act.put, List.setIfInBounds_toArray, List.set_cons_zero, List.set_cons_succ])
    refine wpAny_take (i := 10) (v := undef) rfl (by kernel_rfl) (by kernel_rfl) (by kernel_rfl) (fun _ _ _ h => h) (Or.inr ⟨by rfl, rfl⟩) ?_
    (try simp only [Act.put, List.setIfInBounds_toArray, List.set_cons_zero, List.set_cons_succ])
    refine wpAny_take (i := 11) (v := undef) rfl (by kernel_rfl) (by kernel_rfl) (by kernel_rfl) (fun _ _ _ h => h) (Or.inr ⟨by rfl, rfl⟩) ?_
    (try simp only [Act.put, List.setIfInBounds_toArray, List.set_cons_zero, List.set_cons_succ])
    refine wpAny_take (i := 12) (v := .bool true) rfl (by kernel_rfl) (by kernel_rfl) (by kernel_rfl) (fun _ _ _ h => h) (Or.inl ⟨by rfl, fun w => by go_simp⟩) ?_
    (try simp only [Act.put, List.setIfInBounds_toArray, List.set_cons_zero, List.set_cons_succ])
    refine wpAny_ready (rs := [13]) (by kernel_rfl) (by simp) ?_
    refine AllReady.cons rfl (fun K hK => ?_) AllReady.nil
    go_simp
    refine hK _ _ ?_
    clear hK K
    refine wpAny_done (by kernel_rfl) ?_ _
    go_wp2_with fail
    go_ret
    exact ⟨by first | rfl | simp, HL.out.below⟩
  | true =>
    rw [hd] at HS
    clear hI hd HX
    go_enter Try.func3, Try.ntmps3
    go_wp2_with fail
    first | go_region_held3 (fun u => u.cell? ⟨w.heap.size, 0, none⟩ = some (.int .i64 k) ∧ u.cell? ⟨w.heap.size, 1, none⟩ = some (.string n) ∧ u.cell? ⟨w.heap.size, 2, none⟩ = some (.string t) ∧ u.cell? ⟨w.heap.size, 3, none⟩ = some (.slice io N icap) ∧ u.cell? ⟨w.heap.size, 4, none⟩ = some (.slice ko K kcap)) (exact ⟨HL.out.c0, HL.out.c1, HL.out.c2, HL.out.c3, HL.out.c4⟩) (first | (go_at_call 9; refine (HS.out _ (by first | exact HL.out | exact HL.out.drew)).mono ?_; rintro e w4 ⟨rfl, HL⟩) | (go_at_call 10; refine (HLv.out _ (by first | exact HL.out | exact HL.out.drew)).mono ?_; rintro e w4 ⟨rfl, HL⟩) | (go_at_call 11; refine (HV.out _ (by first | exact HL.out | exact HL.out.drew)).mono ?_; rintro e w4 ⟨rfl, HL⟩) | (go_at_call 12; refine (HR.out _ (by first | exact HL.out | exact HL.out.drew)).mono ?_; rintro e w4 ⟨rfl, HL⟩)) | fail
    all_goals go_wp2_with fail
    all_goals go_ret
    all_goals exact ⟨by first | rfl | simp, HL.out.below⟩
end Go.Proofs.Ytjfbbdhmcljhnaa
