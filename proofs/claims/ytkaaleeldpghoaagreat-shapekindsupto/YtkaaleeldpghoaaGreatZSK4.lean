import Derived.Test.YtkaaleeldpghoaaGreatZSK2
import Derived.Test.YtkaaleeldpghoaaGreatZSF1
import Derived.Test.YtkaaleeldpghoaaGreatZSF9
import Derived.Test.YtkaaleeldpghoaaGreatM31
import Derived.Deep.Cut
namespace Go.Proofs.YtkaaleeldpghoaaGreat
open Go.RowKit Go.Shelf Go.Sort
set_option linter.unusedVariables false
set_option linter.unusedSimpArgs false
attribute [local go_sem] Oper.semAt_some

/-- the bit of a kind -/
def kb (n : Int) (k : Nat) : Bool := decide (n / 2 ^ k % 2 = 1)
def kbs (n : Int) : List Bool := [kb n 0, kb n 1, kb n 2, kb n 3, kb n 4, kb n 5, kb n 6]
def all7 (a0 a1 a2 a3 a4 a5 a6 : Bool) : Bool := a0 && (a1 && (a2 && (a3 && (a4 && (a5 && a6)))))
set_option maxRecDepth 100000 in
theorem and_kbF0 : ∀ n : Fin 256, (bits .and .u8 (n.1 : Int) 1 == 0) = !kb (n.1 : Int) 0 := by decide +kernel
theorem and_kb0 {n : Int} (h : 0 ≤ n ∧ n < 256) : (bits .and .u8 n 1 == 0) = !kb n 0 := by
  have h1 := and_kbF0 ⟨n.toNat, by omega⟩
  have h2 : ((n.toNat : Nat) : Int) = n := by omega
  dsimp only at h1
  rwa [h2] at h1
set_option maxRecDepth 100000 in
theorem and64_kbF0 : ∀ n : Fin 256, (bits .and .i64 (bits .and .i64 (n.1 : Int) 127) 1 == 0) = !kb (n.1 : Int) 0 := by decide +kernel
theorem and64_kb0 {n : Int} (h : 0 ≤ n ∧ n < 256) : (bits .and .i64 (bits .and .i64 n 127) 1 == 0) = !kb n 0 := by
  have h1 := and64_kbF0 ⟨n.toNat, by omega⟩
  have h2 : ((n.toNat : Nat) : Int) = n := by omega
  dsimp only at h1
  rwa [h2] at h1
set_option maxRecDepth 100000 in
theorem and_kbF1 : ∀ n : Fin 256, (bits .and .u8 (n.1 : Int) 2 == 0) = !kb (n.1 : Int) 1 := by decide +kernel
theorem and_kb1 {n : Int} (h : 0 ≤ n ∧ n < 256) : (bits .and .u8 n 2 == 0) = !kb n 1 := by
  have h1 := and_kbF1 ⟨n.toNat, by omega⟩
  have h2 : ((n.toNat : Nat) : Int) = n := by omega
  dsimp only at h1
  rwa [h2] at h1
set_option maxRecDepth 100000 in
theorem and64_kbF1 : ∀ n : Fin 256, (bits .and .i64 (bits .and .i64 (n.1 : Int) 127) 2 == 0) = !kb (n.1 : Int) 1 := by decide +kernel
theorem and64_kb1 {n : Int} (h : 0 ≤ n ∧ n < 256) : (bits .and .i64 (bits .and .i64 n 127) 2 == 0) = !kb n 1 := by
  have h1 := and64_kbF1 ⟨n.toNat, by omega⟩
  have h2 : ((n.toNat : Nat) : Int) = n := by omega
  dsimp only at h1
  rwa [h2] at h1
set_option maxRecDepth 100000 in
theorem and_kbF2 : ∀ n : Fin 256, (bits .and .u8 (n.1 : Int) 4 == 0) = !kb (n.1 : Int) 2 := by decide +kernel
theorem and_kb2 {n : Int} (h : 0 ≤ n ∧ n < 256) : (bits .and .u8 n 4 == 0) = !kb n 2 := by
  have h1 := and_kbF2 ⟨n.toNat, by omega⟩
  have h2 : ((n.toNat : Nat) : Int) = n := by omega
  dsimp only at h1
  rwa [h2] at h1
set_option maxRecDepth 100000 in
theorem and64_kbF2 : ∀ n : Fin 256, (bits .and .i64 (bits .and .i64 (n.1 : Int) 127) 4 == 0) = !kb (n.1 : Int) 2 := by decide +kernel
theorem and64_kb2 {n : Int} (h : 0 ≤ n ∧ n < 256) : (bits .and .i64 (bits .and .i64 n 127) 4 == 0) = !kb n 2 := by
  have h1 := and64_kbF2 ⟨n.toNat, by omega⟩
  have h2 : ((n.toNat : Nat) : Int) = n := by omega
  dsimp only at h1
  rwa [h2] at h1
set_option maxRecDepth 100000 in
theorem and_kbF3 : ∀ n : Fin 256, (bits .and .u8 (n.1 : Int) 8 == 0) = !kb (n.1 : Int) 3 := by decide +kernel
theorem and_kb3 {n : Int} (h : 0 ≤ n ∧ n < 256) : (bits .and .u8 n 8 == 0) = !kb n 3 := by
  have h1 := and_kbF3 ⟨n.toNat, by omega⟩
  have h2 : ((n.toNat : Nat) : Int) = n := by omega
  dsimp only at h1
  rwa [h2] at h1
set_option maxRecDepth 100000 in
theorem and64_kbF3 : ∀ n : Fin 256, (bits .and .i64 (bits .and .i64 (n.1 : Int) 127) 8 == 0) = !kb (n.1 : Int) 3 := by decide +kernel
theorem and64_kb3 {n : Int} (h : 0 ≤ n ∧ n < 256) : (bits .and .i64 (bits .and .i64 n 127) 8 == 0) = !kb n 3 := by
  have h1 := and64_kbF3 ⟨n.toNat, by omega⟩
  have h2 : ((n.toNat : Nat) : Int) = n := by omega
  dsimp only at h1
  rwa [h2] at h1
set_option maxRecDepth 100000 in
theorem and_kbF4 : ∀ n : Fin 256, (bits .and .u8 (n.1 : Int) 16 == 0) = !kb (n.1 : Int) 4 := by decide +kernel
theorem and_kb4 {n : Int} (h : 0 ≤ n ∧ n < 256) : (bits .and .u8 n 16 == 0) = !kb n 4 := by
  have h1 := and_kbF4 ⟨n.toNat, by omega⟩
  have h2 : ((n.toNat : Nat) : Int) = n := by omega
  dsimp only at h1
  rwa [h2] at h1
set_option maxRecDepth 100000 in
theorem and64_kbF4 : ∀ n : Fin 256, (bits .and .i64 (bits .and .i64 (n.1 : Int) 127) 16 == 0) = !kb (n.1 : Int) 4 := by decide +kernel
theorem and64_kb4 {n : Int} (h : 0 ≤ n ∧ n < 256) : (bits .and .i64 (bits .and .i64 n 127) 16 == 0) = !kb n 4 := by
  have h1 := and64_kbF4 ⟨n.toNat, by omega⟩
  have h2 : ((n.toNat : Nat) : Int) = n := by omega
  dsimp only at h1
  rwa [h2] at h1
set_option maxRecDepth 100000 in
theorem and_kbF5 : ∀ n : Fin 256, (bits .and .u8 (n.1 : Int) 32 == 0) = !kb (n.1 : Int) 5 := by decide +kernel
theorem and_kb5 {n : Int} (h : 0 ≤ n ∧ n < 256) : (bits .and .u8 n 32 == 0) = !kb n 5 := by
  have h1 := and_kbF5 ⟨n.toNat, by omega⟩
  have h2 : ((n.toNat : Nat) : Int) = n := by omega
  dsimp only at h1
  rwa [h2] at h1
set_option maxRecDepth 100000 in
theorem and64_kbF5 : ∀ n : Fin 256, (bits .and .i64 (bits .and .i64 (n.1 : Int) 127) 32 == 0) = !kb (n.1 : Int) 5 := by decide +kernel
theorem and64_kb5 {n : Int} (h : 0 ≤ n ∧ n < 256) : (bits .and .i64 (bits .and .i64 n 127) 32 == 0) = !kb n 5 := by
  have h1 := and64_kbF5 ⟨n.toNat, by omega⟩
  have h2 : ((n.toNat : Nat) : Int) = n := by omega
  dsimp only at h1
  rwa [h2] at h1
set_option maxRecDepth 100000 in
theorem and_kbF6 : ∀ n : Fin 256, (bits .and .u8 (n.1 : Int) 64 == 0) = !kb (n.1 : Int) 6 := by decide +kernel
theorem and_kb6 {n : Int} (h : 0 ≤ n ∧ n < 256) : (bits .and .u8 n 64 == 0) = !kb n 6 := by
  have h1 := and_kbF6 ⟨n.toNat, by omega⟩
  have h2 : ((n.toNat : Nat) : Int) = n := by omega
  dsimp only at h1
  rwa [h2] at h1
set_option maxRecDepth 100000 in
theorem and64_kbF6 : ∀ n : Fin 256, (bits .and .i64 (bits .and .i64 (n.1 : Int) 127) 64 == 0) = !kb (n.1 : Int) 6 := by decide +kernel
theorem and64_kb6 {n : Int} (h : 0 ≤ n ∧ n < 256) : (bits .and .i64 (bits .and .i64 n 127) 64 == 0) = !kb n 6 := by
  have h1 := and64_kbF6 ⟨n.toNat, by omega⟩
  have h2 : ((n.toNat : Nat) : Int) = n := by omega
  dsimp only at h1
  rwa [h2] at h1
set_option maxRecDepth 100000 in
theorem all_kbFu8 : ∀ n : Fin 256, (bits .and .u8 (n.1 : Int) 127 == 127) = all7 (kb n.1 0) (kb n.1 1) (kb n.1 2) (kb n.1 3) (kb n.1 4) (kb n.1 5) (kb n.1 6) := by decide +kernel
theorem all_kbu8 {n : Int} (h : 0 ≤ n ∧ n < 256) : (bits .and .u8 n 127 == 127) = all7 (kb n 0) (kb n 1) (kb n 2) (kb n 3) (kb n 4) (kb n 5) (kb n 6) := by
  have h1 := all_kbFu8 ⟨n.toNat, by omega⟩
  have h2 : ((n.toNat : Nat) : Int) = n := by omega
  dsimp only at h1
  rwa [h2] at h1
set_option maxRecDepth 100000 in
theorem all_kbFi64 : ∀ n : Fin 256, (bits .and .i64 (n.1 : Int) 127 == 127) = all7 (kb n.1 0) (kb n.1 1) (kb n.1 2) (kb n.1 3) (kb n.1 4) (kb n.1 5) (kb n.1 6) := by decide +kernel
theorem all_kbi64 {n : Int} (h : 0 ≤ n ∧ n < 256) : (bits .and .i64 n 127 == 127) = all7 (kb n 0) (kb n 1) (kb n 2) (kb n 3) (kb n 4) (kb n 5) (kb n 6) := by
  have h1 := all_kbFi64 ⟨n.toNat, by omega⟩
  have h2 : ((n.toNat : Nat) : Int) = n := by omega
  dsimp only at h1
  rwa [h2] at h1
set_option maxRecDepth 100000 in
theorem kv_kbF : ∀ n : Fin 256, bits .and .u8 (n.1 : Int) 127 = kvL (kbs n.1) := by decide +kernel
theorem kv_kb {n : Int} (h : 0 ≤ n ∧ n < 256) : bits .and .u8 n 127 = kvL (kbs n) := by
  have h1 := kv_kbF ⟨n.toNat, by omega⟩
  have h2 : ((n.toNat : Nat) : Int) = n := by omega
  dsimp only at h1
  rwa [h2] at h1
set_option maxRecDepth 100000 in
set_option maxHeartbeats 1600000 in
theorem w_ofk0 (n : Int) (B : Nat) (w : World) (h : 0 ≤ n ∧ n < 256) (hc : w.cell? ⟨B, 0, none⟩ = some (.int .u8 n)) : Calls Tryz.prog 18 #[.int .i64 0, .pointer (some ⟨B, 0, none⟩)] w fun e w' => e = .returned (.bool (kb n 0)) ∧ Below w.heap.size w w' := by
  have hb := and_kb0 h
  obtain ⟨c, hcc⟩ : ∃ c, kb n 0 = c := ⟨_, rfl⟩
  rw [hcc] at hb ⊢
  clear hcc
  have hb2 : (bits .and .u8 n 1 != 0) = c := by show (!(bits .and .u8 n 1 == 0)) = c; rw [hb]; cases c <;> rfl
  have C1 := Hid.mk (fun (d : Nat) (os : Array Obj) => (w_bitn0 (grow (redrawn w d) os)).mono (fun e w' kq => (⟨kq.1, by rw [kq.2]; exact Below.refl _ _⟩ : e = .returned (.int .u8 1) ∧ Below (grow (redrawn w d) os).heap.size (grow (redrawn w d) os) w')))
  have A0 := fun d os => cell_regrown hc d os
  go_enter Tryz.func18, Tryz.ntmps18
  go_wp2_with fail
  refine wp_region_quiet_below (by kernel_rfl) (by kernel_rfl) ?_
  repeat (go_big_quiet_step (exact Calls.regrown_of (C1.out _ _)))
  refine wpQuiet_nil ?_
  intro w9 hw'
  have HB9 : Hid (Below w.heap.size w w9) := by
    obtain ⟨⟨dq, osq⟩, rfl⟩ := hw'
    exact below_regrown w dq osq
  clear hw' A0 C1 hc
  cases c
  all_goals
    go_wp2_with fail
    go_ret
    exact ⟨by first | rfl | simp [hb, hb2], HB9.out⟩
set_option maxRecDepth 100000 in
set_option maxHeartbeats 1600000 in
theorem w_ofk1 (n : Int) (B : Nat) (w : World) (h : 0 ≤ n ∧ n < 256) (hc : w.cell? ⟨B, 0, none⟩ = some (.int .u8 n)) : Calls Tryz.prog 18 #[.int .i64 1, .pointer (some ⟨B, 0, none⟩)] w fun e w' => e = .returned (.bool (kb n 1)) ∧ Below w.heap.size w w' := by
  have hb := and_kb1 h
  obtain ⟨c, hcc⟩ : ∃ c, kb n 1 = c := ⟨_, rfl⟩
  rw [hcc] at hb ⊢
  clear hcc
  have hb2 : (bits .and .u8 n 2 != 0) = c := by show (!(bits .and .u8 n 2 == 0)) = c; rw [hb]; cases c <;> rfl
  have C1 := Hid.mk (fun (d : Nat) (os : Array Obj) => (w_bitn1 (grow (redrawn w d) os)).mono (fun e w' kq => (⟨kq.1, by rw [kq.2]; exact Below.refl _ _⟩ : e = .returned (.int .u8 2) ∧ Below (grow (redrawn w d) os).heap.size (grow (redrawn w d) os) w')))
  have A0 := fun d os => cell_regrown hc d os
  go_enter Tryz.func18, Tryz.ntmps18
  go_wp2_with fail
  refine wp_region_quiet_below (by kernel_rfl) (by kernel_rfl) ?_
  repeat (go_big_quiet_step (exact Calls.regrown_of (C1.out _ _)))
  refine wpQuiet_nil ?_
  intro w9 hw'
  have HB9 : Hid (Below w.heap.size w w9) := by
    obtain ⟨⟨dq, osq⟩, rfl⟩ := hw'
    exact below_regrown w dq osq
  clear hw' A0 C1 hc
  cases c
  all_goals
    go_wp2_with fail
    go_ret
    exact ⟨by first | rfl | simp [hb, hb2], HB9.out⟩
set_option maxRecDepth 100000 in
set_option maxHeartbeats 1600000 in
theorem w_ofk2 (n : Int) (B : Nat) (w : World) (h : 0 ≤ n ∧ n < 256) (hc : w.cell? ⟨B, 0, none⟩ = some (.int .u8 n)) : Calls Tryz.prog 18 #[.int .i64 2, .pointer (some ⟨B, 0, none⟩)] w fun e w' => e = .returned (.bool (kb n 2)) ∧ Below w.heap.size w w' := by
  have hb := and_kb2 h
  obtain ⟨c, hcc⟩ : ∃ c, kb n 2 = c := ⟨_, rfl⟩
  rw [hcc] at hb ⊢
  clear hcc
  have hb2 : (bits .and .u8 n 4 != 0) = c := by show (!(bits .and .u8 n 4 == 0)) = c; rw [hb]; cases c <;> rfl
  have C1 := Hid.mk (fun (d : Nat) (os : Array Obj) => (w_bitn2 (grow (redrawn w d) os)).mono (fun e w' kq => (⟨kq.1, by rw [kq.2]; exact Below.refl _ _⟩ : e = .returned (.int .u8 4) ∧ Below (grow (redrawn w d) os).heap.size (grow (redrawn w d) os) w')))
  have A0 := fun d os => cell_regrown hc d os
  go_enter Tryz.func18, Tryz.ntmps18
  go_wp2_with fail
  refine wp_region_quiet_below (by kernel_rfl) (by kernel_rfl) ?_
  repeat (go_big_quiet_step (exact Calls.regrown_of (C1.out _ _)))
  refine wpQuiet_nil ?_
  intro w9 hw'
  have HB9 : Hid (Below w.heap.size w w9) := by
    obtain ⟨⟨dq, osq⟩, rfl⟩ := hw'
    exact below_regrown w dq osq
  clear hw' A0 C1 hc
  cases c
  all_goals
    go_wp2_with fail
    go_ret
    exact ⟨by first | rfl | simp [hb, hb2], HB9.out⟩
set_option maxRecDepth 100000 in
set_option maxHeartbeats 1600000 in
theorem w_ofk3 (n : Int) (B : Nat) (w : World) (h : 0 ≤ n ∧ n < 256) (hc : w.cell? ⟨B, 0, none⟩ = some (.int .u8 n)) : Calls Tryz.prog 18 #[.int .i64 3, .pointer (some ⟨B, 0, none⟩)] w fun e w' => e = .returned (.bool (kb n 3)) ∧ Below w.heap.size w w' := by
  have hb := and_kb3 h
  obtain ⟨c, hcc⟩ : ∃ c, kb n 3 = c := ⟨_, rfl⟩
  rw [hcc] at hb ⊢
  clear hcc
  have hb2 : (bits .and .u8 n 8 != 0) = c := by show (!(bits .and .u8 n 8 == 0)) = c; rw [hb]; cases c <;> rfl
  have C1 := Hid.mk (fun (d : Nat) (os : Array Obj) => (w_bitn3 (grow (redrawn w d) os)).mono (fun e w' kq => (⟨kq.1, by rw [kq.2]; exact Below.refl _ _⟩ : e = .returned (.int .u8 8) ∧ Below (grow (redrawn w d) os).heap.size (grow (redrawn w d) os) w')))
  have A0 := fun d os => cell_regrown hc d os
  go_enter Tryz.func18, Tryz.ntmps18
  go_wp2_with fail
  refine wp_region_quiet_below (by kernel_rfl) (by kernel_rfl) ?_
  repeat (go_big_quiet_step (exact Calls.regrown_of (C1.out _ _)))
  refine wpQuiet_nil ?_
  intro w9 hw'
  have HB9 : Hid (Below w.heap.size w w9) := by
    obtain ⟨⟨dq, osq⟩, rfl⟩ := hw'
    exact below_regrown w dq osq
  clear hw' A0 C1 hc
  cases c
  all_goals
    go_wp2_with fail
    go_ret
    exact ⟨by first | rfl | simp [hb, hb2], HB9.out⟩
set_option maxRecDepth 100000 in
set_option maxHeartbeats 1600000 in
theorem w_ofk4 (n : Int) (B : Nat) (w : World) (h : 0 ≤ n ∧ n < 256) (hc : w.cell? ⟨B, 0, none⟩ = some (.int .u8 n)) : Calls Tryz.prog 18 #[.int .i64 4, .pointer (some ⟨B, 0, none⟩)] w fun e w' => e = .returned (.bool (kb n 4)) ∧ Below w.heap.size w w' := by
  have hb := and_kb4 h
  obtain ⟨c, hcc⟩ : ∃ c, kb n 4 = c := ⟨_, rfl⟩
  rw [hcc] at hb ⊢
  clear hcc
  have hb2 : (bits .and .u8 n 16 != 0) = c := by show (!(bits .and .u8 n 16 == 0)) = c; rw [hb]; cases c <;> rfl
  have C1 := Hid.mk (fun (d : Nat) (os : Array Obj) => (w_bitn4 (grow (redrawn w d) os)).mono (fun e w' kq => (⟨kq.1, by rw [kq.2]; exact Below.refl _ _⟩ : e = .returned (.int .u8 16) ∧ Below (grow (redrawn w d) os).heap.size (grow (redrawn w d) os) w')))
  have A0 := fun d os => cell_regrown hc d os
  go_enter Tryz.func18, Tryz.ntmps18
  go_wp2_with fail
  refine wp_region_quiet_below (by kernel_rfl) (by kernel_rfl) ?_
  repeat (go_big_quiet_step (exact Calls.regrown_of (C1.out _ _)))
  refine wpQuiet_nil ?_
  intro w9 hw'
  have HB9 : Hid (Below w.heap.size w w9) := by
    obtain ⟨⟨dq, osq⟩, rfl⟩ := hw'
    exact below_regrown w dq osq
  clear hw' A0 C1 hc
  cases c
  all_goals
    go_wp2_with fail
    go_ret
    exact ⟨by first | rfl | simp [hb, hb2], HB9.out⟩
set_option maxRecDepth 100000 in
set_option maxHeartbeats 1600000 in
theorem w_ofk5 (n : Int) (B : Nat) (w : World) (h : 0 ≤ n ∧ n < 256) (hc : w.cell? ⟨B, 0, none⟩ = some (.int .u8 n)) : Calls Tryz.prog 18 #[.int .i64 5, .pointer (some ⟨B, 0, none⟩)] w fun e w' => e = .returned (.bool (kb n 5)) ∧ Below w.heap.size w w' := by
  have hb := and_kb5 h
  obtain ⟨c, hcc⟩ : ∃ c, kb n 5 = c := ⟨_, rfl⟩
  rw [hcc] at hb ⊢
  clear hcc
  have hb2 : (bits .and .u8 n 32 != 0) = c := by show (!(bits .and .u8 n 32 == 0)) = c; rw [hb]; cases c <;> rfl
  have C1 := Hid.mk (fun (d : Nat) (os : Array Obj) => (w_bitn5 (grow (redrawn w d) os)).mono (fun e w' kq => (⟨kq.1, by rw [kq.2]; exact Below.refl _ _⟩ : e = .returned (.int .u8 32) ∧ Below (grow (redrawn w d) os).heap.size (grow (redrawn w d) os) w')))
  have A0 := fun d os => cell_regrown hc d os
  go_enter Tryz.func18, Tryz.ntmps18
  go_wp2_with fail
  refine wp_region_quiet_below (by kernel_rfl) (by kernel_rfl) ?_
  repeat (go_big_quiet_step (exact Calls.regrown_of (C1.out _ _)))
  refine wpQuiet_nil ?_
  intro w9 hw'
  have HB9 : Hid (Below w.heap.size w w9) := by
    obtain ⟨⟨dq, osq⟩, rfl⟩ := hw'
    exact below_regrown w dq osq
  clear hw' A0 C1 hc
  cases c
  all_goals
    go_wp2_with fail
    go_ret
    exact ⟨by first | rfl | simp [hb, hb2], HB9.out⟩
set_option maxRecDepth 100000 in
set_option maxHeartbeats 1600000 in
theorem w_ofk6 (n : Int) (B : Nat) (w : World) (h : 0 ≤ n ∧ n < 256) (hc : w.cell? ⟨B, 0, none⟩ = some (.int .u8 n)) : Calls Tryz.prog 18 #[.int .i64 6, .pointer (some ⟨B, 0, none⟩)] w fun e w' => e = .returned (.bool (kb n 6)) ∧ Below w.heap.size w w' := by
  have hb := and_kb6 h
  obtain ⟨c, hcc⟩ : ∃ c, kb n 6 = c := ⟨_, rfl⟩
  rw [hcc] at hb ⊢
  clear hcc
  have hb2 : (bits .and .u8 n 64 != 0) = c := by show (!(bits .and .u8 n 64 == 0)) = c; rw [hb]; cases c <;> rfl
  have C1 := Hid.mk (fun (d : Nat) (os : Array Obj) => (w_bitn6 (grow (redrawn w d) os)).mono (fun e w' kq => (⟨kq.1, by rw [kq.2]; exact Below.refl _ _⟩ : e = .returned (.int .u8 64) ∧ Below (grow (redrawn w d) os).heap.size (grow (redrawn w d) os) w')))
  have A0 := fun d os => cell_regrown hc d os
  go_enter Tryz.func18, Tryz.ntmps18
  go_wp2_with fail
  refine wp_region_quiet_below (by kernel_rfl) (by kernel_rfl) ?_
  repeat (go_big_quiet_step (exact Calls.regrown_of (C1.out _ _)))
  refine wpQuiet_nil ?_
  intro w9 hw'
  have HB9 : Hid (Below w.heap.size w w9) := by
    obtain ⟨⟨dq, osq⟩, rfl⟩ := hw'
    exact below_regrown w dq osq
  clear hw' A0 C1 hc
  cases c
  all_goals
    go_wp2_with fail
    go_ret
    exact ⟨by first | rfl | simp [hb, hb2], HB9.out⟩
end Go.Proofs.YtkaaleeldpghoaaGreat
namespace Go.Proofs.YtkaaleeldpghoaaGreat
open Go.RowKit Go.Shelf Go.Sort
set_option linter.unusedVariables false
set_option linter.unusedSimpArgs false
attribute [local go_sem] Oper.semAt_some

/-- the widest type of some kinds -/
def widL (a0 a1 a2 a3 a4 a5 a6 : Bool) : TT := .mk false a0 a1 a2 a4 (if a3 then [(⟨#[]⟩, ⟨#[]⟩)] else []) [] (if a5 then [.mk ttEv 0 (-1)] else []) (if a6 then [.mk [] [] [] ttEv] else [])
def widB (a0 a1 a2 a3 a4 a5 a6 : Bool) : TT := if all7 a0 a1 a2 a3 a4 a5 a6 then ttEv else widL a0 a1 a2 a3 a4 a5 a6
def widT (n : Int) : TT := widB (kb n 0) (kb n 1) (kb n 2) (kb n 3) (kb n 4) (kb n 5) (kb n 6)
/-- a row of one element, or none -/
structure WRow (u : World) (R B : Nat) (c : Bool) (so : Option Addr) (N cap : Nat) (cs : Array Value) (t : TypeId) : Prop where
  yes : c = true → ∃ b, so = some ⟨b, 0, none⟩ ∧ N = 1 ∧ cap = 1 ∧ b ≠ R ∧ b ≠ B ∧ u.heap[b]? = some (.cells cs t (0, 0))
  no : c = false → so = none ∧ N = 0 ∧ cap = 0
theorem WRow.keep {u u' : World} {R B : Nat} {c : Bool} {so : Option Addr} {N cap : Nat} {cs : Array Value} {t : TypeId} (h : WRow u R B c so N cap cs t) (hb : ∀ b, b ≠ R → b ≠ B → b < u.heap.size → u'.heap[b]? = u.heap[b]?) : WRow u' R B c so N cap cs t := by
  refine ⟨fun hc => ?_, h.no⟩
  obtain ⟨b, e1, e2, e3, e4, e5, e6⟩ := h.yes hc
  have hlt : b < u.heap.size := by
    rcases Nat.lt_or_ge b u.heap.size with hh | hh
    · exact hh
    · rw [Array.getElem?_eq_none hh] at e6; cases e6
  exact ⟨b, e1, e2, e3, e4, e5, (hb b e4 e5 hlt).trans e6⟩
/-- what lies while a type is made: some block, the answer's, the type's -/
structure OKx (w u : World) (KB : Nat) (kc : Array Value) (kt : TypeId) (R B : Nat) (c : Array Value) : Prop where
  below : Below w.heap.size w u
  kin : u.heap[KB]? = some (.cells kc kt (0, 0))
  res : u.heap[R]? = some (.cells #[.bool false, .bool false, .bool false, .bool false, .slice none 0 0, .bool false, .slice none 0 0, .slice none 0 0, .slice none 0 0] 27 (0, 0))
  out : u.heap[B]? = some (.cells c 27 (0, 0))
  ne : KB ≠ B ∧ R ≠ B ∧ w.heap.size ≤ B ∧ w.heap.size ≤ R
theorem lt_of_row {u : World} {b : Nat} {x : Obj} (h : u.heap[b]? = some x) : b < u.heap.size := by
  rcases Nat.lt_or_ge b u.heap.size with hh | hh
  · exact hh
  · rw [Array.getElem?_eq_none hh] at h; cases h
theorem OKx.keep {w u u' : World} {KB : Nat} {kc : Array Value} {kt : TypeId} {R B : Nat} {c : Array Value} (h : OKx w u KB kc kt R B c) (hb : Below u.heap.size u u') : OKx w u' KB kc kt R B c :=
  ⟨h.below.trans (hb.mono h.below.size), (hb.block KB (lt_of_row h.kin)).trans h.kin, (hb.block R (lt_of_row h.res)).trans h.res, (hb.block B (lt_of_row h.out)).trans h.out, h.ne⟩
theorem OKx.set {w u : World} {KB : Nat} {kc : Array Value} {kt : TypeId} {R B : Nat} {c : Array Value} (h : OKx w u KB kc kt R B c) (i : Nat) (v : Value) : OKx w (u.setCell ⟨B, i, none⟩ v) KB kc kt R B (c.setIfInBounds i v) :=
  ⟨h.below.setCell (p := ⟨B, i, none⟩) h.ne.2.2.1 v, (Below.heap_setCell _ _ _ _ h.ne.1).trans h.kin, (Below.heap_setCell _ _ _ _ h.ne.2.1).trans h.res, rset9 (i := i) v h.out, h.ne⟩
theorem sp_of {W : World} {R B : Nat} {a : Bool} {so : Option Addr} {N cap : Nat} (h : WRow W R B a so N cap #[.string ⟨#[]⟩, .string ⟨#[]⟩] 47) : (if a then [((⟨#[]⟩ : ByteArray), (⟨#[]⟩ : ByteArray))] else []).length = N ∧ N ≤ cap ∧ N ≤ 140737488355328 ∧ SpIn W so (if a then [(⟨#[]⟩, ⟨#[]⟩)] else []) := by
  cases a with
  | false =>
    obtain ⟨rfl, rfl, rfl⟩ := h.no rfl
    exact ⟨rfl, Nat.le_refl _, by omega, ⟨fun h0 => absurd h0 (Nat.lt_irrefl 0)⟩⟩
  | true =>
    obtain ⟨b, rfl, rfl, rfl, _, _, hr⟩ := h.yes rfl
    refine ⟨rfl, Nat.le_refl _, by omega, ⟨fun _ => ⟨b, 0, rfl, lt_of_row hr, fun i hi => ?_⟩⟩⟩
    have hi0 : i = 0 := by have : i < 1 := hi; omega
    subst hi0
    exact ⟨cell_of_row _ _ 0 _ _ _ hr, cell_of_row _ _ 1 _ _ _ hr⟩
theorem ar_of {W : World} {R B : Nat} {a : Bool} {so : Option Addr} {N cap : Nat} (h : WRow W R B a so N cap #[.bool true, .bool false, .bool false, .bool false, .slice none 0 0, .bool false, .slice none 0 0, .slice none 0 0, .slice none 0 0, .int .i64 0, .int .i64 (-1)] 51) : (if a then [AR.mk ttEv 0 (-1)] else []).length = N ∧ N ≤ cap ∧ N ≤ 140737488355328 ∧ (0 < (if a then [AR.mk ttEv 0 (-1)] else []).length → ∃ b off, so = some ⟨b, off, none⟩ ∧ b < W.heap.size ∧ ∀ i, (hi : i < (if a then [AR.mk ttEv 0 (-1)] else []).length) → ∃ c0 c1 c2 c3 c4 c5 c6 c7 c8 : Value,
        C9 W b (off + i * 11) c0 c1 c2 c3 c4 c5 c6 c7 c8 ∧ W.cell? ⟨b, off + i * 11 + 9, none⟩ = some (.int .i64 ((if a then [AR.mk ttEv 0 (-1)] else [])[i]).min) ∧ W.cell? ⟨b, off + i * 11 + 10, none⟩ = some (.int .i64 ((if a then [AR.mk ttEv 0 (-1)] else [])[i]).max) ∧
        InT W 1 ((if a then [AR.mk ttEv 0 (-1)] else [])[i]).item (.agg #[c0, c1, c2, c3, c4, c5, c6, c7, c8])) := by
  cases a with
  | false =>
    obtain ⟨rfl, rfl, rfl⟩ := h.no rfl
    exact ⟨rfl, Nat.le_refl _, by omega, fun h0 => absurd h0 (Nat.lt_irrefl 0)⟩
  | true =>
    obtain ⟨b, rfl, rfl, rfl, _, _, hr⟩ := h.yes rfl
    refine ⟨rfl, Nat.le_refl _, by omega, fun _ => ⟨b, 0, rfl, lt_of_row hr, fun i hi => ?_⟩⟩
    have hi0 : i = 0 := by have : i < 1 := hi; omega
    subst hi0
    exact ⟨_, _, _, _, _, _, _, _, _, ⟨cell_of_row _ _ 0 _ _ _ hr, cell_of_row _ _ 1 _ _ _ hr, cell_of_row _ _ 2 _ _ _ hr, cell_of_row _ _ 3 _ _ _ hr, cell_of_row _ _ 4 _ _ _ hr, cell_of_row _ _ 5 _ _ _ hr, cell_of_row _ _ 6 _ _ _ hr, cell_of_row _ _ 7 _ _ _ hr, cell_of_row _ _ 8 _ _ _ hr⟩, cell_of_row _ _ 9 _ _ _ hr, cell_of_row _ _ 10 _ _ _ hr, inT_evr W 0⟩
theorem ob_of {W : World} {R B : Nat} {a : Bool} {so : Option Addr} {N cap : Nat} (h : WRow W R B a so N cap #[.slice none 0 0, .slice none 0 0, .slice none 0 0, .bool true, .bool false, .bool false, .bool false, .slice none 0 0, .bool false, .slice none 0 0, .slice none 0 0, .slice none 0 0] 55) : (if a then [OB.mk [] [] [] ttEv] else []).length = N ∧ N ≤ cap ∧ N ≤ 140737488355328 ∧ (0 < (if a then [OB.mk [] [] [] ttEv] else []).length → ∃ b off, so = some ⟨b, off, none⟩ ∧ b < W.heap.size ∧ ∀ i, (hi : i < (if a then [OB.mk [] [] [] ttEv] else []).length) → ∃ (ko : Option Addr) (kc : Nat) (fo : Option Addr) (fc : Nat) (mo : Option Addr) (mc : Nat) (c0 c1 c2 c3 c4 c5 c6 c7 c8 : Value),
        (W.cell? ⟨b, off + i * 12, none⟩ = some (.slice ko ((if a then [OB.mk [] [] [] ttEv] else [])[i]).names.length kc) ∧ W.cell? ⟨b, off + i * 12 + 1, none⟩ = some (.slice fo ((if a then [OB.mk [] [] [] ttEv] else [])[i]).fields.length fc) ∧ W.cell? ⟨b, off + i * 12 + 2, none⟩ = some (.slice mo ((if a then [OB.mk [] [] [] ttEv] else [])[i]).must.length mc)) ∧
        C9 W b (off + i * 12 + 3) c0 c1 c2 c3 c4 c5 c6 c7 c8 ∧
        (((if a then [OB.mk [] [] [] ttEv] else [])[i]).names.length ≤ kc ∧ ((if a then [OB.mk [] [] [] ttEv] else [])[i]).fields.length ≤ fc ∧ ((if a then [OB.mk [] [] [] ttEv] else [])[i]).must.length ≤ mc) ∧
        (((if a then [OB.mk [] [] [] ttEv] else [])[i]).names.length ≤ 140737488355328 ∧ ((if a then [OB.mk [] [] [] ttEv] else [])[i]).fields.length ≤ 140737488355328 ∧ ((if a then [OB.mk [] [] [] ttEv] else [])[i]).must.length ≤ 140737488355328 ∧ ∀ k ∈ ((if a then [OB.mk [] [] [] ttEv] else [])[i]).names, k.size ≤ 140737488355328) ∧
        KIn W ko ((if a then [OB.mk [] [] [] ttEv] else [])[i]).names ∧ BoIn W mo ((if a then [OB.mk [] [] [] ttEv] else [])[i]).must ∧
        (0 < ((if a then [OB.mk [] [] [] ttEv] else [])[i]).fields.length → ∃ b2 off2, fo = some ⟨b2, off2, none⟩ ∧ b2 < W.heap.size ∧ ∀ j, (hj : j < ((if a then [OB.mk [] [] [] ttEv] else [])[i]).fields.length) → ∃ d0 d1 d2 d3 d4 d5 d6 d7 d8 : Value,
          C9 W b2 (off2 + j * 9) d0 d1 d2 d3 d4 d5 d6 d7 d8 ∧ InT W 1 ((if a then [OB.mk [] [] [] ttEv] else [])[i]).fields[j] (.agg #[d0, d1, d2, d3, d4, d5, d6, d7, d8])) ∧
        InT W 1 ((if a then [OB.mk [] [] [] ttEv] else [])[i]).rest (.agg #[c0, c1, c2, c3, c4, c5, c6, c7, c8])) := by
  cases a with
  | false =>
    obtain ⟨rfl, rfl, rfl⟩ := h.no rfl
    exact ⟨rfl, Nat.le_refl _, by omega, fun h0 => absurd h0 (Nat.lt_irrefl 0)⟩
  | true =>
    obtain ⟨b, rfl, rfl, rfl, _, _, hr⟩ := h.yes rfl
    refine ⟨rfl, Nat.le_refl _, by omega, fun _ => ⟨b, 0, rfl, lt_of_row hr, fun i hi => ?_⟩⟩
    have hi0 : i = 0 := by have : i < 1 := hi; omega
    subst hi0
    exact ⟨none, 0, none, 0, none, 0, _, _, _, _, _, _, _, _, _, ⟨cell_of_row _ _ 0 _ _ _ hr, cell_of_row _ _ 1 _ _ _ hr, cell_of_row _ _ 2 _ _ _ hr⟩, ⟨cell_of_row _ _ 3 _ _ _ hr, cell_of_row _ _ 4 _ _ _ hr, cell_of_row _ _ 5 _ _ _ hr, cell_of_row _ _ 6 _ _ _ hr, cell_of_row _ _ 7 _ _ _ hr, cell_of_row _ _ 8 _ _ _ hr, cell_of_row _ _ 9 _ _ _ hr, cell_of_row _ _ 10 _ _ _ hr, cell_of_row _ _ 11 _ _ _ hr⟩, ⟨Nat.le_refl _, Nat.le_refl _, Nat.le_refl _⟩, ⟨Nat.zero_le _, Nat.zero_le _, Nat.zero_le _, fun k hk => absurd hk (List.not_mem_nil)⟩, ⟨fun h => absurd h (Nat.lt_irrefl 0)⟩, ⟨fun h => absurd h (Nat.lt_irrefl 0)⟩, fun h => absurd h (Nat.lt_irrefl 0), inT_evr W 0⟩
theorem wid_in {W : World} {R B : Nat} {a0 a1 a2 a3 a4 a5 a6 : Bool} {no : Option Addr} {nN nc : Nat} {ao : Option Addr} {aN ac : Nat} {oo : Option Addr} {oN oc : Nat} (h3 : WRow W R B a3 no nN nc #[.string ⟨#[]⟩, .string ⟨#[]⟩] 47) (h5 : WRow W R B a5 ao aN ac #[.bool true, .bool false, .bool false, .bool false, .slice none 0 0, .bool false, .slice none 0 0, .slice none 0 0, .slice none 0 0, .int .i64 0, .int .i64 (-1)] 51) (h6 : WRow W R B a6 oo oN oc #[.slice none 0 0, .slice none 0 0, .slice none 0 0, .bool true, .bool false, .bool false, .bool false, .slice none 0 0, .bool false, .slice none 0 0, .slice none 0 0, .slice none 0 0] 55) :
    InT W 2 (widL a0 a1 a2 a3 a4 a5 a6) (.agg #[.bool false, .bool a0, .bool a1, .bool a2, .slice no nN nc, .bool a4, .slice none 0 0, .slice ao aN ac, .slice oo oN oc]) := by
  obtain ⟨l3, c3, b3, s3⟩ := sp_of h3
  obtain ⟨l5, c5, b5, s5⟩ := ar_of h5
  obtain ⟨l6, c6, b6, s6⟩ := ob_of h6
  refine ⟨no, nc, none, 0, ao, ac, oo, oc, ?_, ⟨by show (if a3 then _ else _ : List _).length ≤ nc; rw [l3]; exact c3, Nat.le_refl _, by show (if a5 then _ else _ : List _).length ≤ ac; rw [l5]; exact c5, by show (if a6 then _ else _ : List _).length ≤ oc; rw [l6]; exact c6⟩, ⟨by show (if a3 then _ else _ : List _).length ≤ _; rw [l3]; exact b3, Nat.zero_le _, by show (if a5 then _ else _ : List _).length ≤ _; rw [l5]; exact b5, by show (if a6 then _ else _ : List _).length ≤ _; rw [l6]; exact b6⟩, ?_, fun k hk => absurd hk (List.not_mem_nil), s3, ⟨fun h => absurd h (Nat.lt_irrefl 0)⟩, s5, s6⟩
  · show Value.agg #[.bool false, .bool a0, .bool a1, .bool a2, .slice no nN nc, .bool a4, .slice none 0 0, .slice ao aN ac, .slice oo oN oc] = Value.agg #[.bool false, .bool a0, .bool a1, .bool a2, .slice no (if a3 then [((⟨#[]⟩ : ByteArray), (⟨#[]⟩ : ByteArray))] else []).length nc, .bool a4, .slice none 0 0, .slice ao (if a5 then [AR.mk ttEv 0 (-1)] else []).length ac, .slice oo (if a6 then [OB.mk [] [] [] ttEv] else []).length oc]
    rw [l3, l5, l6]
  · intro p hp
    have hp' : p ∈ (if a3 then [((⟨#[]⟩ : ByteArray), (⟨#[]⟩ : ByteArray))] else []) := hp
    cases a3 with
    | false => exact absurd hp' (List.not_mem_nil)
    | true =>
      obtain rfl := List.mem_singleton.1 hp'
      exact ⟨Nat.zero_le _, Nat.zero_le _⟩
end Go.Proofs.YtkaaleeldpghoaaGreat
