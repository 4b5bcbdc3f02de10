import Derived.Test.YtdjoelhiahpmlaaM26
import Derived.Test.YtdjoelhiahpmlaaM27
import Derived.Test.YtdjoelhiahpmlaaM31
import Derived.Test.YtdjoelhiahpmlaaM34
import Derived.Deep.Cut
namespace Go.Proofs.Ytdjoelhiahpmlaa
open Go.RowKit Go.Shelf Go.Sort
set_option linter.unusedVariables false
set_option linter.unusedSimpArgs false
attribute [local go_sem] Oper.semAt_some

/-- the bit of a kind -/
def kb (n : Int) (k : Nat) : Bool := decide (n / 2 ^ k % 2 = 1)
def kbs (n : Int) : List Bool := [kb n 0, kb n 1, kb n 2, kb n 3, kb n 4, kb n 5, kb n 6]
def all7 (a0 a1 a2 a3 a4 a5 a6 : Bool) : Bool := a0 && (a1 && (a2 && (a3 && (a4 && (a5 && a6)))))
set_option maxRecDepth 100000 in
theorem and_kbF0 : ∀ n : Fin 256, (bits .and .u8 (n.1 : Int) 1 == 0) = !kb (n.1 : Int) 0 := by decide +kernel
theorem and_kb0 {n : Int} (h : 0 ≤ n ∧ n < 256) : (bits .and .u8 n 1 == 0) = !kb n 0 := by
  have h1 := and_kbF0 ⟨n.toNat, by omega⟩
  have h2 : ((n.toNat : Nat) : Int) = n := by omega
  dsimp only at h1
  rwa [h2] at h1
set_option maxRecDepth 100000 in
theorem and64_kbF0 : ∀ n : Fin 256, (bits .and .i64 (bits .and .i64 (n.1 : Int) 127) 1 == 0) = !kb (n.1 : Int) 0 := by decide +kernel
theorem and64_kb0 {n : Int} (h : 0 ≤ n ∧ n < 256) : (bits .and .i64 (bits .and .i64 n 127) 1 == 0) = !kb n 0 := by
  have h1 := and64_kbF0 ⟨n.toNat, by omega⟩
  have h2 : ((n.toNat : Nat) : Int) = n := by omega
  dsimp only at h1
  rwa [h2] at h1
set_option maxRecDepth 100000 in
theorem and_kbF1 : ∀ n : Fin 256, (bits .and .u8 (n.1 : Int) 2 == 0) = !kb (n.1 : Int) 1 := by decide +kernel
theorem and_kb1 {n : Int} (h : 0 ≤ n ∧ n < 256) : (bits .and .u8 n 2 == 0) = !kb n 1 := by
  have h1 := and_kbF1 ⟨n.toNat, by omega⟩
  have h2 : ((n.toNat : Nat) : Int) = n := by omega
  dsimp only at h1
  rwa [h2] at h1
set_option maxRecDepth 100000 in
theorem and64_kbF1 : ∀ n : Fin 256, (bits .and .i64 (bits .and .i64 (n.1 : Int) 127) 2 == 0) = !kb (n.1 : Int) 1 := by decide +kernel
theorem and64_kb1 {n : Int} (h : 0 ≤ n ∧ n < 256) : (bits .and .i64 (bits .and .i64 n 127) 2 == 0) = !kb n 1 := by
  have h1 := and64_kbF1 ⟨n.toNat, by omega⟩
  have h2 : ((n.toNat : Nat) : Int) = n := by omega
  dsimp only at h1
  rwa [h2] at h1
set_option maxRecDepth 100000 in
theorem and_kbF2 : ∀ n : Fin 256, (bits .and .u8 (n.1 : Int) 4 == 0) = !kb (n.1 : Int) 2 := by decide +kernel
theorem and_kb2 {n : Int} (h : 0 ≤ n ∧ n < 256) : (bits .and .u8 n 4 == 0) = !kb n 2 := by
  have h1 := and_kbF2 ⟨n.toNat, by omega⟩
  have h2 : ((n.toNat : Nat) : Int) = n := by omega
  dsimp only at h1
  rwa [h2] at h1
set_option maxRecDepth 100000 in
theorem and64_kbF2 : ∀ n : Fin 256, (bits .and .i64 (bits .and .i64 (n.1 : Int) 127) 4 == 0) = !kb (n.1 : Int) 2 := by decide +kernel
theorem and64_kb2 {n : Int} (h : 0 ≤ n ∧ n < 256) : (bits .and .i64 (bits .and .i64 n 127) 4 == 0) = !kb n 2 := by
  have h1 := and64_kbF2 ⟨n.toNat, by omega⟩
  have h2 : ((n.toNat : Nat) : Int) = n := by omega
  dsimp only at h1
  rwa [h2] at h1
set_option maxRecDepth 100000 in
theorem and_kbF3 : ∀ n : Fin 256, (bits .and .u8 (n.1 : Int) 8 == 0) = !kb (n.1 : Int) 3 := by decide +kernel
theorem and_kb3 {n : Int} (h : 0 ≤ n ∧ n < 256) : (bits .and .u8 n 8 == 0) = !kb n 3 := by
  have h1 := and_kbF3 ⟨n.toNat, by omega⟩
  have h2 : ((n.toNat : Nat) : Int) = n := by omega
  dsimp only at h1
  rwa [h2] at h1
set_option maxRecDepth 100000 in
theorem and64_kbF3 : ∀ n : Fin 256, (bits .and .i64 (bits .and .i64 (n.1 : Int) 127) 8 == 0) = !kb (n.1 : Int) 3 := by decide +kernel
theorem and64_kb3 {n : Int} (h : 0 ≤ n ∧ n < 256) : (bits .and .i64 (bits .and .i64 n 127) 8 == 0) = !kb n 3 := by
  have h1 := and64_kbF3 ⟨n.toNat, by omega⟩
  have h2 : ((n.toNat : Nat) : Int) = n := by omega
  dsimp only at h1
  rwa [h2] at h1
set_option maxRecDepth 100000 in
theorem and_kbF4 : ∀ n : Fin 256, (bits .and .u8 (n.1 : Int) 16 == 0) = !kb (n.1 : Int) 4 := by decide +kernel
theorem and_kb4 {n : Int} (h : 0 ≤ n ∧ n < 256) : (bits .and .u8 n 16 == 0) = !kb n 4 := by
  have h1 := and_kbF4 ⟨n.toNat, by omega⟩
  have h2 : ((n.toNat : Nat) : Int) = n := by omega
  dsimp only at h1
  rwa [h2] at h1
set_option maxRecDepth 100000 in
theorem and64_kbF4 : ∀ n : Fin 256, (bits .and .i64 (bits .and .i64 (n.1 : Int) 127) 16 == 0) = !kb (n.1 : Int) 4 := by decide +kernel
theorem and64_kb4 {n : Int} (h : 0 ≤ n ∧ n < 256) : (bits .and .i64 (bits .and .i64 n 127) 16 == 0) = !kb n 4 := by
  have h1 := and64_kbF4 ⟨n.toNat, by omega⟩
  have h2 : ((n.toNat : Nat) : Int) = n := by omega
  dsimp only at h1
  rwa [h2] at h1
set_option maxRecDepth 100000 in
theorem and_kbF5 : ∀ n : Fin 256, (bits .and .u8 (n.1 : Int) 32 == 0) = !kb (n.1 : Int) 5 := by decide +kernel
theorem and_kb5 {n : Int} (h : 0 ≤ n ∧ n < 256) : (bits .and .u8 n 32 == 0) = !kb n 5 := by
  have h1 := and_kbF5 ⟨n.toNat, by omega⟩
  have h2 : ((n.toNat : Nat) : Int) = n := by omega
  dsimp only at h1
  rwa [h2] at h1
set_option maxRecDepth 100000 in
theorem and64_kbF5 : ∀ n : Fin 256, (bits .and .i64 (bits .and .i64 (n.1 : Int) 127) 32 == 0) = !kb (n.1 : Int) 5 := by decide +kernel
theorem and64_kb5 {n : Int} (h : 0 ≤ n ∧ n < 256) : (bits .and .i64 (bits .and .i64 n 127) 32 == 0) = !kb n 5 := by
  have h1 := and64_kbF5 ⟨n.toNat, by omega⟩
  have h2 : ((n.toNat : Nat) : Int) = n := by omega
  dsimp only at h1
  rwa [h2] at h1
set_option maxRecDepth 100000 in
theorem and_kbF6 : ∀ n : Fin 256, (bits .and .u8 (n.1 : Int) 64 == 0) = !kb (n.1 : Int) 6 := by decide +kernel
theorem and_kb6 {n : Int} (h : 0 ≤ n ∧ n < 256) : (bits .and .u8 n 64 == 0) = !kb n 6 := by
  have h1 := and_kbF6 ⟨n.toNat, by omega⟩
  have h2 : ((n.toNat : Nat) : Int) = n := by omega
  dsimp only at h1
  rwa [h2] at h1
set_option maxRecDepth 100000 in
theorem and64_kbF6 : ∀ n : Fin 256, (bits .and .i64 (bits .and .i64 (n.1 : Int) 127) 64 == 0) = !kb (n.1 : Int) 6 := by decide +kernel
theorem and64_kb6 {n : Int} (h : 0 ≤ n ∧ n < 256) : (bits .and .i64 (bits .and .i64 n 127) 64 == 0) = !kb n 6 := by
  have h1 := and64_kbF6 ⟨n.toNat, by omega⟩
  have h2 : ((n.toNat : Nat) : Int) = n := by omega
  dsimp only at h1
  rwa [h2] at h1
set_option maxRecDepth 100000 in
theorem all_kbFu8 : ∀ n : Fin 256, (bits .and .u8 (n.1 : Int) 127 == 127) = all7 (kb n.1 0) (kb n.1 1) (kb n.1 2) (kb n.1 3) (kb n.1 4) (kb n.1 5) (kb n.1 6) := by decide +kernel
theorem all_kbu8 {n : Int} (h : 0 ≤ n ∧ n < 256) : (bits .and .u8 n 127 == 127) = all7 (kb n 0) (kb n 1) (kb n 2) (kb n 3) (kb n 4) (kb n 5) (kb n 6) := by
  have h1 := all_kbFu8 ⟨n.toNat, by omega⟩
  have h2 : ((n.toNat : Nat) : Int) = n := by omega
  dsimp only at h1
  rwa [h2] at h1
set_option maxRecDepth 100000 in
theorem all_kbFi64 : ∀ n : Fin 256, (bits .and .i64 (n.1 : Int) 127 == 127) = all7 (kb n.1 0) (kb n.1 1) (kb n.1 2) (kb n.1 3) (kb n.1 4) (kb n.1 5) (kb n.1 6) := by decide +kernel
theorem all_kbi64 {n : Int} (h : 0 ≤ n ∧ n < 256) : (bits .and .i64 n 127 == 127) = all7 (kb n 0) (kb n 1) (kb n 2) (kb n 3) (kb n 4) (kb n 5) (kb n 6) := by
  have h1 := all_kbFi64 ⟨n.toNat, by omega⟩
  have h2 : ((n.toNat : Nat) : Int) = n := by omega
  dsimp only at h1
  rwa [h2] at h1
set_option maxRecDepth 100000 in
theorem kv_kbF : ∀ n : Fin 256, bits .and .u8 (n.1 : Int) 127 = kvL (kbs n.1) := by decide +kernel
theorem kv_kb {n : Int} (h : 0 ≤ n ∧ n < 256) : bits .and .u8 n 127 = kvL (kbs n) := by
  have h1 := kv_kbF ⟨n.toNat, by omega⟩
  have h2 : ((n.toNat : Nat) : Int) = n := by omega
  dsimp only at h1
  rwa [h2] at h1
set_option maxRecDepth 100000 in
set_option maxHeartbeats 1600000 in
theorem w_ofk0 (n : Int) (B : Nat) (w : World) (h : 0 ≤ n ∧ n < 256) (hc : w.cell? ⟨B, 0, none⟩ = some (.int .u8 n)) : Calls Try.prog 51 #[.int .i64 0, .pointer (some ⟨B, 0, none⟩)] w fun e w' => e = .returned (.bool (kb n 0)) ∧ Below w.heap.size w w' := by
  have hb := and_kb0 h
  obtain ⟨c, hcc⟩ : ∃ c, kb n 0 = c := ⟨_, rfl⟩
  rw [hcc] at hb ⊢
  clear hcc
  have hb2 : (bits .and .u8 n 1 != 0) = c := by show (!(bits .and .u8 n 1 == 0)) = c; rw [hb]; cases c <;> rfl
  have C1 := Hid.mk (fun (d : Nat) (os : Array Obj) => (w_bitn0 (grow (redrawn w d) os)).mono (fun e w' kq => (⟨kq.1, by rw [kq.2]; exact Below.refl _ _⟩ : e = .returned (.int .u8 1) ∧ Below (grow (redrawn w d) os).heap.size (grow (redrawn w d) os) w')))
  have A0 := fun d os => cell_regrown hc d os
  go_enter Try.func51, Try.ntmps51
  go_wp2_with fail
  refine wp_region_quiet_below (by kernel_rfl) (by kernel_rfl) ?_
  repeat (go_big_quiet_step (exact Calls.regrown_of (C1.out _ _)))
  refine wpQuiet_nil ?_
  intro w9 hw'
  have HB9 : Hid (Below w.heap.size w w9) := by
    obtain ⟨⟨dq, osq⟩, rfl⟩ := hw'
    exact below_regrown w dq osq
  clear hw' A0 C1 hc
  cases c
  all_goals
    go_wp2_with fail
    go_ret
    exact ⟨by first | rfl | simp [hb, hb2], HB9.out⟩
set_option maxRecDepth 100000 in
set_option maxHeartbeats 1600000 in
theorem w_ofk1 (n : Int) (B : Nat) (w : World) (h : 0 ≤ n ∧ n < 256) (hc : w.cell? ⟨B, 0, none⟩ = some (.int .u8 n)) : Calls Try.prog 51 #[.int .i64 1, .pointer (some ⟨B, 0, none⟩)] w fun e w' => e = .returned (.bool (kb n 1)) ∧ Below w.heap.size w w' := by
  have hb := and_kb1 h
  obtain ⟨c, hcc⟩ : ∃ c, kb n 1 = c := ⟨_, rfl⟩
  rw [hcc] at hb ⊢
  clear hcc
  have hb2 : (bits .and .u8 n 2 != 0) = c := by show (!(bits .and .u8 n 2 == 0)) = c; rw [hb]; cases c <;> rfl
  have C1 := Hid.mk (fun (d : Nat) (os : Array Obj) => (w_bitn1 (grow (redrawn w d) os)).mono (fun e w' kq => (⟨kq.1, by rw [kq.2]; exact Below.refl _ _⟩ : e = .returned (.int .u8 2) ∧ Below (grow (redrawn w d) os).heap.size (grow (redrawn w d) os) w')))
  have A0 := fun d os => cell_regrown hc d os
  go_enter Try.func51, Try.ntmps51
  go_wp2_with fail
  refine wp_region_quiet_below (by kernel_rfl) (by kernel_rfl) ?_
  repeat (go_big_quiet_step (exact Calls.regrown_of (C1.out _ _)))
  refine wpQuiet_nil ?_
  intro w9 hw'
  have HB9 : Hid (Below w.heap.size w w9) := by
    obtain ⟨⟨dq, osq⟩, rfl⟩ := hw'
    exact below_regrown w dq osq
  clear hw' A0 C1 hc
  cases c
  all_goals
    go_wp2_with fail
    go_ret
    exact ⟨by first | rfl | simp [hb, hb2], HB9.out⟩
set_option maxRecDepth 100000 in
set_option maxHeartbeats 1600000 in
theorem w_ofk2 (n : Int) (B : Nat) (w : World) (h : 0 ≤ n ∧ n < 256) (hc : w.cell? ⟨B, 0, none⟩ = some (.int .u8 n)) : Calls Try.prog 51 #[.int .i64 2, .pointer (some ⟨B, 0, none⟩)] w fun e w' => e = .returned (.bool (kb n 2)) ∧ Below w.heap.size w w' := by
  have hb := and_kb2 h
  obtain ⟨c, hcc⟩ : ∃ c, kb n 2 = c := ⟨_, rfl⟩
  rw [hcc] at hb ⊢
  clear hcc
  have hb2 : (bits .and .u8 n 4 != 0) = c := by show (!(bits .and .u8 n 4 == 0)) = c; rw [hb]; cases c <;> rfl
  have C1 := Hid.mk (fun (d : Nat) (os : Array Obj) => (w_bitn2 (grow (redrawn w d) os)).mono (fun e w' kq => (⟨kq.1, by rw [kq.2]; exact Below.refl _ _⟩ : e = .returned (.int .u8 4) ∧ Below (grow (redrawn w d) os).heap.size (grow (redrawn w d) os) w')))
  have A0 := fun d os => cell_regrown hc d os
  go_enter Try.func51, Try.ntmps51
  go_wp2_with fail
  refine wp_region_quiet_below (by kernel_rfl) (by kernel_rfl) ?_
  repeat (go_big_quiet_step (exact Calls.regrown_of (C1.out _ _)))
  refine wpQuiet_nil ?_
  intro w9 hw'
  have HB9 : Hid (Below w.heap.size w w9) := by
    obtain ⟨⟨dq, osq⟩, rfl⟩ := hw'
    exact below_regrown w dq osq
  clear hw' A0 C1 hc
  cases c
  all_goals
    go_wp2_with fail
    go_ret
    exact ⟨by first | rfl | simp [hb, hb2], HB9.out⟩
set_option maxRecDepth 100000 in
set_option maxHeartbeats 1600000 in
theorem w_ofk3 (n : Int) (B : Nat) (w : World) (h : 0 ≤ n ∧ n < 256) (hc : w.cell? ⟨B, 0, none⟩ = some (.int .u8 n)) : Calls Try.prog 51 #[.int .i64 3, .pointer (some ⟨B, 0, none⟩)] w fun e w' => e = .returned (.bool (kb n 3)) ∧ Below w.heap.size w w' := by
  have hb := and_kb3 h
  obtain ⟨c, hcc⟩ : ∃ c, kb n 3 = c := ⟨_, rfl⟩
  rw [hcc] at hb ⊢
  clear hcc
  have hb2 : (bits .and .u8 n 8 != 0) = c := by show (!(bits .and .u8 n 8 == 0)) = c; rw [hb]; cases c <;> rfl
  have C1 := Hid.mk (fun (d : Nat) (os : Array Obj) => (w_bitn3 (grow (redrawn w d) os)).mono (fun e w' kq => (⟨kq.1, by rw [kq.2]; exact Below.refl _ _⟩ : e = .returned (.int .u8 8) ∧ Below (grow (redrawn w d) os).heap.size (grow (redrawn w d) os) w')))
  have A0 := fun d os => cell_regrown hc d os
  go_enter Try.func51, Try.ntmps51
  go_wp2_with fail
  refine wp_region_quiet_below (by kernel_rfl) (by kernel_rfl) ?_
  repeat (go_big_quiet_step (exact Calls.regrown_of (C1.out _ _)))
  refine wpQuiet_nil ?_
  intro w9 hw'
  have HB9 : Hid (Below w.heap.size w w9) := by
    obtain ⟨⟨dq, osq⟩, rfl⟩ := hw'
    exact below_regrown w dq osq
  clear hw' A0 C1 hc
  cases c
  all_goals
    go_wp2_with fail
    go_ret
    exact ⟨by first | rfl | simp [hb, hb2], HB9.out⟩
set_option maxRecDepth 100000 in
set_option maxHeartbeats 1600000 in
theorem w_ofk4 (n : Int) (B : Nat) (w : World) (h : 0 ≤ n ∧ n < 256) (hc : w.cell? ⟨B, 0, none⟩ = some (.int .u8 n)) : Calls Try.prog 51 #[.int .i64 4, .pointer (some ⟨B, 0, none⟩)] w fun e w' => e = .returned (.bool (kb n 4)) ∧ Below w.heap.size w w' := by
  have hb := and_kb4 h
  obtain ⟨c, hcc⟩ : ∃ c, kb n 4 = c := ⟨_, rfl⟩
  rw [hcc] at hb ⊢
  clear hcc
  have hb2 : (bits .and .u8 n 16 != 0) = c := by show (!(bits .and .u8 n 16 == 0)) = c; rw [hb]; cases c <;> rfl
  have C1 := Hid.mk (fun (d : Nat) (os : Array Obj) => (w_bitn4 (grow (redrawn w d) os)).mono (fun e w' kq => (⟨kq.1, by rw [kq.2]; exact Below.refl _ _⟩ : e = .returned (.int .u8 16) ∧ Below (grow (redrawn w d) os).heap.size (grow (redrawn w d) os) w')))
  have A0 := fun d os => cell_regrown hc d os
  go_enter Try.func51, Try.ntmps51
  go_wp2_with fail
  refine wp_region_quiet_below (by kernel_rfl) (by kernel_rfl) ?_
  repeat (go_big_quiet_step (exact Calls.regrown_of (C1.out _ _)))
  refine wpQuiet_nil ?_
  intro w9 hw'
  have HB9 : Hid (Below w.heap.size w w9) := by
    obtain ⟨⟨dq, osq⟩, rfl⟩ := hw'
    exact below_regrown w dq osq
  clear hw' A0 C1 hc
  cases c
  all_goals
    go_wp2_with fail
    go_ret
    exact ⟨by first | rfl | simp [hb, hb2], HB9.out⟩
set_option maxRecDepth 100000 in
set_option maxHeartbeats 1600000 in
theorem w_ofk5 (n : Int) (B : Nat) (w : World) (h : 0 ≤ n ∧ n < 256) (hc : w.cell? ⟨B, 0, none⟩ = some (.int .u8 n)) : Calls Try.prog 51 #[.int .i64 5, .pointer (some ⟨B, 0, none⟩)] w fun e w' => e = .returned (.bool (kb n 5)) ∧ Below w.heap.size w w' := by
  have hb := and_kb5 h
  obtain ⟨c, hcc⟩ : ∃ c, kb n 5 = c := ⟨_, rfl⟩
  rw [hcc] at hb ⊢
  clear hcc
  have hb2 : (bits .and .u8 n 32 != 0) = c := by show (!(bits .and .u8 n 32 == 0)) = c; rw [hb]; cases c <;> rfl
  have C1 := Hid.mk (fun (d : Nat) (os : Array Obj) => (w_bitn5 (grow (redrawn w d) os)).mono (fun e w' kq => (⟨kq.1, by rw [kq.2]; exact Below.refl _ _⟩ : e = .returned (.int .u8 32) ∧ Below (grow (redrawn w d) os).heap.size (grow (redrawn w d) os) w')))
  have A0 := fun d os => cell_regrown hc d os
  go_enter Try.func51, Try.ntmps51
  go_wp2_with fail
  refine wp_region_quiet_below (by kernel_rfl) (by kernel_rfl) ?_
  repeat (go_big_quiet_step (exact Calls.regrown_of (C1.out _ _)))
  refine wpQuiet_nil ?_
  intro w9 hw'
  have HB9 : Hid (Below w.heap.size w w9) := by
    obtain ⟨⟨dq, osq⟩, rfl⟩ := hw'
    exact below_regrown w dq osq
  clear hw' A0 C1 hc
  cases c
  all_goals
    go_wp2_with fail
    go_ret
    exact ⟨by first | rfl | simp [hb, hb2], HB9.out⟩
set_option maxRecDepth 100000 in
set_option maxHeartbeats 1600000 in
theorem w_ofk6 (n : Int) (B : Nat) (w : World) (h : 0 ≤ n ∧ n < 256) (hc : w.cell? ⟨B, 0, none⟩ = some (.int .u8 n)) : Calls Try.prog 51 #[.int .i64 6, .pointer (some ⟨B, 0, none⟩)] w fun e w' => e = .returned (.bool (kb n 6)) ∧ Below w.heap.size w w' := by
  have hb := and_kb6 h
  obtain ⟨c, hcc⟩ : ∃ c, kb n 6 = c := ⟨_, rfl⟩
  rw [hcc] at hb ⊢
  clear hcc
  have hb2 : (bits .and .u8 n 64 != 0) = c := by show (!(bits .and .u8 n 64 == 0)) = c; rw [hb]; cases c <;> rfl
  have C1 := Hid.mk (fun (d : Nat) (os : Array Obj) => (w_bitn6 (grow (redrawn w d) os)).mono (fun e w' kq => (⟨kq.1, by rw [kq.2]; exact Below.refl _ _⟩ : e = .returned (.int .u8 64) ∧ Below (grow (redrawn w d) os).heap.size (grow (redrawn w d) os) w')))
  have A0 := fun d os => cell_regrown hc d os
  go_enter Try.func51, Try.ntmps51
  go_wp2_with fail
  refine wp_region_quiet_below (by kernel_rfl) (by kernel_rfl) ?_
  repeat (go_big_quiet_step (exact Calls.regrown_of (C1.out _ _)))
  refine wpQuiet_nil ?_
  intro w9 hw'
  have HB9 : Hid (Below w.heap.size w w9) := by
    obtain ⟨⟨dq, osq⟩, rfl⟩ := hw'
    exact below_regrown w dq osq
  clear hw' A0 C1 hc
  cases c
  all_goals
    go_wp2_with fail
    go_ret
    exact ⟨by first | rfl | simp [hb, hb2], HB9.out⟩
end Go.Proofs.Ytdjoelhiahpmlaa
namespace Go.Proofs.Ytdjoelhiahpmlaa
open Go.RowKit Go.Shelf Go.Sort
set_option linter.unusedVariables false
set_option linter.unusedSimpArgs false
attribute [local go_sem] Oper.semAt_some

/-- the widest type of some kinds -/
def widL (a0 a1 a2 a3 a4 a5 a6 : Bool) : TT := .mk false a0 a1 a2 a4 (if a3 then [(⟨#[]⟩, ⟨#[]⟩)] else []) [] (if a5 then [.mk ttEv 0 (-1)] else []) (if a6 then [.mk [] [] [] ttEv] else [])
def widB (a0 a1 a2 a3 a4 a5 a6 : Bool) : TT := if all7 a0 a1 a2 a3 a4 a5 a6 then ttEv else widL a0 a1 a2 a3 a4 a5 a6
def widT (n : Int) : TT := widB (kb n 0) (kb n 1) (kb n 2) (kb n 3) (kb n 4) (kb n 5) (kb n 6)
/-- a type whose blocks all lie from L on: it stands wherever these are as they are -/
def FrT (L : Nat) (W : World) (h : Nat) (T : TT) (v : Value) : Prop := ∀ x : World, W.heap.size ≤ x.heap.size → (∀ b, L ≤ b → b < W.heap.size → x.heap[b]? = W.heap[b]?) → InT x h T v
theorem FrT.here {L : Nat} {W : World} {h : Nat} {T : TT} {v : Value} (f : FrT L W h T v) : InT W h T v := f W (Nat.le_refl _) (fun _ _ _ => rfl)
theorem FrT.keep {L : Nat} {W W' : World} {h : Nat} {T : TT} {v : Value} (f : FrT L W h T v) (hb : Below W.heap.size W W') : FrT L W' h T v :=
  fun x hs hx => f x (Nat.le_trans hb.size hs) (fun b h1 h2 => (hx b h1 (Nat.lt_of_lt_of_le h2 hb.size)).trans (hb.block b h2))
theorem FrT.mono {L L' : Nat} {W : World} {h : Nat} {T : TT} {v : Value} (f : FrT L W h T v) (hl : L' ≤ L) : FrT L' W h T v :=
  fun x hs hx => f x hs (fun b h1 h2 => hx b (Nat.le_trans hl h1) h2)
theorem FrT.set {L : Nat} {W W' : World} {h : Nat} {T : TT} {v : Value} (f : FrT L W h T v) (hs : W'.heap.size = W.heap.size) (hb : ∀ b, L ≤ b → W'.heap[b]? = W.heap[b]?) : FrT L W' h T v :=
  fun x h1 hx => f x (by omega) (fun b h2 h3 => (hx b h2 (by omega)).trans (hb b h2))
theorem FrT.le {L : Nat} {W : World} {h m : Nat} {T : TT} {v : Value} (f : FrT L W h T v) (hm : h ≤ m) : FrT L W m T v := fun x h1 h2 => (f x h1 h2).le hm
/-- a row of one element, or none -/
structure WRow (u : World) (R B : Nat) (c : Bool) (so : Option Addr) (N cap : Nat) (cs : Array Value) (t : TypeId) : Prop where
  yes : c = true → ∃ b, so = some ⟨b, 0, none⟩ ∧ N = 1 ∧ cap = 1 ∧ R < b ∧ b ≠ B ∧ u.heap[b]? = some (.cells cs t (0, 0))
  no : c = false → so = none ∧ N = 0 ∧ cap = 0
theorem WRow.keep {u u' : World} {R B : Nat} {c : Bool} {so : Option Addr} {N cap : Nat} {cs : Array Value} {t : TypeId} (h : WRow u R B c so N cap cs t) (hb : ∀ b, R < b → b ≠ B → b < u.heap.size → u'.heap[b]? = u.heap[b]?) : WRow u' R B c so N cap cs t := by
  refine ⟨fun hc => ?_, h.no⟩
  obtain ⟨b, e1, e2, e3, e4, e5, e6⟩ := h.yes hc
  have hlt : b < u.heap.size := by
    rcases Nat.lt_or_ge b u.heap.size with hh | hh
    · exact hh
    · rw [Array.getElem?_eq_none hh] at e6; cases e6
  exact ⟨b, e1, e2, e3, e4, e5, (hb b e4 e5 hlt).trans e6⟩
/-- what lies while a type is made: some block, the answer's, the type's -/
structure OKx (w u : World) (KB : Nat) (kc : Array Value) (kt : TypeId) (R B : Nat) (c : Array Value) : Prop where
  below : Below w.heap.size w u
  kin : u.heap[KB]? = some (.cells kc kt (0, 0))
  res : u.heap[R]? = some (.cells #[.bool false, .bool false, .bool false, .bool false, .slice none 0 0, .bool false, .slice none 0 0, .slice none 0 0, .slice none 0 0] 33 (0, 0))
  out : u.heap[B]? = some (.cells c 33 (0, 0))
  ne : KB ≠ B ∧ R ≠ B ∧ w.heap.size ≤ B ∧ w.heap.size ≤ R
theorem lt_of_row {u : World} {b : Nat} {x : Obj} (h : u.heap[b]? = some x) : b < u.heap.size := by
  rcases Nat.lt_or_ge b u.heap.size with hh | hh
  · exact hh
  · rw [Array.getElem?_eq_none hh] at h; cases h
theorem OKx.keep {w u u' : World} {KB : Nat} {kc : Array Value} {kt : TypeId} {R B : Nat} {c : Array Value} (h : OKx w u KB kc kt R B c) (hb : Below u.heap.size u u') : OKx w u' KB kc kt R B c :=
  ⟨h.below.trans (hb.mono h.below.size), (hb.block KB (lt_of_row h.kin)).trans h.kin, (hb.block R (lt_of_row h.res)).trans h.res, (hb.block B (lt_of_row h.out)).trans h.out, h.ne⟩
theorem OKx.set {w u : World} {KB : Nat} {kc : Array Value} {kt : TypeId} {R B : Nat} {c : Array Value} (h : OKx w u KB kc kt R B c) (i : Nat) (v : Value) : OKx w (u.setCell ⟨B, i, none⟩ v) KB kc kt R B (c.setIfInBounds i v) :=
  ⟨h.below.setCell (p := ⟨B, i, none⟩) h.ne.2.2.1 v, (Below.heap_setCell _ _ _ _ h.ne.1).trans h.kin, (Below.heap_setCell _ _ _ _ h.ne.2.1).trans h.res, rset9 (i := i) v h.out, h.ne⟩
theorem sp_of {W : World} {R B : Nat} {a : Bool} {so : Option Addr} {N cap : Nat} (h : WRow W R B a so N cap #[.string ⟨#[]⟩, .string ⟨#[]⟩] 42) : (if a then [((⟨#[]⟩ : ByteArray), (⟨#[]⟩ : ByteArray))] else []).length = N ∧ N ≤ cap ∧ N ≤ 140737488355328 ∧ SpIn W so (if a then [(⟨#[]⟩, ⟨#[]⟩)] else []) := by
  cases a with
  | false =>
    obtain ⟨rfl, rfl, rfl⟩ := h.no rfl
    exact ⟨rfl, Nat.le_refl _, by omega, ⟨fun h0 => absurd h0 (Nat.lt_irrefl 0)⟩⟩
  | true =>
    obtain ⟨b, rfl, rfl, rfl, _, _, hr⟩ := h.yes rfl
    refine ⟨rfl, Nat.le_refl _, by omega, ⟨fun _ => ⟨b, 0, rfl, lt_of_row hr, fun i hi => ?_⟩⟩⟩
    have hi0 : i = 0 := by have : i < 1 := hi; omega
    subst hi0
    exact ⟨cell_of_row _ _ 0 _ _ _ hr, cell_of_row _ _ 1 _ _ _ hr⟩
theorem ar_of {W : World} {R B : Nat} {a : Bool} {so : Option Addr} {N cap : Nat} (h : WRow W R B a so N cap #[.bool true, .bool false, .bool false, .bool false, .slice none 0 0, .bool false, .slice none 0 0, .slice none 0 0, .slice none 0 0, .int .i64 0, .int .i64 (-1)] 50) : (if a then [AR.mk ttEv 0 (-1)] else []).length = N ∧ N ≤ cap ∧ N ≤ 140737488355328 ∧ (0 < (if a then [AR.mk ttEv 0 (-1)] else []).length → ∃ b off, so = some ⟨b, off, none⟩ ∧ b < W.heap.size ∧ ∀ i, (hi : i < (if a then [AR.mk ttEv 0 (-1)] else []).length) → ∃ c0 c1 c2 c3 c4 c5 c6 c7 c8 : Value,
        C9 W b (off + i * 11) c0 c1 c2 c3 c4 c5 c6 c7 c8 ∧ W.cell? ⟨b, off + i * 11 + 9, none⟩ = some (.int .i64 ((if a then [AR.mk ttEv 0 (-1)] else [])[i]).min) ∧ W.cell? ⟨b, off + i * 11 + 10, none⟩ = some (.int .i64 ((if a then [AR.mk ttEv 0 (-1)] else [])[i]).max) ∧
        InT W 1 ((if a then [AR.mk ttEv 0 (-1)] else [])[i]).item (.agg #[c0, c1, c2, c3, c4, c5, c6, c7, c8])) := by
  cases a with
  | false =>
    obtain ⟨rfl, rfl, rfl⟩ := h.no rfl
    exact ⟨rfl, Nat.le_refl _, by omega, fun h0 => absurd h0 (Nat.lt_irrefl 0)⟩
  | true =>
    obtain ⟨b, rfl, rfl, rfl, _, _, hr⟩ := h.yes rfl
    refine ⟨rfl, Nat.le_refl _, by omega, fun _ => ⟨b, 0, rfl, lt_of_row hr, fun i hi => ?_⟩⟩
    have hi0 : i = 0 := by have : i < 1 := hi; omega
    subst hi0
    exact ⟨_, _, _, _, _, _, _, _, _, ⟨cell_of_row _ _ 0 _ _ _ hr, cell_of_row _ _ 1 _ _ _ hr, cell_of_row _ _ 2 _ _ _ hr, cell_of_row _ _ 3 _ _ _ hr, cell_of_row _ _ 4 _ _ _ hr, cell_of_row _ _ 5 _ _ _ hr, cell_of_row _ _ 6 _ _ _ hr, cell_of_row _ _ 7 _ _ _ hr, cell_of_row _ _ 8 _ _ _ hr⟩, cell_of_row _ _ 9 _ _ _ hr, cell_of_row _ _ 10 _ _ _ hr, inT_evr W 0⟩
theorem ob_of {W : World} {R B : Nat} {a : Bool} {so : Option Addr} {N cap : Nat} (h : WRow W R B a so N cap #[.slice none 0 0, .slice none 0 0, .slice none 0 0, .bool true, .bool false, .bool false, .bool false, .slice none 0 0, .bool false, .slice none 0 0, .slice none 0 0, .slice none 0 0] 55) : (if a then [OB.mk [] [] [] ttEv] else []).length = N ∧ N ≤ cap ∧ N ≤ 140737488355328 ∧ (0 < (if a then [OB.mk [] [] [] ttEv] else []).length → ∃ b off, so = some ⟨b, off, none⟩ ∧ b < W.heap.size ∧ ∀ i, (hi : i < (if a then [OB.mk [] [] [] ttEv] else []).length) → ∃ (ko : Option Addr) (kc : Nat) (fo : Option Addr) (fc : Nat) (mo : Option Addr) (mc : Nat) (c0 c1 c2 c3 c4 c5 c6 c7 c8 : Value),
        (W.cell? ⟨b, off + i * 12, none⟩ = some (.slice ko ((if a then [OB.mk [] [] [] ttEv] else [])[i]).names.length kc) ∧ W.cell? ⟨b, off + i * 12 + 1, none⟩ = some (.slice fo ((if a then [OB.mk [] [] [] ttEv] else [])[i]).fields.length fc) ∧ W.cell? ⟨b, off + i * 12 + 2, none⟩ = some (.slice mo ((if a then [OB.mk [] [] [] ttEv] else [])[i]).must.length mc)) ∧
        C9 W b (off + i * 12 + 3) c0 c1 c2 c3 c4 c5 c6 c7 c8 ∧
        (((if a then [OB.mk [] [] [] ttEv] else [])[i]).names.length ≤ kc ∧ ((if a then [OB.mk [] [] [] ttEv] else [])[i]).fields.length ≤ fc ∧ ((if a then [OB.mk [] [] [] ttEv] else [])[i]).must.length ≤ mc) ∧
        (((if a then [OB.mk [] [] [] ttEv] else [])[i]).names.length ≤ 140737488355328 ∧ ((if a then [OB.mk [] [] [] ttEv] else [])[i]).fields.length ≤ 140737488355328 ∧ ((if a then [OB.mk [] [] [] ttEv] else [])[i]).must.length ≤ 140737488355328 ∧ ∀ k ∈ ((if a then [OB.mk [] [] [] ttEv] else [])[i]).names, k.size ≤ 140737488355328) ∧
        KIn W ko ((if a then [OB.mk [] [] [] ttEv] else [])[i]).names ∧ BoIn W mo ((if a then [OB.mk [] [] [] ttEv] else [])[i]).must ∧
        (0 < ((if a then [OB.mk [] [] [] ttEv] else [])[i]).fields.length → ∃ b2 off2, fo = some ⟨b2, off2, none⟩ ∧ b2 < W.heap.size ∧ ∀ j, (hj : j < ((if a then [OB.mk [] [] [] ttEv] else [])[i]).fields.length) → ∃ d0 d1 d2 d3 d4 d5 d6 d7 d8 : Value,
          C9 W b2 (off2 + j * 9) d0 d1 d2 d3 d4 d5 d6 d7 d8 ∧ InT W 1 ((if a then [OB.mk [] [] [] ttEv] else [])[i]).fields[j] (.agg #[d0, d1, d2, d3, d4, d5, d6, d7, d8])) ∧
        InT W 1 ((if a then [OB.mk [] [] [] ttEv] else [])[i]).rest (.agg #[c0, c1, c2, c3, c4, c5, c6, c7, c8])) := by
  cases a with
  | false =>
    obtain ⟨rfl, rfl, rfl⟩ := h.no rfl
    exact ⟨rfl, Nat.le_refl _, by omega, fun h0 => absurd h0 (Nat.lt_irrefl 0)⟩
  | true =>
    obtain ⟨b, rfl, rfl, rfl, _, _, hr⟩ := h.yes rfl
    refine ⟨rfl, Nat.le_refl _, by omega, fun _ => ⟨b, 0, rfl, lt_of_row hr, fun i hi => ?_⟩⟩
    have hi0 : i = 0 := by have : i < 1 := hi; omega
    subst hi0
    exact ⟨none, 0, none, 0, none, 0, _, _, _, _, _, _, _, _, _, ⟨cell_of_row _ _ 0 _ _ _ hr, cell_of_row _ _ 1 _ _ _ hr, cell_of_row _ _ 2 _ _ _ hr⟩, ⟨cell_of_row _ _ 3 _ _ _ hr, cell_of_row _ _ 4 _ _ _ hr, cell_of_row _ _ 5 _ _ _ hr, cell_of_row _ _ 6 _ _ _ hr, cell_of_row _ _ 7 _ _ _ hr, cell_of_row _ _ 8 _ _ _ hr, cell_of_row _ _ 9 _ _ _ hr, cell_of_row _ _ 10 _ _ _ hr, cell_of_row _ _ 11 _ _ _ hr⟩, ⟨Nat.le_refl _, Nat.le_refl _, Nat.le_refl _⟩, ⟨Nat.zero_le _, Nat.zero_le _, Nat.zero_le _, fun k hk => absurd hk (List.not_mem_nil)⟩, ⟨fun h => absurd h (Nat.lt_irrefl 0)⟩, ⟨fun h => absurd h (Nat.lt_irrefl 0)⟩, fun h => absurd h (Nat.lt_irrefl 0), inT_evr W 0⟩
theorem wid_in {W : World} {R B : Nat} {a0 a1 a2 a3 a4 a5 a6 : Bool} {no : Option Addr} {nN nc : Nat} {ao : Option Addr} {aN ac : Nat} {oo : Option Addr} {oN oc : Nat} (h3 : WRow W R B a3 no nN nc #[.string ⟨#[]⟩, .string ⟨#[]⟩] 42) (h5 : WRow W R B a5 ao aN ac #[.bool true, .bool false, .bool false, .bool false, .slice none 0 0, .bool false, .slice none 0 0, .slice none 0 0, .slice none 0 0, .int .i64 0, .int .i64 (-1)] 50) (h6 : WRow W R B a6 oo oN oc #[.slice none 0 0, .slice none 0 0, .slice none 0 0, .bool true, .bool false, .bool false, .bool false, .slice none 0 0, .bool false, .slice none 0 0, .slice none 0 0, .slice none 0 0] 55) :
    InT W 2 (widL a0 a1 a2 a3 a4 a5 a6) (.agg #[.bool false, .bool a0, .bool a1, .bool a2, .slice no nN nc, .bool a4, .slice none 0 0, .slice ao aN ac, .slice oo oN oc]) := by
  obtain ⟨l3, c3, b3, s3⟩ := sp_of h3
  obtain ⟨l5, c5, b5, s5⟩ := ar_of h5
  obtain ⟨l6, c6, b6, s6⟩ := ob_of h6
  refine ⟨no, nc, none, 0, ao, ac, oo, oc, ?_, ⟨by show (if a3 then _ else _ : List _).length ≤ nc; rw [l3]; exact c3, Nat.le_refl _, by show (if a5 then _ else _ : List _).length ≤ ac; rw [l5]; exact c5, by show (if a6 then _ else _ : List _).length ≤ oc; rw [l6]; exact c6⟩, ⟨by show (if a3 then _ else _ : List _).length ≤ _; rw [l3]; exact b3, Nat.zero_le _, by show (if a5 then _ else _ : List _).length ≤ _; rw [l5]; exact b5, by show (if a6 then _ else _ : List _).length ≤ _; rw [l6]; exact b6⟩, ?_, fun k hk => absurd hk (List.not_mem_nil), s3, ⟨fun h => absurd h (Nat.lt_irrefl 0)⟩, s5, s6⟩
  · show Value.agg #[.bool false, .bool a0, .bool a1, .bool a2, .slice no nN nc, .bool a4, .slice none 0 0, .slice ao aN ac, .slice oo oN oc] = Value.agg #[.bool false, .bool a0, .bool a1, .bool a2, .slice no (if a3 then [((⟨#[]⟩ : ByteArray), (⟨#[]⟩ : ByteArray))] else []).length nc, .bool a4, .slice none 0 0, .slice ao (if a5 then [AR.mk ttEv 0 (-1)] else []).length ac, .slice oo (if a6 then [OB.mk [] [] [] ttEv] else []).length oc]
    rw [l3, l5, l6]
  · intro p hp
    have hp' : p ∈ (if a3 then [((⟨#[]⟩ : ByteArray), (⟨#[]⟩ : ByteArray))] else []) := hp
    cases a3 with
    | false => exact absurd hp' (List.not_mem_nil)
    | true =>
      obtain rfl := List.mem_singleton.1 hp'
      exact ⟨Nat.zero_le _, Nat.zero_le _⟩
end Go.Proofs.Ytdjoelhiahpmlaa
namespace Go.Proofs.Ytdjoelhiahpmlaa
open Go.RowKit Go.Shelf Go.Sort
set_option linter.unusedVariables false
set_option linter.unusedSimpArgs false
attribute [local go_sem] Oper.semAt_some

set_option maxRecDepth 100000 in
set_option maxHeartbeats 12800000 in
theorem w_sOfKindsF (n : Int) (hn : 0 ≤ n ∧ n < 256) (w : World) : Calls Try.prog 38 #[.int .u8 n] w fun e w' => (∃ v, e = .returned v ∧ Hid (FrT w.heap.size w' 2 (widT n) v)) ∧ Below w.heap.size w w' := by
  have C0 := Hid.mk (fun u (hc : u.cell? ⟨w.heap.size, 0, none⟩ = some (.int .u8 n)) => w_ofk0 n w.heap.size u hn hc)
  have C1 := Hid.mk (fun u (hc : u.cell? ⟨w.heap.size, 0, none⟩ = some (.int .u8 n)) => w_ofk1 n w.heap.size u hn hc)
  have C2 := Hid.mk (fun u (hc : u.cell? ⟨w.heap.size, 0, none⟩ = some (.int .u8 n)) => w_ofk2 n w.heap.size u hn hc)
  have C4 := Hid.mk (fun u (hc : u.cell? ⟨w.heap.size, 0, none⟩ = some (.int .u8 n)) => w_ofk4 n w.heap.size u hn hc)
  have C3 := Hid.mk (fun u (hc : u.cell? ⟨w.heap.size, 0, none⟩ = some (.int .u8 n)) => w_ofk3 n w.heap.size u hn hc)
  have C5 := Hid.mk (fun u (hc : u.cell? ⟨w.heap.size, 0, none⟩ = some (.int .u8 n)) => w_ofk5 n w.heap.size u hn hc)
  have C6 := Hid.mk (fun u (hc : u.cell? ⟨w.heap.size, 0, none⟩ = some (.int .u8 n)) => w_ofk6 n w.heap.size u hn hc)
  have hall := all_kbu8 hn
  have HWT : Hid (widT n = widB (kb n 0) (kb n 1) (kb n 2) (kb n 3) (kb n 4) (kb n 5) (kb n 6)) := rfl
  obtain ⟨WT, hWT⟩ : ∃ WT, widT n = WT := ⟨_, rfl⟩
  rw [hWT] at HWT ⊢
  clear hWT
  generalize kb n 0 = a0 at hall HWT C0
  generalize kb n 1 = a1 at hall HWT C1
  generalize kb n 2 = a2 at hall HWT C2
  generalize kb n 3 = a3 at hall HWT C3
  generalize kb n 4 = a4 at hall HWT C4
  generalize kb n 5 = a5 at hall HWT C5
  generalize kb n 6 = a6 at hall HWT C6
  obtain ⟨W0, hW0⟩ : ∃ W0, (w.alloc (.cells #[.int .u8 n] 5)).alloc (.cells #[.bool false, .bool false, .bool false, .bool false, .slice none 0 0, .bool false, .slice none 0 0, .slice none 0 0, .slice none 0 0] 33) = W0 := ⟨_, rfl⟩
  have HB0 : Hid (Below w.heap.size w W0) := by rw [← hW0]; exact ((Below.refl _ w).alloc (Nat.le_refl _) _).alloc (by simp) _
  have HR0 : Hid (W0.heap[w.heap.size + 1]? = some (.cells #[.bool false, .bool false, .bool false, .bool false, .slice none 0 0, .bool false, .slice none 0 0, .slice none 0 0, .slice none 0 0] 33 (0, 0))) := by
    show _ = _
    rw [← hW0]
    have h := World.alloc_heap_new (w.alloc (.cells #[.int .u8 n] 5)) (.cells #[.bool false, .bool false, .bool false, .bool false, .slice none 0 0, .bool false, .slice none 0 0, .slice none 0 0, .slice none 0 0] 33)
    rw [World.size_alloc] at h
    exact h
  have HK0 : Hid (W0.heap[w.heap.size]? = some (.cells #[.int .u8 n] 5 (0, 0))) := by
    show _ = _
    rw [← hW0]
    exact (Below.heap_alloc _ _ _ (by simp)).trans (World.alloc_heap_new w _)
  have p0 := cell_of_row _ _ 0 _ _ _ HK0.out
  obtain ⟨A, hA⟩ : ∃ A, all7 a0 a1 a2 a3 a4 a5 a6 = A := ⟨_, rfl⟩
  rw [hA] at hall
  have HW2 : Hid (WT = if A then ttEv else widL a0 a1 a2 a3 a4 a5 a6) := by show _ = _; rw [HWT.out, ← hA]; rfl
  clear HWT hA
  cases A with
  | true =>
    have HT : Hid (WT = ttEv) := HW2.out
    clear HW2
    go_enter Try.func38, Try.ntmps38
    go_wp2_with fail
    refine (w_sfEvery _).mono ?_
    rintro e w1 ⟨rfl, hq⟩
    have HB1 := Hid.mk (HB0.out.trans (hq.mono HB0.out.size))
    have HR1 : Hid (w1.heap[w.heap.size + 1]? = _) := (hq.block _ (lt_of_row HR0.out)).trans HR0.out
    clear hq hW0 p0
    have g0 := cell_of_row _ _ 0 _ _ _ HR1.out
    have f0 := frozen_row9 (j := 0) HR1.out
    have g1 := cell_of_row _ _ 1 _ _ _ HR1.out
    have f1 := frozen_row9 (j := 1) HR1.out
    have g2 := cell_of_row _ _ 2 _ _ _ HR1.out
    have f2 := frozen_row9 (j := 2) HR1.out
    have g3 := cell_of_row _ _ 3 _ _ _ HR1.out
    have f3 := frozen_row9 (j := 3) HR1.out
    have g4 := cell_of_row _ _ 4 _ _ _ HR1.out
    have f4 := frozen_row9 (j := 4) HR1.out
    have g5 := cell_of_row _ _ 5 _ _ _ HR1.out
    have f5 := frozen_row9 (j := 5) HR1.out
    have g6 := cell_of_row _ _ 6 _ _ _ HR1.out
    have f6 := frozen_row9 (j := 6) HR1.out
    have g7 := cell_of_row _ _ 7 _ _ _ HR1.out
    have f7 := frozen_row9 (j := 7) HR1.out
    have g8 := cell_of_row _ _ 8 _ _ _ HR1.out
    have f8 := frozen_row9 (j := 8) HR1.out
    go_wp2_with fail
    (try simp only [Exit.inBlock, Exit.then])
    generalize hz9 : ((((((((w1.setCell ⟨w.heap.size + 1, 0, none⟩ (.bool true)).setCell ⟨w.heap.size + 1, 1, none⟩ (.bool false)).setCell ⟨w.heap.size + 1, 2, none⟩ (.bool false)).setCell ⟨w.heap.size + 1, 3, none⟩ (.bool false)).setCell ⟨w.heap.size + 1, 4, none⟩ (.slice none 0 0)).setCell ⟨w.heap.size + 1, 5, none⟩ (.bool false)).setCell ⟨w.heap.size + 1, 6, none⟩ (.slice none 0 0)).setCell ⟨w.heap.size + 1, 7, none⟩ (.slice none 0 0)).setCell ⟨w.heap.size + 1, 8, none⟩ (.slice none 0 0) = wz
    obtain ⟨e7, k7, s7⟩ := rbox_set9 w1 _ _ _ _ _ _ _ _ _ _ _ _ _ _ _ _ _ _ _ _ (HR1.out) wz hz9.symm
    have d0 := cell_of_row _ _ 0 _ _ _ e7
    have d1 := cell_of_row _ _ 1 _ _ _ e7
    have d2 := cell_of_row _ _ 2 _ _ _ e7
    have d3 := cell_of_row _ _ 3 _ _ _ e7
    have d4 := cell_of_row _ _ 4 _ _ _ e7
    have d5 := cell_of_row _ _ 5 _ _ _ e7
    have d6 := cell_of_row _ _ 6 _ _ _ e7
    have d7 := cell_of_row _ _ 7 _ _ _ e7
    have d8 := cell_of_row _ _ 8 _ _ _ e7
    have hbz : Below w.heap.size w wz := by rw [← hz9]; exact (((((((((HB1.out.setCell (p := ⟨w.heap.size + 1, 0, none⟩) (by show w.heap.size ≤ w.heap.size + 1; omega) _).setCell (p := ⟨w.heap.size + 1, 1, none⟩) (by show w.heap.size ≤ w.heap.size + 1; omega) _).setCell (p := ⟨w.heap.size + 1, 2, none⟩) (by show w.heap.size ≤ w.heap.size + 1; omega) _).setCell (p := ⟨w.heap.size + 1, 3, none⟩) (by show w.heap.size ≤ w.heap.size + 1; omega) _).setCell (p := ⟨w.heap.size + 1, 4, none⟩) (by show w.heap.size ≤ w.heap.size + 1; omega) _).setCell (p := ⟨w.heap.size + 1, 5, none⟩) (by show w.heap.size ≤ w.heap.size + 1; omega) _).setCell (p := ⟨w.heap.size + 1, 6, none⟩) (by show w.heap.size ≤ w.heap.size + 1; omega) _).setCell (p := ⟨w.heap.size + 1, 7, none⟩) (by show w.heap.size ≤ w.heap.size + 1; omega) _).setCell (p := ⟨w.heap.size + 1, 8, none⟩) (by show w.heap.size ≤ w.heap.size + 1; omega) _)
    refine bodyPost_ret (v := .agg #[.bool true, .bool false, .bool false, .bool false, .slice none 0 0, .bool false, .slice none 0 0, .slice none 0 0, .slice none 0 0]) (by simp [results, Try.results38, go_sem, d0, d1, d2, d3, d4, d5, d6, d7, d8]) rfl ?_
    exact ⟨⟨_, rfl, by rw [HT.out]; exact Hid.mk (fun x _ _ => inT_evr x 1)⟩, hbz⟩
  | false =>
    have HT : Hid (WT = widL a0 a1 a2 a3 a4 a5 a6) := HW2.out
    clear HW2
    go_enter Try.func38, Try.ntmps38
    go_wp2_with fail
    refine (C0.out _ p0).mono ?_
    rintro e w1 ⟨rfl, hq⟩
    have HB1 := Hid.mk (HB0.out.trans (hq.mono HB0.out.size))
    have HR1 : Hid (w1.heap[w.heap.size + 1]? = some (.cells #[.bool false, .bool false, .bool false, .bool false, .slice none 0 0, .bool false, .slice none 0 0, .slice none 0 0, .slice none 0 0] 33 (0, 0))) := (hq.block _ (lt_of_row HR0.out)).trans HR0.out
    have HK1 : Hid (w1.heap[w.heap.size]? = some (.cells #[.int .u8 n] 5 (0, 0))) := (hq.block _ (lt_of_row HK0.out)).trans HK0.out
    clear hq p0 hW0
    have p0 := cell_of_row _ _ 0 _ _ _ HK1.out
    go_wp2_with fail
    refine (C1.out _ p0).mono ?_
    rintro e w2 ⟨rfl, hq⟩
    have HB2 := Hid.mk (HB1.out.trans (hq.mono HB1.out.size))
    have HR2 : Hid (w2.heap[w.heap.size + 1]? = some (.cells #[.bool false, .bool false, .bool false, .bool false, .slice none 0 0, .bool false, .slice none 0 0, .slice none 0 0, .slice none 0 0] 33 (0, 0))) := (hq.block _ (lt_of_row HR1.out)).trans HR1.out
    have HK2 : Hid (w2.heap[w.heap.size]? = some (.cells #[.int .u8 n] 5 (0, 0))) := (hq.block _ (lt_of_row HK1.out)).trans HK1.out
    clear hq p0 
    have p0 := cell_of_row _ _ 0 _ _ _ HK2.out
    go_wp2_with fail
    refine (C2.out _ p0).mono ?_
    rintro e w3 ⟨rfl, hq⟩
    have HB3 := Hid.mk (HB2.out.trans (hq.mono HB2.out.size))
    have HR3 : Hid (w3.heap[w.heap.size + 1]? = some (.cells #[.bool false, .bool false, .bool false, .bool false, .slice none 0 0, .bool false, .slice none 0 0, .slice none 0 0, .slice none 0 0] 33 (0, 0))) := (hq.block _ (lt_of_row HR2.out)).trans HR2.out
    have HK3 : Hid (w3.heap[w.heap.size]? = some (.cells #[.int .u8 n] 5 (0, 0))) := (hq.block _ (lt_of_row HK2.out)).trans HK2.out
    clear hq p0 
    have p0 := cell_of_row _ _ 0 _ _ _ HK3.out
    go_wp2_with fail
    refine (C4.out _ p0).mono ?_
    rintro e w4 ⟨rfl, hq⟩
    have HB4 := Hid.mk (HB3.out.trans (hq.mono HB3.out.size))
    have HR4 : Hid (w4.heap[w.heap.size + 1]? = some (.cells #[.bool false, .bool false, .bool false, .bool false, .slice none 0 0, .bool false, .slice none 0 0, .slice none 0 0, .slice none 0 0] 33 (0, 0))) := (hq.block _ (lt_of_row HR3.out)).trans HR3.out
    have HK4 : Hid (w4.heap[w.heap.size]? = some (.cells #[.int .u8 n] 5 (0, 0))) := (hq.block _ (lt_of_row HK3.out)).trans HK3.out
    clear hq p0
    obtain ⟨W5, hW5⟩ : ∃ W5, w4.alloc (.cells #[.bool false, .bool a0, .bool a1, .bool a2, .slice none 0 0, .bool a4, .slice none 0 0, .slice none 0 0, .slice none 0 0] 33) = W5 := ⟨_, rfl⟩
    obtain ⟨B, hB⟩ : ∃ B, w4.heap.size = B := ⟨_, rfl⟩
    have HK : Hid (OKx w W5 w.heap.size #[.int .u8 n] 5 (w.heap.size + 1) B #[.bool false, .bool a0, .bool a1, .bool a2, .slice none 0 0, .bool a4, .slice none 0 0, .slice none 0 0, .slice none 0 0]) := by
      have hl1 := lt_of_row HK4.out
      have hl2 := lt_of_row HR4.out
      rw [← hW5, ← hB]
      exact ⟨HB4.out.trans ((below1 w4 _).mono HB4.out.size), (Below.heap_alloc _ _ _ hl1).trans HK4.out, (Below.heap_alloc _ _ _ hl2).trans HR4.out, World.alloc_heap_new w4 _, by omega, by omega, HB4.out.size, by omega⟩
    have p0 := cell_of_row _ _ 0 _ _ _ HK.out.kin
    have HWq := Hid.mk hW5
    have HBq := Hid.mk hB
    clear hW5 hB
    go_wp2_with fail
    try rw [HWq.out]
    try rw [HBq.out]
    clear HWq HBq
    refine (C3.out _ p0).mono ?_
    rintro e u3 ⟨rfl, hq⟩
    have HKn := Hid.mk (HK.out.keep hq)
    clear hq p0 HK
    go_upto_if 20 with fail
    go_cut [4] from 5 (fun sp wx => sp = .pointer (some ⟨B, 0, none⟩) ∧ ∃ (no : Option Addr) (nN nc : Nat), Hid (OKx w wx w.heap.size #[.int .u8 n] 5 (w.heap.size + 1) B #[.bool false, .bool a0, .bool a1, .bool a2, .slice no nN nc, .bool a4, .slice none 0 0, .slice none 0 0, .slice none 0 0]) ∧ Hid (WRow wx (w.heap.size + 1) B a3 no nN nc #[.string ⟨#[]⟩, .string ⟨#[]⟩] 42))
    case first =>
      cases a3 with
      | false =>
        go_wp2_with fail
        go_meet
        exact ⟨rfl, none, 0, 0, HKn, ⟨fun h => (by cases h), fun _ => ⟨rfl, rfl, rfl⟩⟩⟩
      | true =>
        obtain ⟨Wb, hWb⟩ : ∃ Wb, u3.alloc (.cells #[.string ⟨#[]⟩, .string ⟨#[]⟩] 42) = Wb := ⟨_, rfl⟩
        have HKb : Hid (OKx w Wb w.heap.size #[.int .u8 n] 5 (w.heap.size + 1) B #[.bool false, .bool a0, .bool a1, .bool a2, .slice none 0 0, .bool a4, .slice none 0 0, .slice none 0 0, .slice none 0 0]) := by show OKx _ _ _ _ _ _ _ _; rw [← hWb]; exact HKn.out.keep (below1 u3 _)
        have g := cell_of_row _ _ 4 _ _ _ HKb.out.out
        have fz := frozen_row9 (j := 4) HKb.out.out
        have hnb : Hid ((w.heap.size + 1) < u3.heap.size ∧ u3.heap.size ≠ B) := ⟨by have := lt_of_row HKn.out.res; omega, by have := lt_of_row HKn.out.out; omega⟩
        have hrb : Hid (Wb.heap[u3.heap.size]? = some (.cells #[.string ⟨#[]⟩, .string ⟨#[]⟩] 42 (0, 0))) := by show _ = _; rw [← hWb]; exact World.alloc_heap_new u3 _
        go_wp2_with fail
        go_meet
        exact ⟨rfl, some ⟨u3.heap.size, 0, none⟩, 1, 1, Hid.mk (HKb.out.set 4 _), ⟨fun _ => ⟨u3.heap.size, rfl, rfl, rfl, hnb.out.1, hnb.out.2, (Below.heap_setCell _ _ _ _ hnb.out.2).trans hrb.out⟩, fun h => by cases h⟩⟩
    case rest =>
      obtain ⟨rfl, no, nN, nc, HKm, H3⟩ := hcut
      clear HKn
      have p0 := cell_of_row _ _ 0 _ _ _ HKm.out.kin
      go_wp2_with fail
      refine (C5.out _ p0).mono ?_
      rintro e u5 ⟨rfl, hq⟩
      have HKn := Hid.mk (HKm.out.keep hq)
      replace H3 := Hid.mk (H3.out.keep (fun b _ _ hl => hq.block b hl))
      clear hq p0 HKm
      go_upto_if 25 with fail
      go_cut [4] from 5 (fun sp wx => sp = .pointer (some ⟨B, 0, none⟩) ∧ ∃ (ao : Option Addr) (aN ac : Nat), Hid (OKx w wx w.heap.size #[.int .u8 n] 5 (w.heap.size + 1) B #[.bool false, .bool a0, .bool a1, .bool a2, .slice no nN nc, .bool a4, .slice none 0 0, .slice ao aN ac, .slice none 0 0]) ∧ Hid (WRow wx (w.heap.size + 1) B a3 no nN nc #[.string ⟨#[]⟩, .string ⟨#[]⟩] 42) ∧ Hid (WRow wx (w.heap.size + 1) B a5 ao aN ac #[.bool true, .bool false, .bool false, .bool false, .slice none 0 0, .bool false, .slice none 0 0, .slice none 0 0, .slice none 0 0, .int .i64 0, .int .i64 (-1)] 50))
      case first =>
        cases a5 with
        | false =>
          go_wp2_with fail
          go_meet
          exact ⟨rfl, none, 0, 0, HKn, H3, ⟨fun h => (by cases h), fun _ => ⟨rfl, rfl, rfl⟩⟩⟩
        | true =>
          go_wp2_with fail
          refine (w_sfEvery _).mono ?_
          rintro e v5 ⟨rfl, hq⟩
          have HKv := Hid.mk (HKn.out.keep hq)
          replace H3 := Hid.mk (H3.out.keep (fun b _ _ hl => hq.block b hl))
          clear hq
          obtain ⟨Wb, hWb⟩ : ∃ Wb, v5.alloc (.cells #[.bool true, .bool false, .bool false, .bool false, .slice none 0 0, .bool false, .slice none 0 0, .slice none 0 0, .slice none 0 0, .int .i64 0, .int .i64 (-1)] 50) = Wb := ⟨_, rfl⟩
          have HKb : Hid (OKx w Wb w.heap.size #[.int .u8 n] 5 (w.heap.size + 1) B #[.bool false, .bool a0, .bool a1, .bool a2, .slice no nN nc, .bool a4, .slice none 0 0, .slice none 0 0, .slice none 0 0]) := by show OKx _ _ _ _ _ _ _ _; rw [← hWb]; exact HKv.out.keep (below1 v5 _)
          have g := cell_of_row _ _ 7 _ _ _ HKb.out.out
          have fz := frozen_row9 (j := 7) HKb.out.out
          have hnb : Hid ((w.heap.size + 1) < v5.heap.size ∧ v5.heap.size ≠ B) := ⟨by have := lt_of_row HKv.out.res; omega, by have := lt_of_row HKv.out.out; omega⟩
          have hrb : Hid (Wb.heap[v5.heap.size]? = some (.cells #[.bool true, .bool false, .bool false, .bool false, .slice none 0 0, .bool false, .slice none 0 0, .slice none 0 0, .slice none 0 0, .int .i64 0, .int .i64 (-1)] 50 (0, 0))) := by show _ = _; rw [← hWb]; exact World.alloc_heap_new v5 _
          go_wp2_with fail
          go_meet
          exact ⟨rfl, some ⟨v5.heap.size, 0, none⟩, 1, 1, Hid.mk (HKb.out.set 7 _), Hid.mk (H3.out.keep (fun b _ hb2 hl => (Below.heap_setCell _ _ _ _ hb2).trans (by rw [← hWb]; exact Below.heap_alloc _ _ _ hl))), ⟨fun _ => ⟨v5.heap.size, rfl, rfl, rfl, hnb.out.1, hnb.out.2, (Below.heap_setCell _ _ _ _ hnb.out.2).trans hrb.out⟩, fun h => by cases h⟩⟩
      case rest =>
        obtain ⟨rfl, ao, aN, ac, HKm, H3, H5⟩ := hcut
        clear HKn
        have p0 := cell_of_row _ _ 0 _ _ _ HKm.out.kin
        go_wp2_with fail
        refine (C6.out _ p0).mono ?_
        rintro e u6 ⟨rfl, hq⟩
        have HKn := Hid.mk (HKm.out.keep hq)
        replace H3 := Hid.mk (H3.out.keep (fun b _ _ hl => hq.block b hl))
        replace H5 := Hid.mk (H5.out.keep (fun b _ _ hl => hq.block b hl))
        clear hq p0 HKm
        go_upto_if 31 with fail
        go_cut [4] from 5 (fun sp wx => sp = .pointer (some ⟨B, 0, none⟩) ∧ ∃ (oo : Option Addr) (oN oc : Nat), Hid (OKx w wx w.heap.size #[.int .u8 n] 5 (w.heap.size + 1) B #[.bool false, .bool a0, .bool a1, .bool a2, .slice no nN nc, .bool a4, .slice none 0 0, .slice ao aN ac, .slice oo oN oc]) ∧ Hid (WRow wx (w.heap.size + 1) B a3 no nN nc #[.string ⟨#[]⟩, .string ⟨#[]⟩] 42) ∧ Hid (WRow wx (w.heap.size + 1) B a5 ao aN ac #[.bool true, .bool false, .bool false, .bool false, .slice none 0 0, .bool false, .slice none 0 0, .slice none 0 0, .slice none 0 0, .int .i64 0, .int .i64 (-1)] 50) ∧ Hid (WRow wx (w.heap.size + 1) B a6 oo oN oc #[.slice none 0 0, .slice none 0 0, .slice none 0 0, .bool true, .bool false, .bool false, .bool false, .slice none 0 0, .bool false, .slice none 0 0, .slice none 0 0, .slice none 0 0] 55))
        case first =>
          cases a6 with
          | false =>
            go_wp2_with fail
            go_meet
            exact ⟨rfl, none, 0, 0, HKn, H3, H5, ⟨fun h => (by cases h), fun _ => ⟨rfl, rfl, rfl⟩⟩⟩
          | true =>
            go_wp2_with fail
            refine (w_sfEvery _).mono ?_
            rintro e v6 ⟨rfl, hq⟩
            have HKv := Hid.mk (HKn.out.keep hq)
            replace H3 := Hid.mk (H3.out.keep (fun b _ _ hl => hq.block b hl))
            replace H5 := Hid.mk (H5.out.keep (fun b _ _ hl => hq.block b hl))
            clear hq
            obtain ⟨Wb, hWb⟩ : ∃ Wb, v6.alloc (.cells #[.slice none 0 0, .slice none 0 0, .slice none 0 0, .bool true, .bool false, .bool false, .bool false, .slice none 0 0, .bool false, .slice none 0 0, .slice none 0 0, .slice none 0 0] 55) = Wb := ⟨_, rfl⟩
            have HKb : Hid (OKx w Wb w.heap.size #[.int .u8 n] 5 (w.heap.size + 1) B #[.bool false, .bool a0, .bool a1, .bool a2, .slice no nN nc, .bool a4, .slice none 0 0, .slice ao aN ac, .slice none 0 0]) := by show OKx _ _ _ _ _ _ _ _; rw [← hWb]; exact HKv.out.keep (below1 v6 _)
            have g := cell_of_row _ _ 8 _ _ _ HKb.out.out
            have fz := frozen_row9 (j := 8) HKb.out.out
            have hnb : Hid ((w.heap.size + 1) < v6.heap.size ∧ v6.heap.size ≠ B) := ⟨by have := lt_of_row HKv.out.res; omega, by have := lt_of_row HKv.out.out; omega⟩
            have hrb : Hid (Wb.heap[v6.heap.size]? = some (.cells #[.slice none 0 0, .slice none 0 0, .slice none 0 0, .bool true, .bool false, .bool false, .bool false, .slice none 0 0, .bool false, .slice none 0 0, .slice none 0 0, .slice none 0 0] 55 (0, 0))) := by show _ = _; rw [← hWb]; exact World.alloc_heap_new v6 _
            go_wp2_with fail
            go_meet
            exact ⟨rfl, some ⟨v6.heap.size, 0, none⟩, 1, 1, Hid.mk (HKb.out.set 8 _), Hid.mk (H3.out.keep (fun b _ hb2 hl => (Below.heap_setCell _ _ _ _ hb2).trans (by rw [← hWb]; exact Below.heap_alloc _ _ _ hl))), Hid.mk (H5.out.keep (fun b _ hb2 hl => (Below.heap_setCell _ _ _ _ hb2).trans (by rw [← hWb]; exact Below.heap_alloc _ _ _ hl))), ⟨fun _ => ⟨v6.heap.size, rfl, rfl, rfl, hnb.out.1, hnb.out.2, (Below.heap_setCell _ _ _ _ hnb.out.2).trans hrb.out⟩, fun h => by cases h⟩⟩
        case rest =>
          obtain ⟨rfl, oo, oN, oc, HKm, H3, H5, H6⟩ := hcut
          clear HKn
          have o0 := cell_of_row _ _ 0 _ _ _ HKm.out.out
          have o1 := cell_of_row _ _ 1 _ _ _ HKm.out.out
          have o2 := cell_of_row _ _ 2 _ _ _ HKm.out.out
          have o3 := cell_of_row _ _ 3 _ _ _ HKm.out.out
          have o4 := cell_of_row _ _ 4 _ _ _ HKm.out.out
          have o5 := cell_of_row _ _ 5 _ _ _ HKm.out.out
          have o6 := cell_of_row _ _ 6 _ _ _ HKm.out.out
          have o7 := cell_of_row _ _ 7 _ _ _ HKm.out.out
          have o8 := cell_of_row _ _ 8 _ _ _ HKm.out.out
          have g0 := cell_of_row _ _ 0 _ _ _ HKm.out.res
          have f0 := frozen_row9 (j := 0) HKm.out.res
          have g1 := cell_of_row _ _ 1 _ _ _ HKm.out.res
          have f1 := frozen_row9 (j := 1) HKm.out.res
          have g2 := cell_of_row _ _ 2 _ _ _ HKm.out.res
          have f2 := frozen_row9 (j := 2) HKm.out.res
          have g3 := cell_of_row _ _ 3 _ _ _ HKm.out.res
          have f3 := frozen_row9 (j := 3) HKm.out.res
          have g4 := cell_of_row _ _ 4 _ _ _ HKm.out.res
          have f4 := frozen_row9 (j := 4) HKm.out.res
          have g5 := cell_of_row _ _ 5 _ _ _ HKm.out.res
          have f5 := frozen_row9 (j := 5) HKm.out.res
          have g6 := cell_of_row _ _ 6 _ _ _ HKm.out.res
          have f6 := frozen_row9 (j := 6) HKm.out.res
          have g7 := cell_of_row _ _ 7 _ _ _ HKm.out.res
          have f7 := frozen_row9 (j := 7) HKm.out.res
          have g8 := cell_of_row _ _ 8 _ _ _ HKm.out.res
          have f8 := frozen_row9 (j := 8) HKm.out.res
          go_wp2_with fail
          (try simp only [Exit.inBlock, Exit.then])
          generalize hz9 : ((((((((wc.setCell ⟨w.heap.size + 1, 0, none⟩ (.bool false)).setCell ⟨w.heap.size + 1, 1, none⟩ (.bool a0)).setCell ⟨w.heap.size + 1, 2, none⟩ (.bool a1)).setCell ⟨w.heap.size + 1, 3, none⟩ (.bool a2)).setCell ⟨w.heap.size + 1, 4, none⟩ (.slice no nN nc)).setCell ⟨w.heap.size + 1, 5, none⟩ (.bool a4)).setCell ⟨w.heap.size + 1, 6, none⟩ (.slice none 0 0)).setCell ⟨w.heap.size + 1, 7, none⟩ (.slice ao aN ac)).setCell ⟨w.heap.size + 1, 8, none⟩ (.slice oo oN oc) = wz
          obtain ⟨e7, k7, s7⟩ := rbox_set9 wc _ _ _ _ _ _ _ _ _ _ _ _ _ _ _ _ _ _ _ _ (HKm.out.res) wz hz9.symm
          have d0 := cell_of_row _ _ 0 _ _ _ e7
          have d1 := cell_of_row _ _ 1 _ _ _ e7
          have d2 := cell_of_row _ _ 2 _ _ _ e7
          have d3 := cell_of_row _ _ 3 _ _ _ e7
          have d4 := cell_of_row _ _ 4 _ _ _ e7
          have d5 := cell_of_row _ _ 5 _ _ _ e7
          have d6 := cell_of_row _ _ 6 _ _ _ e7
          have d7 := cell_of_row _ _ 7 _ _ _ e7
          have d8 := cell_of_row _ _ 8 _ _ _ e7
          have hbz : Below w.heap.size w wz := by rw [← hz9]; exact (((((((((HKm.out.below.setCell (p := ⟨w.heap.size + 1, 0, none⟩) (by show w.heap.size ≤ w.heap.size + 1; omega) _).setCell (p := ⟨w.heap.size + 1, 1, none⟩) (by show w.heap.size ≤ w.heap.size + 1; omega) _).setCell (p := ⟨w.heap.size + 1, 2, none⟩) (by show w.heap.size ≤ w.heap.size + 1; omega) _).setCell (p := ⟨w.heap.size + 1, 3, none⟩) (by show w.heap.size ≤ w.heap.size + 1; omega) _).setCell (p := ⟨w.heap.size + 1, 4, none⟩) (by show w.heap.size ≤ w.heap.size + 1; omega) _).setCell (p := ⟨w.heap.size + 1, 5, none⟩) (by show w.heap.size ≤ w.heap.size + 1; omega) _).setCell (p := ⟨w.heap.size + 1, 6, none⟩) (by show w.heap.size ≤ w.heap.size + 1; omega) _).setCell (p := ⟨w.heap.size + 1, 7, none⟩) (by show w.heap.size ≤ w.heap.size + 1; omega) _).setCell (p := ⟨w.heap.size + 1, 8, none⟩) (by show w.heap.size ≤ w.heap.size + 1; omega) _)
          refine bodyPost_ret (v := .agg #[.bool false, .bool a0, .bool a1, .bool a2, .slice no nN nc, .bool a4, .slice none 0 0, .slice ao aN ac, .slice oo oN oc]) (by simp [results, Try.results38, go_sem, d0, d1, d2, d3, d4, d5, d6, d7, d8]) rfl ?_
          exact ⟨⟨_, rfl, by rw [HT.out]; exact Hid.mk (fun x hxs hxb => by have hg : ∀ b, (w.heap.size + 1) < b → b < wc.heap.size → x.heap[b]? = wc.heap[b]? := (fun b hb hl => (hxb b (by omega) (by omega)).trans (k7 b (by omega))); exact wid_in (H3.out.keep (fun b hb _ hl => hg b hb hl)) (H5.out.keep (fun b hb _ hl => hg b hb hl)) (H6.out.keep (fun b hb _ hl => hg b hb hl)))⟩, hbz⟩
theorem w_sOfKinds (n : Int) (hn : 0 ≤ n ∧ n < 256) (w : World) : Calls Try.prog 38 #[.int .u8 n] w fun e w' => (∃ v, e = .returned v ∧ Hid (InT w' 2 (widT n) v)) ∧ Below w.heap.size w w' :=
  (w_sOfKindsF n hn w).mono fun e w' ⟨⟨v, hv, h⟩, hb⟩ => ⟨⟨v, hv, Hid.mk h.out.here⟩, hb⟩
end Go.Proofs.Ytdjoelhiahpmlaa
namespace Go.Proofs.Ytdjoelhiahpmlaa
open Go.RowKit Go.Shelf Go.Sort
set_option linter.unusedVariables false
set_option linter.unusedSimpArgs false
attribute [local go_sem] Oper.semAt_some
end Go.Proofs.Ytdjoelhiahpmlaa
