import Derived.Test.YtihhjplbpaafiaaM31
namespace Go.Proofs.Ytihhjplbpaafiaa
open Go.RowKit Go.Shelf Go.Sort
set_option linter.unusedVariables false
set_option linter.unusedSimpArgs false
attribute [local go_sem] Oper.semAt_some


set_option maxRecDepth 100000 in
set_option maxHeartbeats 3200000 in
theorem ix_txl (so : Option Addr) (N cap : Nat) (es : Nat → Value) (rs : Nat → Bool) (B : Nat) (w : World) (hcap : N ≤ cap) (hN2 : N ≤ 140737488355328)
    (HR : Hid (∀ u, Below w.heap.size w u → 0 < N → ∃ b off, so = some ⟨b, off, none⟩ ∧ ∀ k, k < N → u.cell? ⟨b, off + k, none⟩ = some (es k)))
    (HC : Hid (∀ k, k < N → ∀ u, Below w.heap.size w u → Calls Try.prog 71 #[es k, .pointer (some ⟨B, 0, none⟩)] u fun e w' => e = .returned (.bool (rs k)) ∧ Below u.heap.size u w')) (HE : Hid (∀ k, k < N → ∃ s, es k = .string s)) :
    Calls Try.prog 87 #[.slice so N cap, .func (.func 71) #[] #[.pointer (some ⟨B, 0, none⟩)]] w fun e w' => (∃ c : Int, e = .returned (.int .i64 c) ∧ decide (0 ≤ c) = (List.range N).any rs) ∧ Below w.heap.size w w' := by
  go_enter Try.func87, Try.ntmps87
  go_wp2_with fail
  go_loopw [8] (fun i wr => ∃ k : Nat, k ≤ N ∧ i = .int .i64 (k : Int) ∧ Hid (Below w.heap.size w wr) ∧ Hid ((List.range k).any rs = false)) (fun i _ => N - (intOf i).toNat)
  case atStart => exact ⟨0, Nat.zero_le _, rfl, Below.refl _ _, rfl⟩
  case round =>
    obtain ⟨k, hk, rfl, HB, HQ⟩ := hrel
    by_cases hlt : k < N
    · have hl1 : (k : Int) < (N : Int) := by omega
      have hl0 : (0 : Int) ≤ (k : Int) := by omega
      obtain ⟨b, off, hso, hrow⟩ := HR.out wr HB.out (by omega)
      subst hso
      have c0 := hrow k hlt
      have HC1 := Hid.mk (HC.out k hlt wr HB.out)
      obtain ⟨s, hel⟩ := HE.out k hlt
      rw [hel] at c0 HC1
      clear hrow hel
      cases hrk : rs k with
      | true =>
        rw [hrk] at HC1
        have HY : Hid ((List.range N).any rs = true) := List.any_eq_true.2 ⟨k, List.mem_range.2 hlt, hrk⟩
        clear hrk
        go_wp2_with fail
        refine HC1.out.mono ?_
        rintro e w2 ⟨rfl, hq⟩
        have HB2 := Hid.mk (HB.out.trans (hq.mono HB.out.size))
        clear hq
        go_wp2_with fail
        go_ret
        exact ⟨⟨_, rfl, by rw [HY.out]; exact decide_eq_true (by omega)⟩, HB2.out⟩
      | false =>
        rw [hrk] at HC1
        have HN : Hid ((List.range (k + 1)).any rs = false) := by show _ = _; rw [List.range_succ, List.any_append, HQ.out]; simp [hrk]
        clear hrk
        go_wp2_with fail
        refine HC1.out.mono ?_
        rintro e w2 ⟨rfl, hq⟩
        have HB2 := Hid.mk (HB.out.trans (hq.mono HB.out.size))
        clear hq
        go_wp2_with fail
        go_roundw
        case rel => exact ⟨k + 1, hlt, by go_num, HB2, HN⟩
        case measure => simp [intOf]; omega
    · obtain rfl : k = N := by omega
      have hl1 : ¬ (k : Int) < (k : Int) := by omega
      go_wp2_with fail
      go_ret
      exact ⟨⟨_, rfl, by rw [HQ.out]; rfl⟩, HB.out⟩
set_option maxHeartbeats 1600000 in
theorem has_txl (so : Option Addr) (N cap : Nat) (es : Nat → Value) (rs : Nat → Bool) (B : Nat) (w : World) (hcap : N ≤ cap) (hN2 : N ≤ 140737488355328)
    (HR : Hid (∀ u, Below w.heap.size w u → 0 < N → ∃ b off, so = some ⟨b, off, none⟩ ∧ ∀ k, k < N → u.cell? ⟨b, off + k, none⟩ = some (es k)))
    (HC : Hid (∀ k, k < N → ∀ u, Below w.heap.size w u → Calls Try.prog 71 #[es k, .pointer (some ⟨B, 0, none⟩)] u fun e w' => e = .returned (.bool (rs k)) ∧ Below u.heap.size u w')) (HE : Hid (∀ k, k < N → ∃ s, es k = .string s)) :
    Calls Try.prog 73 #[.slice so N cap, .func (.func 71) #[] #[.pointer (some ⟨B, 0, none⟩)]] w fun e w' => e = .returned (.bool ((List.range N).any rs)) ∧ Below w.heap.size w w' := by
  have HI := Hid.mk (ix_txl so N cap es rs B w hcap hN2 HR HC HE)
  generalize (List.range N).any rs = R at HI ⊢
  clear HR HC HE
  go_enter Try.func73, Try.ntmps73
  go_wp2_with fail
  refine HI.out.mono ?_
  rintro e w2 ⟨⟨c, rfl, hc⟩, hq⟩
  subst hc
  go_wp2_with fail
  go_ret
  exact ⟨by first | rfl | simp, hq⟩

set_option maxRecDepth 100000 in
set_option maxHeartbeats 3200000 in
theorem ix_txm (so : Option Addr) (N cap : Nat) (es : Nat → Value) (rs : Nat → Bool) (B : Nat) (w : World) (hcap : N ≤ cap) (hN2 : N ≤ 140737488355328)
    (HR : Hid (∀ u, Below w.heap.size w u → 0 < N → ∃ b off, so = some ⟨b, off, none⟩ ∧ ∀ k, k < N → u.cell? ⟨b, off + k, none⟩ = some (es k)))
    (HC : Hid (∀ k, k < N → ∀ u, Below w.heap.size w u → Calls Try.prog 81 #[es k, .pointer (some ⟨B, 0, none⟩)] u fun e w' => e = .returned (.bool (rs k)) ∧ Below u.heap.size u w')) (HE : Hid (∀ k, k < N → ∃ s, es k = .string s)) :
    Calls Try.prog 87 #[.slice so N cap, .func (.func 81) #[] #[.pointer (some ⟨B, 0, none⟩)]] w fun e w' => (∃ c : Int, e = .returned (.int .i64 c) ∧ decide (0 ≤ c) = (List.range N).any rs) ∧ Below w.heap.size w w' := by
  go_enter Try.func87, Try.ntmps87
  go_wp2_with fail
  go_loopw [8] (fun i wr => ∃ k : Nat, k ≤ N ∧ i = .int .i64 (k : Int) ∧ Hid (Below w.heap.size w wr) ∧ Hid ((List.range k).any rs = false)) (fun i _ => N - (intOf i).toNat)
  case atStart => exact ⟨0, Nat.zero_le _, rfl, Below.refl _ _, rfl⟩
  case round =>
    obtain ⟨k, hk, rfl, HB, HQ⟩ := hrel
    by_cases hlt : k < N
    · have hl1 : (k : Int) < (N : Int) := by omega
      have hl0 : (0 : Int) ≤ (k : Int) := by omega
      obtain ⟨b, off, hso, hrow⟩ := HR.out wr HB.out (by omega)
      subst hso
      have c0 := hrow k hlt
      have HC1 := Hid.mk (HC.out k hlt wr HB.out)
      obtain ⟨s, hel⟩ := HE.out k hlt
      rw [hel] at c0 HC1
      clear hrow hel
      cases hrk : rs k with
      | true =>
        rw [hrk] at HC1
        have HY : Hid ((List.range N).any rs = true) := List.any_eq_true.2 ⟨k, List.mem_range.2 hlt, hrk⟩
        clear hrk
        go_wp2_with fail
        refine HC1.out.mono ?_
        rintro e w2 ⟨rfl, hq⟩
        have HB2 := Hid.mk (HB.out.trans (hq.mono HB.out.size))
        clear hq
        go_wp2_with fail
        go_ret
        exact ⟨⟨_, rfl, by rw [HY.out]; exact decide_eq_true (by omega)⟩, HB2.out⟩
      | false =>
        rw [hrk] at HC1
        have HN : Hid ((List.range (k + 1)).any rs = false) := by show _ = _; rw [List.range_succ, List.any_append, HQ.out]; simp [hrk]
        clear hrk
        go_wp2_with fail
        refine HC1.out.mono ?_
        rintro e w2 ⟨rfl, hq⟩
        have HB2 := Hid.mk (HB.out.trans (hq.mono HB.out.size))
        clear hq
        go_wp2_with fail
        go_roundw
        case rel => exact ⟨k + 1, hlt, by go_num, HB2, HN⟩
        case measure => simp [intOf]; omega
    · obtain rfl : k = N := by omega
      have hl1 : ¬ (k : Int) < (k : Int) := by omega
      go_wp2_with fail
      go_ret
      exact ⟨⟨_, rfl, by rw [HQ.out]; rfl⟩, HB.out⟩
set_option maxHeartbeats 1600000 in
theorem has_txm (so : Option Addr) (N cap : Nat) (es : Nat → Value) (rs : Nat → Bool) (B : Nat) (w : World) (hcap : N ≤ cap) (hN2 : N ≤ 140737488355328)
    (HR : Hid (∀ u, Below w.heap.size w u → 0 < N → ∃ b off, so = some ⟨b, off, none⟩ ∧ ∀ k, k < N → u.cell? ⟨b, off + k, none⟩ = some (es k)))
    (HC : Hid (∀ k, k < N → ∀ u, Below w.heap.size w u → Calls Try.prog 81 #[es k, .pointer (some ⟨B, 0, none⟩)] u fun e w' => e = .returned (.bool (rs k)) ∧ Below u.heap.size u w')) (HE : Hid (∀ k, k < N → ∃ s, es k = .string s)) :
    Calls Try.prog 73 #[.slice so N cap, .func (.func 81) #[] #[.pointer (some ⟨B, 0, none⟩)]] w fun e w' => e = .returned (.bool ((List.range N).any rs)) ∧ Below w.heap.size w w' := by
  have HI := Hid.mk (ix_txm so N cap es rs B w hcap hN2 HR HC HE)
  generalize (List.range N).any rs = R at HI ⊢
  clear HR HC HE
  go_enter Try.func73, Try.ntmps73
  go_wp2_with fail
  refine HI.out.mono ?_
  rintro e w2 ⟨⟨c, rfl, hc⟩, hq⟩
  subst hc
  go_wp2_with fail
  go_ret
  exact ⟨by first | rfl | simp, hq⟩

set_option maxRecDepth 100000 in
set_option maxHeartbeats 3200000 in
theorem ix_lie (so : Option Addr) (N cap : Nat) (es : Nat → Value) (rs : Nat → Bool) (B : Nat) (w : World) (hcap : N ≤ cap) (hN2 : N ≤ 140737488355328)
    (HR : Hid (∀ u, Below w.heap.size w u → 0 < N → ∃ b off, so = some ⟨b, off, none⟩ ∧ ∀ k, k < N → u.cell? ⟨b, off + k, none⟩ = some (es k)))
    (HC : Hid (∀ k, k < N → ∀ u, Below w.heap.size w u → Calls Try.prog 41 #[es k, .pointer (some ⟨B, 0, none⟩)] u fun e w' => e = .returned (.bool (rs k)) ∧ Below u.heap.size u w')) (HE : Hid (∀ k, k < N → ∃ f, es k = .func (.func f) #[] #[])) :
    Calls Try.prog 54 #[.slice so N cap, .func (.func 41) #[] #[.pointer (some ⟨B, 0, none⟩)]] w fun e w' => (∃ c : Int, e = .returned (.int .i64 c) ∧ decide (0 ≤ c) = (List.range N).any rs) ∧ Below w.heap.size w w' := by
  go_enter Try.func54, Try.ntmps54
  go_wp2_with fail
  go_loopw [8] (fun i wr => ∃ k : Nat, k ≤ N ∧ i = .int .i64 (k : Int) ∧ Hid (Below w.heap.size w wr) ∧ Hid ((List.range k).any rs = false)) (fun i _ => N - (intOf i).toNat)
  case atStart => exact ⟨0, Nat.zero_le _, rfl, Below.refl _ _, rfl⟩
  case round =>
    obtain ⟨k, hk, rfl, HB, HQ⟩ := hrel
    by_cases hlt : k < N
    · have hl1 : (k : Int) < (N : Int) := by omega
      have hl0 : (0 : Int) ≤ (k : Int) := by omega
      obtain ⟨b, off, hso, hrow⟩ := HR.out wr HB.out (by omega)
      subst hso
      have c0 := hrow k hlt
      have HC1 := Hid.mk (HC.out k hlt wr HB.out)
      obtain ⟨s, hel⟩ := HE.out k hlt
      rw [hel] at c0 HC1
      clear hrow hel
      cases hrk : rs k with
      | true =>
        rw [hrk] at HC1
        have HY : Hid ((List.range N).any rs = true) := List.any_eq_true.2 ⟨k, List.mem_range.2 hlt, hrk⟩
        clear hrk
        go_wp2_with fail
        refine HC1.out.mono ?_
        rintro e w2 ⟨rfl, hq⟩
        have HB2 := Hid.mk (HB.out.trans (hq.mono HB.out.size))
        clear hq
        go_wp2_with fail
        go_ret
        exact ⟨⟨_, rfl, by rw [HY.out]; exact decide_eq_true (by omega)⟩, HB2.out⟩
      | false =>
        rw [hrk] at HC1
        have HN : Hid ((List.range (k + 1)).any rs = false) := by show _ = _; rw [List.range_succ, List.any_append, HQ.out]; simp [hrk]
        clear hrk
        go_wp2_with fail
        refine HC1.out.mono ?_
        rintro e w2 ⟨rfl, hq⟩
        have HB2 := Hid.mk (HB.out.trans (hq.mono HB.out.size))
        clear hq
        go_wp2_with fail
        go_roundw
        case rel => exact ⟨k + 1, hlt, by go_num, HB2, HN⟩
        case measure => simp [intOf]; omega
    · obtain rfl : k = N := by omega
      have hl1 : ¬ (k : Int) < (k : Int) := by omega
      go_wp2_with fail
      go_ret
      exact ⟨⟨_, rfl, by rw [HQ.out]; rfl⟩, HB.out⟩
set_option maxHeartbeats 1600000 in
theorem has_lie (so : Option Addr) (N cap : Nat) (es : Nat → Value) (rs : Nat → Bool) (B : Nat) (w : World) (hcap : N ≤ cap) (hN2 : N ≤ 140737488355328)
    (HR : Hid (∀ u, Below w.heap.size w u → 0 < N → ∃ b off, so = some ⟨b, off, none⟩ ∧ ∀ k, k < N → u.cell? ⟨b, off + k, none⟩ = some (es k)))
    (HC : Hid (∀ k, k < N → ∀ u, Below w.heap.size w u → Calls Try.prog 41 #[es k, .pointer (some ⟨B, 0, none⟩)] u fun e w' => e = .returned (.bool (rs k)) ∧ Below u.heap.size u w')) (HE : Hid (∀ k, k < N → ∃ f, es k = .func (.func f) #[] #[])) :
    Calls Try.prog 39 #[.slice so N cap, .func (.func 41) #[] #[.pointer (some ⟨B, 0, none⟩)]] w fun e w' => e = .returned (.bool ((List.range N).any rs)) ∧ Below w.heap.size w w' := by
  have HI := Hid.mk (ix_lie so N cap es rs B w hcap hN2 HR HC HE)
  generalize (List.range N).any rs = R at HI ⊢
  clear HR HC HE
  go_enter Try.func39, Try.ntmps39
  go_wp2_with fail
  refine HI.out.mono ?_
  rintro e w2 ⟨⟨c, rfl, hc⟩, hq⟩
  subst hc
  go_wp2_with fail
  go_ret
  exact ⟨by first | rfl | simp, hq⟩

set_option maxRecDepth 100000 in
set_option maxHeartbeats 3200000 in
theorem ix_met (so : Option Addr) (N cap : Nat) (es : Nat → Value) (rs : Nat → Bool) (B : Nat) (w : World) (hcap : N ≤ cap) (hN2 : N ≤ 140737488355328)
    (HR : Hid (∀ u, Below w.heap.size w u → 0 < N → ∃ b off, so = some ⟨b, off, none⟩ ∧ ∀ k, k < N → u.cell? ⟨b, off + k, none⟩ = some (es k)))
    (HC : Hid (∀ k, k < N → ∀ u, Below w.heap.size w u → Calls Try.prog 50 #[es k, .pointer (some ⟨B, 0, none⟩)] u fun e w' => e = .returned (.bool (rs k)) ∧ Below u.heap.size u w')) (HE : Hid (∀ k, k < N → ∃ f, es k = .func (.func f) #[] #[])) :
    Calls Try.prog 54 #[.slice so N cap, .func (.func 50) #[] #[.pointer (some ⟨B, 0, none⟩)]] w fun e w' => (∃ c : Int, e = .returned (.int .i64 c) ∧ decide (0 ≤ c) = (List.range N).any rs) ∧ Below w.heap.size w w' := by
  go_enter Try.func54, Try.ntmps54
  go_wp2_with fail
  go_loopw [8] (fun i wr => ∃ k : Nat, k ≤ N ∧ i = .int .i64 (k : Int) ∧ Hid (Below w.heap.size w wr) ∧ Hid ((List.range k).any rs = false)) (fun i _ => N - (intOf i).toNat)
  case atStart => exact ⟨0, Nat.zero_le _, rfl, Below.refl _ _, rfl⟩
  case round =>
    obtain ⟨k, hk, rfl, HB, HQ⟩ := hrel
    by_cases hlt : k < N
    · have hl1 : (k : Int) < (N : Int) := by omega
      have hl0 : (0 : Int) ≤ (k : Int) := by omega
      obtain ⟨b, off, hso, hrow⟩ := HR.out wr HB.out (by omega)
      subst hso
      have c0 := hrow k hlt
      have HC1 := Hid.mk (HC.out k hlt wr HB.out)
      obtain ⟨s, hel⟩ := HE.out k hlt
      rw [hel] at c0 HC1
      clear hrow hel
      cases hrk : rs k with
      | true =>
        rw [hrk] at HC1
        have HY : Hid ((List.range N).any rs = true) := List.any_eq_true.2 ⟨k, List.mem_range.2 hlt, hrk⟩
        clear hrk
        go_wp2_with fail
        refine HC1.out.mono ?_
        rintro e w2 ⟨rfl, hq⟩
        have HB2 := Hid.mk (HB.out.trans (hq.mono HB.out.size))
        clear hq
        go_wp2_with fail
        go_ret
        exact ⟨⟨_, rfl, by rw [HY.out]; exact decide_eq_true (by omega)⟩, HB2.out⟩
      | false =>
        rw [hrk] at HC1
        have HN : Hid ((List.range (k + 1)).any rs = false) := by show _ = _; rw [List.range_succ, List.any_append, HQ.out]; simp [hrk]
        clear hrk
        go_wp2_with fail
        refine HC1.out.mono ?_
        rintro e w2 ⟨rfl, hq⟩
        have HB2 := Hid.mk (HB.out.trans (hq.mono HB.out.size))
        clear hq
        go_wp2_with fail
        go_roundw
        case rel => exact ⟨k + 1, hlt, by go_num, HB2, HN⟩
        case measure => simp [intOf]; omega
    · obtain rfl : k = N := by omega
      have hl1 : ¬ (k : Int) < (k : Int) := by omega
      go_wp2_with fail
      go_ret
      exact ⟨⟨_, rfl, by rw [HQ.out]; rfl⟩, HB.out⟩
set_option maxHeartbeats 1600000 in
theorem has_met (so : Option Addr) (N cap : Nat) (es : Nat → Value) (rs : Nat → Bool) (B : Nat) (w : World) (hcap : N ≤ cap) (hN2 : N ≤ 140737488355328)
    (HR : Hid (∀ u, Below w.heap.size w u → 0 < N → ∃ b off, so = some ⟨b, off, none⟩ ∧ ∀ k, k < N → u.cell? ⟨b, off + k, none⟩ = some (es k)))
    (HC : Hid (∀ k, k < N → ∀ u, Below w.heap.size w u → Calls Try.prog 50 #[es k, .pointer (some ⟨B, 0, none⟩)] u fun e w' => e = .returned (.bool (rs k)) ∧ Below u.heap.size u w')) (HE : Hid (∀ k, k < N → ∃ f, es k = .func (.func f) #[] #[])) :
    Calls Try.prog 39 #[.slice so N cap, .func (.func 50) #[] #[.pointer (some ⟨B, 0, none⟩)]] w fun e w' => e = .returned (.bool ((List.range N).any rs)) ∧ Below w.heap.size w w' := by
  have HI := Hid.mk (ix_met so N cap es rs B w hcap hN2 HR HC HE)
  generalize (List.range N).any rs = R at HI ⊢
  clear HR HC HE
  go_enter Try.func39, Try.ntmps39
  go_wp2_with fail
  refine HI.out.mono ?_
  rintro e w2 ⟨⟨c, rfl, hc⟩, hq⟩
  subst hc
  go_wp2_with fail
  go_ret
  exact ⟨by first | rfl | simp, hq⟩
end Go.Proofs.Ytihhjplbpaafiaa
