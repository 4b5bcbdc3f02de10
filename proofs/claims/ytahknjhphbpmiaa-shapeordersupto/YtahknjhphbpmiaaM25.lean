import Derived.Test.YtahknjhphbpmiaaM19
import Derived.Test.YtahknjhphbpmiaaM24
namespace Go.Proofs.Ytahknjhphbpmiaa
open Go.RowKit Go.Shelf Go.Sort
set_option linter.unusedVariables false
set_option linter.unusedSimpArgs false
attribute [local go_sem] Oper.semAt_some

/-- a span is as it must be -/
def spOk (p : ByteArray × ByteArray) : Bool := bndB p.1 && (bndB p.2 && (p.1.size == 0 || (p.2.size == 0 || decide (numC p.1 p.2 ≤ 0))))
/-- spans are as they must be -/
def spB : List (ByteArray × ByteArray) → Bool
  | [] => true
  | [p] => spOk p
  | _ => false
theorem list_none {s : ByteArray} (h : s.size = 0) : s.toList = [] := by
  rw [Lib.toList_data]
  exact List.eq_nil_of_length_eq_zero (by rw [Array.length_toList]; exact h)
theorem list_some {s : ByteArray} (h : ¬ s.size = 0) : ¬ s.toList = [] := fun h0 => h (by
  rw [Lib.toList_data] at h0
  have h2 := congrArg List.length h0
  rw [Array.length_toList] at h2
  exact h2)

set_option maxRecDepth 100000 in
set_option maxHeartbeats 1600000 in
theorem w_rSpans (so : Option Addr) (N cap : Nat) (ps : List (ByteArray × ByteArray)) (w : World) (hI : SpIn w so ps) (hN : ps.length = N) (hc : N ≤ cap) (hN2 : N ≤ 140737488355328) (hs : ∀ p ∈ ps, p.1.size ≤ 140737488355328 ∧ p.2.size ≤ 140737488355328) :
    Calls Try.prog 18 #[.slice so N cap] w fun e w' => e = .returned (.bool (spB ps)) ∧ Below w.heap.size w w' := by
  by_cases h1 : 1 < N
  · have hf : spB ps = false := by
      match ps, hN with
      | [], h => simp at h; omega
      | [p], h => simp at h; omega
      | _ :: _ :: _, _ => rfl
    rw [hf]
    have h1' : (1 : Int) < (N : Int) := by omega
    clear hI hN hs h1 hf
    go_enter Try.func18, Try.ntmps18
    go_wp2_with fail
    go_ret
    exact ⟨rfl, Below.refl _ _⟩
  · have h1' : ¬ (1 : Int) < (N : Int) := by omega
    have HI := Hid.mk hI
    have HN := Hid.mk hN
    have HS := Hid.mk hs
    clear hI hN hs
    go_enter Try.func18, Try.ntmps18
    go_wp2_with fail
    go_loopw [3] (fun i wr => ∃ k : Nat, k ≤ N ∧ i = .int .i64 (k : Int) ∧ Hid (Below w.heap.size w wr) ∧ Hid (k = N → spB ps = true)) (fun i _ => N - (intOf i).toNat)
    case atStart =>
      refine ⟨0, Nat.zero_le _, rfl, Below.refl _ _, fun h0 => ?_⟩
      have : ps = [] := List.eq_nil_of_length_eq_zero (by rw [HN.out]; exact h0.symm)
      rw [this]; rfl
    case round =>
      obtain ⟨k, hk, rfl, HB, HQ⟩ := hrel
      by_cases hlt : k < N
      · have hl1 : (k : Int) < (N : Int) := by omega
        have hl0 : (0 : Int) ≤ (k : Int) := by omega
        have hkl : k < ps.length := by rw [HN.out]; exact hlt
        obtain ⟨p, hp⟩ : ∃ p, ps = [p] := by
          match ps, HN.out, hkl with
          | [], _, h => cases h
          | [p], _, _ => exact ⟨p, rfl⟩
          | _ :: _ :: _, h, _ => simp at h; omega
        obtain ⟨b, off, hso, hbl, hrow⟩ := (HI.out.keep HB.out).row (by omega)
        subst hso
        subst hp
        have hk0 : k = 0 := by omega
        subst hk0
        have hl1 : (0 : Int) < (N : Int) := by omega
        clear hl0
        have hrow0 := hrow 0 hkl
        obtain ⟨z1, z2⟩ := HS.out p (List.mem_singleton.2 rfl)
        obtain ⟨lo, hi⟩ := p
        dsimp only [List.getElem_cons_zero] at hrow0 z1 z2
        obtain ⟨c0, c1⟩ := hrow0
        simp only [Nat.zero_mul, Nat.add_zero] at c0 c1
        have HC0 := Hid.mk (fun u => w_rbound lo u z1)
        have HC1 := Hid.mk (fun u => w_rbound hi u z2)
        have HG : Hid (spB [(lo, hi)] = (bndB lo && (bndB hi && (lo.size == 0 || (hi.size == 0 || decide (numC lo hi ≤ 0)))))) := rfl
        clear HQ hrow hkl HS HI
        cases e0 : bndB lo with
        | false =>
          have HG' : Hid (spB [(lo, hi)] = false) := by show _ = _; rw [HG.out, e0]; rfl
          rw [e0] at HC0
          clear e0
          go_wp2_with fail
          refine (HC0.out _).mono ?_
          rintro e w1 ⟨rfl, rfl⟩
          go_wp2_with fail
          go_ret
          exact ⟨by first | (rw [HG'.out]; rfl) | rw [HG'.out], HB.out⟩
        | true =>
          cases e1 : bndB hi with
          | false =>
            have HG' : Hid (spB [(lo, hi)] = false) := by show _ = _; rw [HG.out, e0, e1]; rfl
            rw [e0] at HC0
            rw [e1] at HC1
            clear e0 e1
            go_wp2_with fail
            refine (HC0.out _).mono ?_
            rintro e w1 ⟨rfl, rfl⟩
            go_wp2_with fail
            refine (HC1.out _).mono ?_
            rintro e w2 ⟨rfl, rfl⟩
            go_wp2_with fail
            go_ret
            exact ⟨by first | (rw [HG'.out]; rfl) | rw [HG'.out], HB.out⟩
          | true =>
            have HE := Hid.mk (And.intro e0 e1)
            rw [e0] at HC0
            rw [e1] at HC1
            clear e0 e1
            go_wp2_with fail
            refine (HC0.out _).mono ?_
            rintro e w1 ⟨rfl, rfl⟩
            go_wp2_with fail
            refine (HC1.out _).mono ?_
            rintro e w2 ⟨rfl, rfl⟩
            go_wp2_with fail
            by_cases hz1 : lo.size = 0
            · have hn1 := list_none hz1
              have HG' : Hid (spB [(lo, hi)] = true) := by show _ = _; rw [HG.out, HE.out.1, HE.out.2, hz1]; rfl
              clear hz1
              go_quiet (fail)
              have HB2 : Hid (Below w.heap.size w (w2.drewN nq)) := below_drewN HB.out _
              go_wp2_with fail
              go_roundw
              case rel => exact ⟨0 + 1, hlt, by go_num, HB2, fun _ => HG'.out⟩
              case measure => simp [intOf]; omega
            · have hn1 : lo.toList.isEmpty = false := by have := list_some hz1; cases hh : lo.toList with | nil => exact absurd hh this | cons => rfl
              by_cases hz2 : hi.size = 0
              · have hn2 : hi.toList.isEmpty = true := by rw [list_none hz2]; rfl
                have HG' : Hid (spB [(lo, hi)] = true) := by show _ = _; rw [HG.out, HE.out.1, HE.out.2, hz2, beq_false_of_ne hz1]; rfl
                clear hz1 hz2
                have A0 := fun d os => cell_regrown c0 d os
                have A1 := fun d os => cell_regrown c1 d os
                refine wp_region_quiet_below (by kernel_rfl) (by kernel_rfl) ?_
                repeat (go_big_quiet_step (fail))
                refine wpQuiet_nil ?_
                intro w9 hw'
                have hb9 : Below w2.heap.size w2 w9 := by
                  obtain ⟨⟨dq, osq⟩, rfl⟩ := hw'
                  exact below_regrown w2 dq osq
                have HB2 : Hid (Below w.heap.size w w9) := HB.out.trans (hb9.mono HB.out.size)
                clear hw' hb9 A0 A1 c0 c1
                go_wp2_with fail
                go_roundw
                case rel => exact ⟨0 + 1, hlt, by go_num, HB2, fun _ => HG'.out⟩
                case measure => simp [intOf]; omega
              · have hn2 : hi.toList.isEmpty = false := by have := list_some hz2; cases hh : hi.toList with | nil => exact absurd hh this | cons => rfl
                have f1 : Pl.formed lo.data.toList = true := by have := HE.out.1; simpa [bndB, hz1] using this
                have f2 : Pl.formed hi.data.toList = true := by have := HE.out.2; simpa [bndB, hz2] using this
                have HC2 := Hid.mk (fun (d : Nat) (os : Array Obj) => w_Numbers lo hi (grow (redrawn w2 d) os) f1 f2 z1 z2)
                have HG2 : Hid (spB [(lo, hi)] = decide (numC lo hi ≤ 0)) := by show _ = _; rw [HG.out, HE.out.1, HE.out.2, beq_false_of_ne hz1, beq_false_of_ne hz2]; rfl
                generalize numC lo hi = c at HC2 HG2
                clear hz1 hz2 f1 f2
                have A0 := fun d os => cell_regrown c0 d os
                have A1 := fun d os => cell_regrown c1 d os
                by_cases hcz : c ≤ 0
                · have HG' : Hid (spB [(lo, hi)] = true) := by show _ = _; rw [HG2.out]; exact decide_eq_true hcz
                  have hcz' : ¬ 0 < c := by omega
                  clear hcz
                  refine wp_region_quiet_below (by kernel_rfl) (by kernel_rfl) ?_
                  repeat (go_big_quiet_step (exact Calls.regrown_of (HC2.out _ _)))
                  refine wpQuiet_nil ?_
                  intro w9 hw'
                  have hb9 : Below w2.heap.size w2 w9 := by
                    obtain ⟨⟨dq, osq⟩, rfl⟩ := hw'
                    exact below_regrown w2 dq osq
                  have HB2 : Hid (Below w.heap.size w w9) := HB.out.trans (hb9.mono HB.out.size)
                  clear hw' hb9 A0 A1 c0 c1
                  go_wp2_with fail
                  go_roundw
                  case rel => exact ⟨0 + 1, hlt, by go_num, HB2, fun _ => HG'.out⟩
                  case measure => simp [intOf]; omega
                · have HG' : Hid (spB [(lo, hi)] = false) := by show _ = _; rw [HG2.out]; exact decide_eq_false hcz
                  have hcz' : 0 < c := by omega
                  clear hcz
                  refine wp_region_quiet_below (by kernel_rfl) (by kernel_rfl) ?_
                  repeat (go_big_quiet_step (exact Calls.regrown_of (HC2.out _ _)))
                  refine wpQuiet_nil ?_
                  intro w9 hw'
                  have hb9 : Below w2.heap.size w2 w9 := by
                    obtain ⟨⟨dq, osq⟩, rfl⟩ := hw'
                    exact below_regrown w2 dq osq
                  have HB2 : Hid (Below w.heap.size w w9) := HB.out.trans (hb9.mono HB.out.size)
                  clear hw' hb9 A0 A1 c0 c1
                  go_wp2_with fail
                  go_ret
                  exact ⟨by first | (rw [HG'.out]; rfl) | rw [HG'.out], HB2.out⟩
      · have hkN : k = N := by omega
        have HQ' := Hid.mk (HQ.out hkN)
        have hl1 : ¬ (k : Int) < (N : Int) := by omega
        clear HQ hkN
        go_wp2_with fail
        go_ret
        exact ⟨by first | (rw [HQ'.out]; rfl) | rw [HQ'.out], HB.out⟩
end Go.Proofs.Ytahknjhphbpmiaa
