import Derived.Test.YtbfjpmbninlbbabGreatDoorQ3
namespace Go.Proofs.YtbfjpmbninlbbabGreatDoor
open Go.RowKit
set_option linter.unusedVariables false
set_option linter.unusedSimpArgs false

/-- bytes in cells -/
structure BCells (w : World) (g : Nat) (l : List UInt8) : Prop where
  lt : g < w.heap.size
  cell : ∀ i, i < l.length → w.cell? ⟨g, i, none⟩ = some (.int .u8 ((l.getD i 0).toNat : Int))

theorem bcells_conv (w : World) (p : ByteArray) : BCells (Lib.bytesWorld w 5 p) w.heap.size p.data.toList ∧ Below w.heap.size w (Lib.bytesWorld w 5 p) := by
  refine ⟨⟨by rw [Lib.bytesWorld_size]; omega, fun i hi => ?_⟩, Lib.bytesWorld_below w 5 p⟩
  rw [sizeL] at hi
  exact Lib.bytesWorld_cell w 5 p i hi

set_option maxRecDepth 100000 in
set_option maxHeartbeats 1600000 in
theorem w_sameC (s : ByteArray) (f g cap : Nat) (l : List UInt8) (w : World) (hB : BCells w g l) (hf : f ≤ s.size) (hs : s.size ≤ 4611686018427387904) (hl : l.length ≤ 1099511627776) :
    Calls Tryz.prog 46 #[.string s, .int .i64 (f : Int), .slice (some ⟨g, 0, none⟩) l.length cap] w fun e w' => e = .returned (.bool (decide (stands s f l))) ∧ Below w.heap.size w w' := by
  obtain ⟨N, hN⟩ : ∃ N, l.length = N := ⟨_, rfl⟩
  have HN := Hid.mk hN
  have HB := Hid.mk hB
  rw [hN] at hl ⊢
  clear hN hB
  by_cases hfit : f + N ≤ s.size
  · have q0 : ¬ (s.size : Int) < (f : Int) + (N : Int) := by omega
    go_enter Tryz.func46, Tryz.ntmps46
    go_wp2_with fail
    go_loopw [7] (fun i wr => ∃ (k : Nat), k ≤ N ∧ i = .int .i64 k ∧ Hid (Below w.heap.size w wr ∧ ∀ j, j < k → s.data.toList.getD (f + j) 0 = l.getD j 0)) (fun i _ => N - (intOf i).toNat)
    case atStart => exact ⟨0, Nat.zero_le _, rfl, Below.refl _ _, fun j hj => by cases hj⟩
    case round =>
      obtain ⟨k, hk, rfl, HQ⟩ := hrel
      by_cases hlt : k < N
      · have hk1 : (k : Int) < (N : Int) := by omega
        have hkl : k < l.length := by rw [HN.out]; exact hlt
        have hc1 := (HQ.out.1.cell (p := ⟨g, k, none⟩) HB.out.lt).trans (HB.out.cell k hkl)
        have hfk : f + k < s.size := by omega
        have hfk2 : (f : Int) + (k : Int) < (s.size : Int) := by omega
        have hg : s[f + k]'hfk = s.data.toList.getD (f + k) 0 := by
          have hll : f + k < s.data.toList.length := by rw [Array.length_toList]; exact hfk
          rw [List.getD_eq_getElem?_getD, List.getElem?_eq_getElem hll]; rfl
        obtain ⟨a, ha⟩ : ∃ a, a = s[f + k]'hfk := ⟨_, rfl⟩
        obtain ⟨b, hb⟩ : ∃ b, b = l.getD k 0 := ⟨_, rfl⟩
        rw [← hb] at hc1
        obtain ⟨p, hp⟩ : ∃ p, p = f + k := ⟨_, rfl⟩
        have hpi : (f : Int) + (k : Int) = (p : Int) := by omega
        have hps : p < s.size := by omega
        have hps2 : (p : Int) < (s.size : Int) := by omega
        have gp : s[p]'hps = a := by subst hp; exact ha.symm
        have HGA : Hid (s.data.toList.getD (f + k) 0 = a) := by show _ = _; rw [ha, hg]
        by_cases hab : a = b
        · have q1 : (((a.toNat : Nat) : Int) != ((b.toNat : Nat) : Int)) = false := by rw [hab]; simp
          have HNx : Hid (∀ j, j < k + 1 → s.data.toList.getD (f + j) 0 = l.getD j 0) := by
            intro j hj
            rcases Nat.lt_or_ge j k with h | h
            · exact HQ.out.2 j h
            · have : j = k := by omega
              subst this
              rw [HGA.out, hab, hb]
          clear hab hb hg ha hkl hp hfk2
          go_wp2_with fail
          go_quiet (fail)
          have HQ2 : Hid (Below w.heap.size w (wr.drewN nq)) := ⟨HQ.out.1.os, HQ.out.1.tape, HQ.out.1.output, HQ.out.1.size, HQ.out.1.block⟩
          go_wp2_with fail
          go_roundw
          case measure => simp [intOf]; omega
          exact ⟨k + 1, by omega, by go_num, HQ2.out, HNx.out⟩
        · have q1 : (((a.toNat : Nat) : Int) != ((b.toNat : Nat) : Int)) = true := by
            rw [bne_iff_ne]
            intro e
            apply hab
            apply UInt8.toNat_inj.1
            omega
          have HD : Hid (decide (stands s f l) = false) := by
            show _ = _
            refine decide_eq_false fun h => hab ?_
            rw [ha, hg, hb]
            exact h.2 k hkl
          clear hab hb hg ha hkl hp hfk2
          go_wp2_with fail
          go_quiet (fail)
          have HQ2 : Hid (Below w.heap.size w (wr.drewN nq)) := ⟨HQ.out.1.os, HQ.out.1.tape, HQ.out.1.output, HQ.out.1.size, HQ.out.1.block⟩
          go_wp2_with fail
          go_ret
          exact ⟨by rw [HD.out]; rfl, HQ2.out⟩
      · have hk1 : ¬ (k : Int) < (N : Int) := by omega
        have HD : Hid (decide (stands s f l) = true) := by
          show _ = _
          refine decide_eq_true ⟨by rw [HN.out]; exact hfit, fun j hj => HQ.out.2 j ?_⟩
          rw [HN.out] at hj; omega
        go_wp2_with fail
        go_ret
        exact ⟨by rw [HD.out]; rfl, HQ.out.1⟩
  · have q0 : (s.size : Int) < (f : Int) + (N : Int) := by omega
    have HD : Hid (decide (stands s f l) = false) := by
      show _ = _
      refine decide_eq_false fun h => hfit ?_
      have := h.1; rw [HN.out] at this; exact this
    clear hfit
    go_enter Tryz.func46, Tryz.ntmps46
    go_wp2_with fail
    go_ret
    exact ⟨by rw [HD.out]; rfl, Below.refl _ _⟩
end Go.Proofs.YtbfjpmbninlbbabGreatDoor
