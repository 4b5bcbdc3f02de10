import Derived.Test.YtbfjpmbninlbbabGreatDoorV31
namespace Go.Proofs.YtbfjpmbninlbbabGreatDoor
open Go.RowKit
set_option linter.unusedVariables false
set_option linter.unusedSimpArgs false

/-- these bytes stand in s from f on -/
def stands (s : ByteArray) (f : Nat) (l : List UInt8) : Prop := f + l.length ≤ s.size ∧ ∀ j, j < l.length → s.data.toList.getD (f + j) 0 = l.getD j 0
instance (s : ByteArray) (f : Nat) (l : List UInt8) : Decidable (stands s f l) := inferInstanceAs (Decidable (_ ∧ _))

theorem stands_iff (s : ByteArray) (f : Nat) (l : List UInt8) (hf : f ≤ s.size) : stands s f l ↔ ∃ post, s.data.toList.drop f = l ++ post := by
  have hsl : s.data.toList.length = s.size := by rw [Array.length_toList]; rfl
  constructor
  · rintro ⟨h1, h2⟩
    refine ⟨s.data.toList.drop (f + l.length), ?_⟩
    rw [← List.drop_drop]
    have : l = (s.data.toList.drop f).take l.length := by
      apply List.ext_getElem
      · rw [List.length_take, List.length_drop]; omega
      · intro j h3 h4
        have := h2 j h3
        rw [List.getElem_take, List.getElem_drop]
        rw [List.getD_eq_getElem?_getD, List.getD_eq_getElem?_getD, List.getElem?_eq_getElem (by omega), List.getElem?_eq_getElem h3] at this
        exact this.symm
    exact (List.take_append_drop l.length (s.data.toList.drop f)).symm.trans (by rw [← this])
  · rintro ⟨post, h⟩
    have hl := congrArg List.length h
    rw [List.length_drop, List.length_append, hsl] at hl
    by_cases hl0 : l.length = 0
    · have e : l = [] := List.eq_nil_of_length_eq_zero hl0
      subst e
      exact ⟨by simpa using hf, fun j hj => by cases hj⟩
    · refine ⟨by omega, fun j hj => ?_⟩
      have : (s.data.toList.drop f).getD j 0 = (l ++ post).getD j 0 := by rw [h]
      rw [List.getD_eq_getElem?_getD, List.getElem?_drop, List.getD_eq_getElem?_getD, List.getElem?_append_left hj] at this
      rw [List.getD_eq_getElem?_getD, List.getD_eq_getElem?_getD]
      exact this

set_option maxRecDepth 100000 in
set_option maxHeartbeats 1600000 in
theorem w_same (s : ByteArray) (f g : Nat) (l : List UInt8) (w : World) (hB : BRow w g l) (hf : f ≤ s.size) (hs : s.size ≤ 4611686018427387904) (hl : l.length ≤ 1099511627776) :
    Calls Tryz.prog 46 #[.string s, .int .i64 (f : Int), .slice (some ⟨g, 0, none⟩) l.length l.length] w fun e w' => e = .returned (.bool (decide (stands s f l))) ∧ Below w.heap.size w w' := by
  obtain ⟨N, hN⟩ : ∃ N, l.length = N := ⟨_, rfl⟩
  have HN := Hid.mk hN
  have HB := Hid.mk hB
  rw [hN] at hl ⊢
  clear hN hB
  by_cases hfit : f + N ≤ s.size
  · have q0 : ¬ (s.size : Int) < (f : Int) + (N : Int) := by omega
    go_enter Tryz.func46, Tryz.ntmps46
    go_wp2_with fail
    go_loopw [7] (fun i wr => ∃ (k : Nat), k ≤ N ∧ i = .int .i64 k ∧ Hid (Below w.heap.size w wr ∧ ∀ j, j < k → s.data.toList.getD (f + j) 0 = l.getD j 0)) (fun i _ => N - (intOf i).toNat)
    case atStart => exact ⟨0, Nat.zero_le _, rfl, Below.refl _ _, fun j hj => by cases hj⟩
    case round =>
      obtain ⟨k, hk, rfl, HQ⟩ := hrel
      by_cases hlt : k < N
      · have hk1 : (k : Int) < (N : Int) := by omega
        have hkl : k < l.length := by rw [HN.out]; exact hlt
        have hc1 := (HQ.out.1.cell (p := ⟨g, k, none⟩) HB.out.lt).trans (HB.out.cell k hkl)
        have hfk : f + k < s.size := by omega
        have hfk2 : (f : Int) + (k : Int) < (s.size : Int) := by omega
        have hg : s[f + k]'hfk = s.data.toList.getD (f + k) 0 := by
          have hll : f + k < s.data.toList.length := by rw [Array.length_toList]; exact hfk
          rw [List.getD_eq_getElem?_getD, List.getElem?_eq_getElem hll]; rfl
        obtain ⟨a, ha⟩ : ∃ a, a = s[f + k]'hfk := ⟨_, rfl⟩
        obtain ⟨b, hb⟩ : ∃ b, b = l.getD k 0 := ⟨_, rfl⟩
        rw [← hb] at hc1
        obtain ⟨p, hp⟩ : ∃ p, p = f + k := ⟨_, rfl⟩
        have hpi : (f : Int) + (k : Int) = (p : Int) := by omega
        have hps : p < s.size := by omega
        have hps2 : (p : Int) < (s.size : Int) := by omega
        have gp : s[p]'hps = a := by subst hp; exact ha.symm
        have HGA : Hid (s.data.toList.getD (f + k) 0 = a) := by show _ = _; rw [ha, hg]
        by_cases hab : a = b
        · have q1 : (((a.toNat : Nat) : Int) != ((b.toNat : Nat) : Int)) = false := by rw [hab]; simp
          have HNx : Hid (∀ j, j < k + 1 → s.data.toList.getD (f + j) 0 = l.getD j 0) := by
            intro j hj
            rcases Nat.lt_or_ge j k with h | h
            · exact HQ.out.2 j h
            · have : j = k := by omega
              subst this
              rw [HGA.out, hab, hb]
          clear hab hb hg ha hkl hp hfk2
          go_wp2_with fail
          go_quiet (fail)
          have HQ2 : Hid (Below w.heap.size w (wr.drewN nq)) := ⟨HQ.out.1.os, HQ.out.1.tape, HQ.out.1.output, HQ.out.1.size, HQ.out.1.block⟩
          go_wp2_with fail
          go_roundw
          case measure => simp [intOf]; omega
          exact ⟨k + 1, by omega, by go_num, HQ2.out, HNx.out⟩
        · have q1 : (((a.toNat : Nat) : Int) != ((b.toNat : Nat) : Int)) = true := by
            rw [bne_iff_ne]
            intro e
            apply hab
            apply UInt8.toNat_inj.1
            omega
          have HD : Hid (decide (stands s f l) = false) := by
            show _ = _
            refine decide_eq_false fun h => hab ?_
            rw [ha, hg, hb]
            exact h.2 k hkl
          clear hab hb hg ha hkl hp hfk2
          go_wp2_with fail
          go_quiet (fail)
          have HQ2 : Hid (Below w.heap.size w (wr.drewN nq)) := ⟨HQ.out.1.os, HQ.out.1.tape, HQ.out.1.output, HQ.out.1.size, HQ.out.1.block⟩
          go_wp2_with fail
          go_ret
          exact ⟨by rw [HD.out]; rfl, HQ2.out⟩
      · have hk1 : ¬ (k : Int) < (N : Int) := by omega
        have HD : Hid (decide (stands s f l) = true) := by
          show _ = _
          refine decide_eq_true ⟨by rw [HN.out]; exact hfit, fun j hj => HQ.out.2 j ?_⟩
          rw [HN.out] at hj; omega
        go_wp2_with fail
        go_ret
        exact ⟨by rw [HD.out]; rfl, HQ.out.1⟩
  · have q0 : (s.size : Int) < (f : Int) + (N : Int) := by omega
    have HD : Hid (decide (stands s f l) = false) := by
      show _ = _
      refine decide_eq_false fun h => hfit ?_
      have := h.1; rw [HN.out] at this; exact this
    clear hfit
    go_enter Tryz.func46, Tryz.ntmps46
    go_wp2_with fail
    go_ret
    exact ⟨by rw [HD.out]; rfl, Below.refl _ _⟩
end Go.Proofs.YtbfjpmbninlbbabGreatDoor
