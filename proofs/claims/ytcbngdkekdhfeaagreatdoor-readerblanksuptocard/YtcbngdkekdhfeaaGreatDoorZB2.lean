import Derived.Test.YtcbngdkekdhfeaaGreatDoorZB1
import Derived.Test.YtcbngdkekdhfeaaGreatDoorM36
namespace Go.Proofs.YtcbngdkekdhfeaaGreatDoor
open Go.RowKit Go.Shelf Go.Sort
set_option linter.unusedVariables false
set_option linter.unusedSimpArgs false
attribute [local go_sem] Oper.semAt_some

def BlA (s : ByteArray) (w : World) (e : Ending) (w' : World) : Prop := ∃ b : Bool, e = .returned (.bool b) ∧ (b = true → ∀ c ∈ s.data.toList, cBl.contains c = true) ∧ w' = w
theorem BlA.of {s : ByteArray} {w : World} {e : Ending} {w' : World} (b : Bool) (h1 : e = .returned (.bool b)) (h2 : b = true → ∀ c ∈ s.data.toList, cBl.contains c = true) (h3 : w' = w) : BlA s w e w' := ⟨b, h1, h2, h3⟩
def WhA (s : ByteArray) (w : World) (e : Ending) (w' : World) : Prop := ∃ b : Bool, e = .returned (.bool b) ∧ (b = true → Wh s.data.toList 0) ∧ Below w.heap.size w w'
theorem WhA.of {s : ByteArray} {w : World} {e : Ending} {w' : World} (b : Bool) (h1 : e = .returned (.bool b)) (h2 : b = true → Wh s.data.toList 0) (h3 : Below w.heap.size w w') : WhA s w e w' := ⟨b, h1, h2, h3⟩

set_option maxRecDepth 100000 in
set_option maxHeartbeats 3200000 in
theorem w_5blanks (s : ByteArray) (w : World) (hs : s.size ≤ 1099511627776) : Calls Tryz.prog 15 #[.string s] w fun e w' => BlA s w e w' := by
  have HL : Hid (s.data.toList.length = s.size) := size_lst s
  go_enter Tryz.func15, Tryz.ntmps15
  go_wp2_with fail
  go_loopw [3] (fun a wr => ∃ k : Nat, k ≤ s.size ∧ a = .int .i64 (k : Int) ∧ Hid (∀ c ∈ s.data.toList.take k, cBl.contains c = true) ∧ wr = w) (fun a _ => s.size - (intOf a).toNat)
  case atStart => exact ⟨0, Nat.zero_le _, rfl, (fun c hc => by simp at hc), rfl⟩
  case round =>
    obtain ⟨k, hk, rfl, HT0, rfl⟩ := hrel
    by_cases hlt : k < s.size
    · have hi1 : (k : Int) < (s.size : Int) := by omega
      have hi0 : (0 : Int) ≤ (k : Int) := by omega
      have ht := blank_tab s[k]
      have hlt8 := s[k].toNat_lt
      have HSTEP : Hid (cBl.contains s[k] = true → ∀ c ∈ s.data.toList.take (k + 1), cBl.contains c = true) := by
        intro h c hc
        have hkl : k < s.data.toList.length := by rw [HL.out]; exact hlt
        rw [List.take_succ_eq_append_getElem hkl] at hc
        rcases List.mem_append.1 hc with h1 | h1
        · exact HT0.out c h1
        · rw [List.mem_singleton.1 h1]; exact h
      by_cases h1 : ((s[k].toNat : Nat) : Int) = 32
      · have HT : Hid (cBl.contains s[k] = true) := by show _ = _; rw [ht]; exact decide_eq_true (by omega)
        clear ht hlt8
        go_wp2_with fail
        go_roundw
        case rel => exact ⟨k + 1, by omega, by go_num, HSTEP.out HT.out, (by first | rfl | trivial)⟩
        case measure => simp [intOf]; omega
      by_cases h2 : ((s[k].toNat : Nat) : Int) = 9
      · have HT : Hid (cBl.contains s[k] = true) := by show _ = _; rw [ht]; exact decide_eq_true (by omega)
        clear ht hlt8
        go_wp2_with fail
        go_roundw
        case rel => exact ⟨k + 1, by omega, by go_num, HSTEP.out HT.out, (by first | rfl | trivial)⟩
        case measure => simp [intOf]; omega
      by_cases h3 : ((s[k].toNat : Nat) : Int) = 10
      · have HT : Hid (cBl.contains s[k] = true) := by show _ = _; rw [ht]; exact decide_eq_true (by omega)
        clear ht hlt8
        go_wp2_with fail
        go_roundw
        case rel => exact ⟨k + 1, by omega, by go_num, HSTEP.out HT.out, (by first | rfl | trivial)⟩
        case measure => simp [intOf]; omega
      by_cases h4 : ((s[k].toNat : Nat) : Int) = 13
      · have HT : Hid (cBl.contains s[k] = true) := by show _ = _; rw [ht]; exact decide_eq_true (by omega)
        clear ht hlt8
        go_wp2_with fail
        go_roundw
        case rel => exact ⟨k + 1, by omega, by go_num, HSTEP.out HT.out, (by first | rfl | trivial)⟩
        case measure => simp [intOf]; omega
      have g1 : (((s[k].toNat : Nat) : Int) == (32 : Int)) = false := by rw [beq_eq_false_iff_ne]; exact h1
      have f1 : (((s[k].toNat : Nat) : Int) != (32 : Int)) = true := by rw [bne, g1]; rfl
      have g2 : (((s[k].toNat : Nat) : Int) == (9 : Int)) = false := by rw [beq_eq_false_iff_ne]; exact h2
      have f2 : (((s[k].toNat : Nat) : Int) != (9 : Int)) = true := by rw [bne, g2]; rfl
      have g3 : (((s[k].toNat : Nat) : Int) == (10 : Int)) = false := by rw [beq_eq_false_iff_ne]; exact h3
      have f3 : (((s[k].toNat : Nat) : Int) != (10 : Int)) = true := by rw [bne, g3]; rfl
      have g4 : (((s[k].toNat : Nat) : Int) == (13 : Int)) = false := by rw [beq_eq_false_iff_ne]; exact h4
      have f4 : (((s[k].toNat : Nat) : Int) != (13 : Int)) = true := by rw [bne, g4]; rfl
      clear ht hlt8
      go_wp2_with fail
      go_ret
      exact BlA.of false rfl (fun h => by cases h) rfl
    · have hi1 : ¬ (k : Int) < (s.size : Int) := by omega
      obtain rfl : k = s.size := by omega
      go_wp2_with fail
      go_ret
      refine BlA.of true rfl (fun _ c hc => HT0.out c ?_) rfl
      rw [List.take_of_length_le (by rw [HL.out]; exact Nat.le_refl _)]; exact hc

set_option maxRecDepth 100000 in
set_option maxHeartbeats 3200000 in
theorem w_5Whole (s : ByteArray) (w : World) (hs : s.size ≤ 1048576) : Calls Tryz.prog 16 #[.string s] w fun e w' => WhA s w e w' := by
  have HL : Hid (s.data.toList.length = s.size) := size_lst s
  have HN := Hid.mk (fun (u : World) (q : Nat) (hq : q ≤ s.size) => w_5Next s q u hq hs)
  go_enter Tryz.func16, Tryz.ntmps16
  go_wp2_with fail
  go_loopw [3] (fun a wr => ∃ k : Nat, k ≤ s.size ∧ a = .int .i64 (k : Int) ∧ Hid (Wh s.data.toList k → Wh s.data.toList 0) ∧ Hid (Below w.heap.size w wr)) (fun a _ => s.size - (intOf a).toNat)
  case atStart => exact ⟨0, Nat.zero_le _, rfl, (fun h => h), Below.refl _ _⟩
  case round =>
    obtain ⟨k, hk, rfl, HW, HB⟩ := hrel
    have hle : (k : Int) ≤ (s.size : Int) := by omega
    go_wp2_with fail
    refine (HN.out _ k hk).mono ?_
    rintro e w1 ⟨hb1, hnx⟩
    have HB1 : Hid (Below w.heap.size w w1) := HB.out.trans (hb1.mono HB.out.size)
    have hkl : k ≤ s.data.toList.length := by rw [HL.out]; exact hk
    clear hb1 HB
    rcases hnx with ⟨hend, rfl⟩ | ⟨hin, ⟨h2, rfl⟩ | ⟨h2, sg, rfl⟩⟩
    · have HFin : Hid (Wh s.data.toList 0) := HW.out (.fin hkl hend)
      clear hend HW hkl
      unfold pc5
      go_wp2_with fail
      go_ret
      exact WhA.of true rfl (fun _ => HFin.out) (HB1.out.alloc HB1.out.size _)
    · have hkd := nextT_kind h2
      have hup := nextT_up hin h2
      have hbe := (behL_ge (l := s.data.toList) (p := k) cBl hkl).1
      have HW2 : Hid (Wh s.data.toList (nextT s.data.toList (behL s.data.toList k cBl)).fin → Wh s.data.toList 0) := fun h => HW.out (.tok hkl hin h2 h)
      have hs36 := sg5_36 hkd.1 hkd.2
      have hf1 : k < (nextT s.data.toList (behL s.data.toList k cBl)).fin := by omega
      have hf2 : (nextT s.data.toList (behL s.data.toList k cBl)).fin ≤ s.size := by rw [← HL.out]; exact hup.2
      clear HW hkd hup hbe hin h2 hkl
      generalize nextT s.data.toList (behL s.data.toList k cBl) = t at *
      obtain ⟨kd, ta, tf, tx, te⟩ := t
      dsimp only at hf1 hf2 hs36 HW2 ⊢
      generalize sg5 kd = sg at *
      have hsb : (((sg : Nat) : Int) == 36) = false := by rw [beq_eq_false_iff_ne]; omega
      have hsn : ¬ ((sg : Nat) : Int) = 36 := by omega
      clear hs36
      unfold pc5
      go_wp2_with fail
      go_roundw
      case rel => exact ⟨tf, hf2, rfl, HW2, HB1.out.alloc HB1.out.size _⟩
      case measure => simp [intOf]; omega
    · have hcb : (((nextT s.data.toList (behL s.data.toList k cBl)).err : Int) == 0) = false := by rw [beq_eq_false_iff_ne]; omega
      have hcn : ¬ ((nextT s.data.toList (behL s.data.toList k cBl)).err : Int) = 0 := by omega
      clear hin h2 HW hkl
      generalize nextT s.data.toList (behL s.data.toList k cBl) = t at *
      obtain ⟨kd, ta, tf, tx, te⟩ := t
      dsimp only at hcb hcn ⊢
      unfold pc5
      go_wp2_with fail
      go_ret
      exact WhA.of false rfl (fun h => by cases h) (HB1.out.alloc HB1.out.size _)
end Go.Proofs.YtcbngdkekdhfeaaGreatDoor
