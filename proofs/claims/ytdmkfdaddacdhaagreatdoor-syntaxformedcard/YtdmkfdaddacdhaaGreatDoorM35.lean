import Derived.Test.YtdmkfdaddacdhaaGreatDoorM33
import Derived.Test.YtdmkfdaddacdhaaGreatDoorM18
namespace Go.Proofs.YtdmkfdaddacdhaaGreatDoor
open Go.RowKit
set_option linter.unusedVariables false
set_option linter.unusedSimpArgs false

set_option maxRecDepth 100000 in
set_option maxHeartbeats 6400000 in
theorem w_pieceEnd (s : ByteArray) (p : Nat) (w : World) (hp : p ≤ s.size) (hs : s.size ≤ 140737488355328) :
    Calls Tryz.prog 124 #[.string s, .int .i64 (p : Int)] w fun e w' => e = .returned (.int .i64 ((peW s.data.toList p : Nat) : Int)) ∧ w' = w := by
  have HB1 : Hid (∀ q u, q ≤ s.size → Calls Tryz.prog 83 #[.string s, .int .i64 (q : Int), .func (.func 153) #[] #[]] u fun e w' => e = .returned (.int .i64 ((bhP piB s.data.toList q : Nat) : Int)) ∧ w' = u) := fun q u hq => w_bhPiece s q u hq hs
  have HP : Hid (∀ q u, Calls Tryz.prog 127 #[.string (s.extract q s.size), .string ⟨#[92, 40]⟩] u fun e w' => e = .returned (.bool (inwB s.data.toList q)) ∧ w' = u) := fun q u => by
    have := Tryz.strings_HasPrefix (s.extract q s.size) ⟨#[92, 40]⟩ u
    rw [extract_drop] at this
    exact this
  obtain ⟨l, hl⟩ : ∃ l, l = s.data.toList := ⟨_, rfl⟩
  have HL : Hid (l.length = s.size) := by show _ = _; rw [hl]; exact size_lst s
  have HG : Hid (∀ q (h : q < s.size), l.getD q 0 = s[q]) := fun q h => by rw [hl]; exact getD_byte h
  rw [← hl] at HB1 HP ⊢
  clear hl
  have HGE : Hid (∀ (P : UInt8 → Bool) q, q ≤ s.size → bhP P l q ≤ s.size) := fun P q hq => by rw [← HL.out]; exact (bhP_ge P (by rw [HL.out]; exact hq)).2
  obtain ⟨q0, hq0⟩ : ∃ q0, bhP piB l p = q0 := ⟨_, rfl⟩
  have HI : Hid (peW l p = peF l (l.length + 1) q0) := by show _ = _; unfold peW; rw [hq0]
  have HC := Hid.mk (fun u => HB1.out p u hp)
  rw [hq0] at HC
  have hq0s : q0 ≤ s.size := by rw [← hq0]; exact HGE.out _ p hp
  clear hq0
  go_enter Tryz.func124, Tryz.ntmps124
  go_wp2_with fail
  refine (HC.out _).mono ?_
  rintro e w1 ⟨rfl, hw1⟩
  obtain rfl := hw1.symm
  go_wp2_with fail
  go_loopw [1] (fun a wr => ∃ q : Nat, q ≤ s.size ∧ a = .int .i64 (q : Int) ∧ Hid (peW l p = peF l (l.length + 1) q) ∧ wr = w) (fun a _ => s.size - (intOf a).toNat)
  case atStart => exact ⟨q0, hq0s, rfl, HI.out, rfl⟩
  case round =>
    obtain ⟨q, hq, rfl, HQ, rfl⟩ := hrel
    clear HI HC hq0s
    by_cases hlt : q < s.size
    · have hi1 : (q : Int) < (s.size : Int) := by omega
      have hi0 : (0 : Int) ≤ (q : Int) := by omega
      have hi2 : (q : Int) ≤ (s.size : Int) := by omega
      have hd := HG.out q hlt
      by_cases h92 : s[q].toNat = 92
      · have h92i : ((s[q].toNat : Nat) : Int) = 92 := by omega
        have HPq := Hid.mk (fun u => HP.out q u)
        cases hw : inwB l q with
        | true =>
          have HST := Hid.mk (HQ.out.trans (peF_rest (fun h => by have h2 := h.2.2; rw [hw] at h2; exact absurd h2 (by decide))))
          rw [hw] at HPq
          clear hd h92 hw
          go_wp2_with fail
          refine (HPq.out _).mono ?_
          rintro e w1 ⟨rfl, hw1⟩
          obtain rfl := hw1.symm
          go_wp2_with fail
          go_ret
          exact ⟨by rw [HST.out]; first | done | rfl, rfl⟩
        | false =>
          have hcd : peC l q := ⟨by rw [HL.out]; exact hlt, by rw [hd]; exact h92, hw⟩
          have hgt := (pe_gt hcd).1
          have HST := Hid.mk (HQ.out.trans (peF_esc hcd))
          rw [hw] at HPq
          obtain ⟨m, hm⟩ : ∃ m, min (q + 2) l.length = m := ⟨_, rfl⟩
          rw [hm] at HST hgt
          rw [HL.out] at hm
          have hms : m ≤ s.size := by omega
          have HR1 := Hid.mk (fun u => HB1.out m u hms)
          have hrs := HGE.out piB m hms
          obtain ⟨r, hr⟩ : ∃ r, bhP piB l m = r := ⟨_, rfl⟩
          rw [hr] at HST HR1 hrs hgt
          have HM : Hid ((m : Int) = min ((q : Int) + 2) (s.size : Int)) := by show _ = _; omega
          rw [HM.out] at HR1
          clear hd h92 hw hr hcd hm HM
          go_wp2_with fail
          refine (HPq.out _).mono ?_
          rintro e w1 ⟨rfl, hw1⟩
          obtain rfl := hw1.symm
          go_wp2_with fail
          refine (HR1.out _).mono ?_
          rintro e w1 ⟨rfl, hw1⟩
          obtain rfl := hw1.symm
          go_wp2_with fail
          go_roundw
          case rel => exact ⟨r, hrs, by first | rfl | go_num, HST, by first | rfl | trivial⟩
          case measure => simp [intOf]; omega
      · have HST := Hid.mk (HQ.out.trans (peF_rest (fun h => h92 (by rw [← hd]; exact h.2.1))))
        have h92i : ¬ ((s[q].toNat : Nat) : Int) = 92 := by omega
        clear hd h92
        go_wp2_with fail
        go_ret
        exact ⟨by rw [HST.out]; first | done | rfl, rfl⟩
    · have hi1 : ¬ (q : Int) < (s.size : Int) := by omega
      have HST := Hid.mk (HQ.out.trans (peF_rest (fun h => hlt (by have := h.1; rw [HL.out] at this; exact this))))
      go_wp2_with fail
      go_ret
      exact ⟨by rw [HST.out]; first | done | rfl, rfl⟩
end Go.Proofs.YtdmkfdaddacdhaaGreatDoor
