import Derived.Test.YtdehejadiofomaaGreatDoorM28
import Derived.Test.YtdehejadiofomaaGreatDoorM34
import Derived.Test.YtdehejadiofomaaGreatDoorM35
import Derived.Test.YtdehejadiofomaaGreatDoorM19
namespace Go.Proofs.YtdehejadiofomaaGreatDoor
open Go.RowKit
set_option linter.unusedVariables false
set_option linter.unusedSimpArgs false

set_option maxRecDepth 100000 in
set_option maxHeartbeats 3200000 in
theorem w_rwordEnd (s : ByteArray) (p : Nat) (w : World) (hp : p ≤ s.size) (hs : s.size ≤ 1099511627776) :
    Calls Tryz.prog 66 #[.string s, .int .i64 (p : Int)] w fun e w' => e = .returned (.int .i64 ((behL s.data.toList p cWd : Nat) : Int)) ∧ w' = w := by
  obtain ⟨l, hl⟩ : ∃ l, l = s.data.toList := ⟨_, rfl⟩
  have HL : Hid (l.length = s.size) := by show _ = _; rw [hl]; exact size_lst s
  have HG : Hid (∀ q (h : q < s.size), l.getD q 0 = s[q]) := fun q h => by rw [hl]; exact getD_byte h
  rw [← hl]
  clear hl
  go_enter Tryz.func66, Tryz.ntmps66
  go_wp2_with fail
  go_loopw [1] (fun a wr => ∃ q : Nat, q ≤ s.size ∧ a = .int .i64 (q : Int) ∧ Hid (behL l p cWd = behL l q cWd) ∧ wr = w) (fun a _ => s.size - (intOf a).toNat)
  case atStart => exact ⟨p, hp, rfl, rfl, rfl⟩
  case round =>
    obtain ⟨q, hq, rfl, HQ, rfl⟩ := hrel
    by_cases hlt : q < s.size
    · have hi1 : (q : Int) < (s.size : Int) := by omega
      have hi0 : (0 : Int) ≤ (q : Int) := by omega
      have hd := fun u => w_rdigit4 s[q] u
      have hle := fun u => w_rletter s[q] u
      have hw := wd_split s[q]
      have hst := beh_step (l := l) (p := q) (cs := cWd) (by rw [HL.out]; exact hlt)
      have hsp := beh_stop (l := l) (p := q) (cs := cWd) (by rw [HL.out]; exact hlt)
      rw [HG.out q hlt] at hst hsp
      have HST := Hid.mk hst
      have HSP := Hid.mk hsp
      clear hst hsp
      cases h1 : cLe.contains s[q] with
      | true =>
        rw [h1] at hle hw
        have HLE := Hid.mk hle
        have HWD := Hid.mk hw
        clear h1 hle hd hw
        go_wp2_with fail
        refine (HLE.out _).mono ?_
        rintro e w1 ⟨rfl, rfl⟩
        go_wp2_with fail
        go_roundw
        case rel => exact ⟨q + 1, by omega, by go_num, HQ.out.trans (HST.out (by rw [HWD.out]; rfl)), by first | rfl | trivial⟩
        case measure => simp [intOf]; omega
      | false =>
        rw [h1] at hle hw
        have HLE := Hid.mk hle
        clear h1 hle
        cases h2 : cDg.contains s[q] with
        | true =>
          rw [h2] at hd hw
          have HD := Hid.mk hd
          have HWD := Hid.mk hw
          clear h2 hd hw
          go_wp2_with fail
          refine (HLE.out _).mono ?_
          rintro e w1 ⟨rfl, rfl⟩
          go_wp2_with fail
          refine (HD.out _).mono ?_
          rintro e w1 ⟨rfl, rfl⟩
          go_wp2_with fail
          go_roundw
          case rel => exact ⟨q + 1, by omega, by go_num, HQ.out.trans (HST.out (by rw [HWD.out]; rfl)), by first | rfl | trivial⟩
          case measure => simp [intOf]; omega
        | false =>
          rw [h2] at hd hw
          have HD := Hid.mk hd
          have HWD := Hid.mk hw
          clear h2 hd hw
          go_wp2_with fail
          refine (HLE.out _).mono ?_
          rintro e w1 ⟨rfl, rfl⟩
          go_wp2_with fail
          refine (HD.out _).mono ?_
          rintro e w1 ⟨rfl, rfl⟩
          go_wp2_with fail
          go_ret
          exact ⟨by rw [HQ.out, HSP.out (by rw [HWD.out]; rfl)]; rfl, rfl⟩
    · have hi1 : ¬ (q : Int) < (s.size : Int) := by omega
      have HE : Hid (behL l q cWd = q) := by show _ = _; rw [beh_end (by rw [HL.out]; omega), HL.out]; omega
      go_wp2_with fail
      go_ret
      exact ⟨by rw [HQ.out, HE.out]; rfl, rfl⟩

end Go.Proofs.YtdehejadiofomaaGreatDoor
namespace Go.Proofs.YtdehejadiofomaaGreatDoor
open Go.RowKit
set_option linter.unusedVariables false
set_option linter.unusedSimpArgs false

set_option maxRecDepth 100000 in
set_option maxHeartbeats 1600000 in
theorem w_rnumeralEnd (s : ByteArray) (p : Nat) (w : World) (hp : p ≤ s.size) (hs : s.size ≤ 1099511627776) :
    Calls Tryz.prog 69 #[.string s, .int .i64 (p : Int)] w fun e w' => e = .returned (.int .i64 ((behL s.data.toList p cNm : Nat) : Int)) ∧ w' = w := by
  obtain ⟨l, hl⟩ : ∃ l, l = s.data.toList := ⟨_, rfl⟩
  have HL : Hid (l.length = s.size) := by show _ = _; rw [hl]; exact size_lst s
  have HG : Hid (∀ q (h : q < s.size), l.getD q 0 = s[q]) := fun q h => by rw [hl]; exact getD_byte h
  rw [← hl]
  clear hl
  go_enter Tryz.func69, Tryz.ntmps69
  go_wp2_with fail
  go_loopw [1] (fun a wr => ∃ q : Nat, q ≤ s.size ∧ a = .int .i64 (q : Int) ∧ Hid (behL l p cNm = behL l q cNm) ∧ wr = w) (fun a _ => s.size - (intOf a).toNat)
  case atStart => exact ⟨p, hp, rfl, rfl, rfl⟩
  case round =>
    obtain ⟨q, hq, rfl, HQ, rfl⟩ := hrel
    by_cases hlt : q < s.size
    · have hi1 : (q : Int) < (s.size : Int) := by omega
      have hi0 : (0 : Int) ≤ (q : Int) := by omega
      have hd := fun u => w_rdigit4 s[q] u
      have hle := fun u => w_rletter s[q] u
      have hw := nm_split s[q]
      have hst := beh_step (l := l) (p := q) (cs := cNm) (by rw [HL.out]; exact hlt)
      have hsp := beh_stop (l := l) (p := q) (cs := cNm) (by rw [HL.out]; exact hlt)
      rw [HG.out q hlt] at hst hsp
      have HST := Hid.mk hst
      have HSP := Hid.mk hsp
      clear hst hsp
      cases h1 : cLe.contains s[q] with
      | true =>
        rw [h1] at hle hw
        have HLE := Hid.mk hle
        have HWD := Hid.mk hw
        clear h1 hle hd hw
        go_wp2_with fail
        refine (HLE.out _).mono ?_
        rintro e w1 ⟨rfl, rfl⟩
        go_wp2_with fail
        go_roundw
        case rel => exact ⟨q + 1, by omega, by go_num, HQ.out.trans (HST.out (by rw [HWD.out]; rfl)), by first | rfl | trivial⟩
        case measure => simp [intOf]; omega
      | false =>
        rw [h1] at hle hw
        have HLE := Hid.mk hle
        clear h1 hle
        cases h2 : cDg.contains s[q] with
        | true =>
          rw [h2] at hd hw
          have HD := Hid.mk hd
          have HWD := Hid.mk hw
          clear h2 hd hw
          go_wp2_with fail
          refine (HLE.out _).mono ?_
          rintro e w1 ⟨rfl, rfl⟩
          go_wp2_with fail
          refine (HD.out _).mono ?_
          rintro e w1 ⟨rfl, rfl⟩
          go_wp2_with fail
          go_roundw
          case rel => exact ⟨q + 1, by omega, by go_num, HQ.out.trans (HST.out (by rw [HWD.out]; rfl)), by first | rfl | trivial⟩
          case measure => simp [intOf]; omega
        | false =>
          rw [h2] at hd hw
          have HD := Hid.mk hd
          clear h2 hd
          rw [Bool.false_or, Bool.false_or] at hw
          by_cases g1 : ((s[q].toNat : Nat) : Int) = 43
          · have HWD : Hid (cNm.contains s[q] = true) := by show _ = _; rw [hw, show s[q].toNat = 43 by omega]; rfl
            clear hw
            rw [g1] at HLE HD
            go_wp2_with fail
            refine (HLE.out _).mono ?_
            rintro e w1 ⟨rfl, rfl⟩
            go_wp2_with fail
            refine (HD.out _).mono ?_
            rintro e w1 ⟨rfl, rfl⟩
            go_wp2_with fail
            go_roundw
            case rel => exact ⟨q + 1, by omega, by go_num, HQ.out.trans (HST.out HWD.out), by first | rfl | trivial⟩
            case measure => simp [intOf]; omega
          by_cases g2 : ((s[q].toNat : Nat) : Int) = 45
          · have HWD : Hid (cNm.contains s[q] = true) := by show _ = _; rw [hw, show s[q].toNat = 45 by omega]; rfl
            clear hw
            rw [g2] at HLE HD
            go_wp2_with fail
            refine (HLE.out _).mono ?_
            rintro e w1 ⟨rfl, rfl⟩
            go_wp2_with fail
            refine (HD.out _).mono ?_
            rintro e w1 ⟨rfl, rfl⟩
            go_wp2_with fail
            go_roundw
            case rel => exact ⟨q + 1, by omega, by go_num, HQ.out.trans (HST.out HWD.out), by first | rfl | trivial⟩
            case measure => simp [intOf]; omega
          by_cases g3 : ((s[q].toNat : Nat) : Int) = 46
          · have HWD : Hid (cNm.contains s[q] = true) := by show _ = _; rw [hw, show s[q].toNat = 46 by omega]; rfl
            clear hw
            rw [g3] at HLE HD
            go_wp2_with fail
            refine (HLE.out _).mono ?_
            rintro e w1 ⟨rfl, rfl⟩
            go_wp2_with fail
            refine (HD.out _).mono ?_
            rintro e w1 ⟨rfl, rfl⟩
            go_wp2_with fail
            go_roundw
            case rel => exact ⟨q + 1, by omega, by go_num, HQ.out.trans (HST.out HWD.out), by first | rfl | trivial⟩
            case measure => simp [intOf]; omega
          · have HWD : Hid (cNm.contains s[q] = false) := by
              show _ = _
              rw [hw, decide_eq_false (by omega), decide_eq_false (by omega), decide_eq_false (by omega)]; rfl
            clear hw
            have g3b : (((s[q].toNat : Nat) : Int) == 46) = false := by rw [beq_eq_false_iff_ne]; exact g3
            go_wp2_with fail
            refine (HLE.out _).mono ?_
            rintro e w1 ⟨rfl, rfl⟩
            go_wp2_with fail
            refine (HD.out _).mono ?_
            rintro e w1 ⟨rfl, rfl⟩
            go_wp2_with fail
            · rename_i hh
              have h3 : ((s[q].toNat : Nat) : Int) = 43 ∨ ((s[q].toNat : Nat) : Int) = 45 := by simpa using hh
              omega
            · go_ret
              exact ⟨by rw [HQ.out, HSP.out HWD.out]; rfl, rfl⟩
    · have hi1 : ¬ (q : Int) < (s.size : Int) := by omega
      have HE : Hid (behL l q cNm = q) := by show _ = _; rw [beh_end (by rw [HL.out]; omega), HL.out]; omega
      go_wp2_with fail
      go_ret
      exact ⟨by rw [HQ.out, HE.out]; rfl, rfl⟩
end Go.Proofs.YtdehejadiofomaaGreatDoor
namespace Go.Proofs.YtdehejadiofomaaGreatDoor
open Go.RowKit
set_option linter.unusedVariables false
set_option linter.unusedSimpArgs false

/-- what the reference's Next answers -/
def NxR (t : Tok) (w w' : World) (e : Ending) : Prop := ((t.err = 0 ∧ e = .returned (.tuple #[tokV t, .int .i64 0, .int .i64 0])) ∨ (t.err ≠ 0 ∧ e = .returned (.tuple #[.agg #[.int .i64 0, .int .i64 0, .int .i64 0, .string ⟨#[]⟩], .int .i64 (t.err : Int), .int .i64 (t.at_ : Int)]))) ∧ Below w.heap.size w w'

set_option maxRecDepth 100000 in
set_option maxHeartbeats 1600000 in
theorem w_rNext_mark (s : ByteArray) (p : Nat) (w : World) (hp : p < s.size) (hs : s.size ≤ 1048576) (hc : cMk.contains s[p] = true) :
    Calls Tryz.prog 33 #[.string s, .int .i64 (p : Int)] w fun e w' => NxR (nextT s.data.toList p) w w' e := by
  have hn : nextT s.data.toList p = ⟨mkN s[p], p, p + 1, [], 0⟩ := by
    unfold nextT mkN
    rw [getD_byte hp, if_pos hc, if_pos hc]
  rw [hn]
  have hk := (mk_pos s[p]).2 hc
  have HM := Hid.mk (fun u => w_rmark s[p] u)
  clear hn hc
  have hi1 : (p : Int) < (s.size : Int) := by omega
  have hi0 : (0 : Int) ≤ (p : Int) := by omega
  generalize mkN s[p] = k at *
  have hk1 : (0 : Int) < (k : Int) := by omega
  have e1 : ((p + 1 : Nat) : Int) = (p : Int) + 1 := by omega
  clear e1
  have HB := Hid.mk (below1 w (.cells #[.int .i64 (k : Int), .int .i64 (p : Int), .int .i64 ((p : Int) + 1), .string ⟨#[]⟩] 52))
  go_enter Tryz.func33, Tryz.ntmps33
  go_wp2_with fail
  refine (HM.out _).mono ?_
  rintro e w1 ⟨rfl, rfl⟩
  go_wp2_with fail
  refine (HM.out _).mono ?_
  rintro e w1 ⟨rfl, rfl⟩
  go_wp2_with fail
  (try simp only [Exit.inBlock, Exit.then])
  refine bodyPost_ret (v := .tuple #[.agg #[.int .i64 (k : Int), .int .i64 (p : Int), .int .i64 ((p : Int) + 1), .string ⟨#[]⟩], .int .i64 0, .int .i64 0]) (by simp [results, Tryz.results33, go_sem]) rfl ?_
  exact ⟨.inl ⟨rfl, rfl⟩, HB.out⟩

set_option maxRecDepth 100000 in
set_option maxHeartbeats 1600000 in
theorem w_rNext_lit (s : ByteArray) (p : Nat) (w : World) (hp : p < s.size) (hs : s.size ≤ 1048576) (hc : cMk.contains s[p] = false) (hq : s[p] = 34) :
    Calls Tryz.prog 33 #[.string s, .int .i64 (p : Int)] w fun e w' => NxR (nextT s.data.toList p) w w' e := by
  have hn : nextT s.data.toList p = litT s.data.toList p := by
    unfold nextT
    rw [getD_byte hp, if_neg (by rw [hc]; decide), if_pos hq]
  rw [hn]
  have hm0 : mkN s[p] = 0 := by unfold mkN; rw [if_neg (by rw [hc]; decide)]
  have hm := fun u => w_rmark s[p] u
  rw [hm0] at hm
  have HM := Hid.mk hm
  have HU := Hid.mk (fun u => w_rUnquote s p u hp hs hq)
  have hx : ((s[p].toNat : Nat) : Int) = 34 := by rw [hq]; rfl
  rw [hx] at HM
  clear hn hc hm hm0 hq
  have hi1 : (p : Int) < (s.size : Int) := by omega
  have hi0 : (0 : Int) ≤ (p : Int) := by omega
  unfold litT
  obtain ⟨R, hR⟩ : ∃ R, unqL s.data.toList (p + 1) [] = R := ⟨_, rfl⟩
  rw [hR] at HU ⊢
  obtain ⟨A, q, c⟩ := R
  clear hR
  unfold UnqX at HU
  dsimp only at HU ⊢
  generalize txt A = T at *
  by_cases h0 : c = 0
  · subst h0
    rw [if_pos rfl]
    go_enter Tryz.func33, Tryz.ntmps33
    go_wp2_with fail
    refine (HM.out _).mono ?_
    rintro e w1 ⟨rfl, rfl⟩
    go_wp2_with fail
    refine (HU.out _).mono ?_
    rintro e w1 ⟨rfl, hb1⟩
    have hbx := tbox1 hb1
    have HB1 := Hid.mk hbx.2
    obtain ⟨hc0, hc1, hc2, hc3, hf0, hf1, hf2, hf3⟩ := tbox_cells hbx.1
    have HX := Hid.mk hbx.1
    clear hb1 hbx
    go_wp2_with fail
    (try simp only [Exit.inBlock, Exit.then])
    generalize hz : ((((w1).setCell ⟨w.heap.size, 0, none⟩ (.int .i64 11)).setCell ⟨w.heap.size, 1, none⟩ (.int .i64 (p : Int))).setCell ⟨w.heap.size, 2, none⟩ (.int .i64 (q : Int))).setCell ⟨w.heap.size, 3, none⟩ (.string ⟨T.toArray⟩) = wz
    obtain ⟨z1, z2, z3, z4⟩ := box_set4 _ _ _ _ _ _ _ _ _ _ _ HX.out wz hz.symm
    obtain ⟨hd0, hd1, hd2, hd3, _⟩ := tbox_cells z1
    refine bodyPost_ret (v := .tuple #[.agg #[.int .i64 11, .int .i64 (p : Int), .int .i64 (q : Int), (.string ⟨T.toArray⟩)], .int .i64 0, .int .i64 0]) (by simp [results, Tryz.results33, go_sem, hd0, hd1, hd2, hd3]) rfl ?_
    exact ⟨.inl ⟨rfl, rfl⟩, HB1.out.trans (z4 _ (Nat.le_refl _))⟩
  · rw [if_neg h0]
    have hb : (((c : Nat) : Int) == 0) = false := by rw [beq_eq_false_iff_ne]; omega
    have HC := Hid.mk h0
    clear h0
    go_enter Tryz.func33, Tryz.ntmps33
    go_wp2_with fail
    refine (HM.out _).mono ?_
    rintro e w1 ⟨rfl, rfl⟩
    go_wp2_with fail
    refine (HU.out _).mono ?_
    rintro e w1 ⟨rfl, hb1⟩
    have hbx := tbox1 hb1
    have HB1 := Hid.mk hbx.2
    obtain ⟨hc0, hc1, hc2, hc3, hf0, hf1, hf2, hf3⟩ := tbox_cells hbx.1
    have HX := Hid.mk hbx.1
    clear hb1 hbx
    go_wp2_with fail
    (try simp only [Exit.inBlock, Exit.then])
    generalize hz : ((((w1).setCell ⟨w.heap.size, 0, none⟩ (.int .i64 0)).setCell ⟨w.heap.size, 1, none⟩ (.int .i64 0)).setCell ⟨w.heap.size, 2, none⟩ (.int .i64 0)).setCell ⟨w.heap.size, 3, none⟩ (.string ⟨#[]⟩) = wz
    obtain ⟨z1, z2, z3, z4⟩ := box_set4 _ _ _ _ _ _ _ _ _ _ _ HX.out wz hz.symm
    obtain ⟨hd0, hd1, hd2, hd3, _⟩ := tbox_cells z1
    refine bodyPost_ret (v := .tuple #[.agg #[.int .i64 0, .int .i64 0, .int .i64 0, .string ⟨#[]⟩], .int .i64 (c : Int), .int .i64 (q : Int)]) (by simp [results, Tryz.results33, go_sem, hd0, hd1, hd2, hd3]) rfl ?_
    exact ⟨.inr ⟨HC.out, rfl⟩, HB1.out.trans (z4 _ (Nat.le_refl _))⟩

set_option maxRecDepth 100000 in
set_option maxHeartbeats 1600000 in
theorem w_rNext_word (s : ByteArray) (p : Nat) (w : World) (hp : p < s.size) (hs : s.size ≤ 1048576) (hc : cMk.contains s[p] = false) (hq : ¬ s[p] = 34) (hl : cLe.contains s[p] = true) :
    Calls Tryz.prog 33 #[.string s, .int .i64 (p : Int)] w fun e w' => NxR (nextT s.data.toList p) w w' e := by
  have hn : nextT s.data.toList p = wordT s.data.toList p := by
    unfold nextT
    rw [getD_byte hp, if_neg (by rw [hc]; decide), if_neg hq, if_pos hl]
  rw [hn]
  have hm0 : mkN s[p] = 0 := by unfold mkN; rw [if_neg (by rw [hc]; decide)]
  have hm := fun u => w_rmark s[p] u
  rw [hm0] at hm
  have HM := Hid.mk hm
  have hle := fun u => w_rletter s[p] u
  rw [hl] at hle
  have HLE := Hid.mk hle
  have HWE := Hid.mk (fun u => w_rwordEnd s p u (by omega) (by omega))
  have hx : ¬ ((s[p].toNat : Nat) : Int) = 34 := fun h => hq (by apply UInt8.toNat_inj.1; show _ = 34; omega)
  have hbe := behL_ge (l := s.data.toList) (p := p) cWd (by rw [size_lst]; omega)
  have hi1 : (p : Int) < (s.size : Int) := by omega
  have hi0 : (0 : Int) ≤ (p : Int) := by omega
  have ht : wordT s.data.toList p = if wdN (cut s.data.toList p (behL s.data.toList p cWd)) = 0 then ⟨0, p, 0, [], 41⟩ else ⟨wdN (cut s.data.toList p (behL s.data.toList p cWd)), p, behL s.data.toList p cWd, [], 0⟩ := by
    unfold wordT wdN
    repeat' split
    all_goals first | rfl | contradiction | (rename_i h _ ; cases h)
  rw [ht]
  clear hn hc hm hm0 hq hl hle ht
  generalize behL s.data.toList p cWd = q at *
  rw [size_lst] at hbe
  obtain ⟨hpq, hqs⟩ := hbe
  have HW := Hid.mk (fun u => w_rword (s.extract p q) u)
  rw [ext_eq] at HW
  have HW2 : Hid (∀ u, Calls Tryz.prog 67 #[.string (s.extract p q)] u fun e w' => e = .returned (.int .i64 ((wdN (cut s.data.toList p q) : Nat) : Int)) ∧ w' = u) := fun u => by rw [ext_eq]; exact HW.out u
  clear HW
  generalize wdN (cut s.data.toList p q) = k at *
  have h1 : (p : Int) ≤ (q : Int) := by omega
  have h2 : (q : Int) ≤ (s.size : Int) := by omega
  by_cases hk : k = 0
  · subst hk
    rw [if_pos rfl]
    have HB := Hid.mk (below1 w (.cells #[.int .i64 0, .int .i64 0, .int .i64 0, .string ⟨#[]⟩] 52))
    go_enter Tryz.func33, Tryz.ntmps33
    go_wp2_with fail
    refine (HM.out _).mono ?_
    rintro e w1 ⟨rfl, rfl⟩
    go_wp2_with fail
    refine (HLE.out _).mono ?_
    rintro e w1 ⟨rfl, rfl⟩
    go_wp2_with fail
    refine (HWE.out _).mono ?_
    rintro e w1 ⟨rfl, rfl⟩
    go_wp2_with fail
    refine (HW2.out _).mono ?_
    rintro e w1 ⟨rfl, rfl⟩
    go_wp2_with fail
    (try simp only [Exit.inBlock, Exit.then])
    refine bodyPost_ret (v := .tuple #[.agg #[.int .i64 0, .int .i64 0, .int .i64 0, .string ⟨#[]⟩], .int .i64 41, .int .i64 (p : Int)]) (by simp [results, Tryz.results33, go_sem]) rfl ?_
    exact ⟨.inr ⟨(by show (41 : Nat) ≠ 0; decide), rfl⟩, HB.out⟩
  · rw [if_neg hk]
    have hkb : (((k : Nat) : Int) == 0) = false := by rw [beq_eq_false_iff_ne]; omega
    clear hk
    have HB := Hid.mk (below1 w (.cells #[.int .i64 (k : Int), .int .i64 (p : Int), .int .i64 (q : Int), .string ⟨#[]⟩] 52))
    go_enter Tryz.func33, Tryz.ntmps33
    go_wp2_with fail
    refine (HM.out _).mono ?_
    rintro e w1 ⟨rfl, rfl⟩
    go_wp2_with fail
    refine (HLE.out _).mono ?_
    rintro e w1 ⟨rfl, rfl⟩
    go_wp2_with fail
    refine (HWE.out _).mono ?_
    rintro e w1 ⟨rfl, rfl⟩
    go_wp2_with fail
    refine (HW2.out _).mono ?_
    rintro e w1 ⟨rfl, rfl⟩
    go_wp2_with fail
    (try simp only [Exit.inBlock, Exit.then])
    refine bodyPost_ret (v := .tuple #[.agg #[.int .i64 (k : Int), .int .i64 (p : Int), .int .i64 (q : Int), .string ⟨#[]⟩], .int .i64 0, .int .i64 0]) (by simp [results, Tryz.results33, go_sem]) rfl ?_
    exact ⟨.inl ⟨rfl, rfl⟩, HB.out⟩
end Go.Proofs.YtdehejadiofomaaGreatDoor
namespace Go.Proofs.YtdehejadiofomaaGreatDoor
open Go.RowKit
set_option linter.unusedVariables false
set_option linter.unusedSimpArgs false

set_option maxRecDepth 100000 in
set_option maxHeartbeats 1600000 in
theorem w_rNext_byte (s : ByteArray) (p : Nat) (w : World) (hp : p < s.size) (hs : s.size ≤ 1048576) (hc : cMk.contains s[p] = false) (hq : ¬ s[p] = 34) (hl : cLe.contains s[p] = false) (hd : cDm.contains s[p] = false) :
    Calls Tryz.prog 33 #[.string s, .int .i64 (p : Int)] w fun e w' => NxR (nextT s.data.toList p) w w' e := by
  have hn : nextT s.data.toList p = ⟨0, p, 0, [], 40⟩ := by
    unfold nextT
    rw [getD_byte hp, if_neg (by rw [hc]; decide), if_neg hq, if_neg (by rw [hl]; decide), if_neg (by rw [hd]; decide)]
  rw [hn]
  have hm0 : mkN s[p] = 0 := by unfold mkN; rw [if_neg (by rw [hc]; decide)]
  have hm := fun u => w_rmark s[p] u
  rw [hm0] at hm
  have HM := Hid.mk hm
  have hle := fun u => w_rletter s[p] u
  rw [hl] at hle
  have HLE := Hid.mk hle
  have hds := dm_split s[p]
  rw [hd] at hds
  have hd1 : cDg.contains s[p] = false := by cases h : cDg.contains s[p] with | false => rfl | true => rw [h] at hds; cases hds
  have hd2 : ¬ ((s[p].toNat : Nat) : Int) = 45 := fun h => by rw [hd1, decide_eq_true (by omega)] at hds; cases hds
  have hdg := fun u => w_rdigit4 s[p] u
  rw [hd1] at hdg
  have HD := Hid.mk hdg
  have hx : ¬ ((s[p].toNat : Nat) : Int) = 34 := fun h => hq (by apply UInt8.toNat_inj.1; show _ = 34; omega)
  have hi1 : (p : Int) < (s.size : Int) := by omega
  have hi0 : (0 : Int) ≤ (p : Int) := by omega
  clear hn hc hm hm0 hq hl hle hdg hds hd1 hd
  have HB := Hid.mk (below1 w (.cells #[.int .i64 0, .int .i64 0, .int .i64 0, .string ⟨#[]⟩] 52))
  go_enter Tryz.func33, Tryz.ntmps33
  go_wp2_with fail
  refine (HM.out _).mono ?_
  rintro e w1 ⟨rfl, rfl⟩
  go_wp2_with fail
  refine (HLE.out _).mono ?_
  rintro e w1 ⟨rfl, rfl⟩
  go_wp2_with fail
  refine (HD.out _).mono ?_
  rintro e w1 ⟨rfl, rfl⟩
  go_wp2_with fail
  (try simp only [Exit.inBlock, Exit.then])
  refine bodyPost_ret (v := .tuple #[.agg #[.int .i64 0, .int .i64 0, .int .i64 0, .string ⟨#[]⟩], .int .i64 40, .int .i64 (p : Int)]) (by simp [results, Tryz.results33, go_sem]) rfl ?_
  exact ⟨.inr ⟨(by show (40 : Nat) ≠ 0; decide), rfl⟩, HB.out⟩

set_option maxRecDepth 100000 in
set_option maxHeartbeats 6400000 in
theorem w_rNext_num (s : ByteArray) (p : Nat) (w : World) (hp : p < s.size) (hs : s.size ≤ 1048576) (hc : cMk.contains s[p] = false) (hq : ¬ s[p] = 34) (hl : cLe.contains s[p] = false) (hd : cDm.contains s[p] = true) :
    Calls Tryz.prog 33 #[.string s, .int .i64 (p : Int)] w fun e w' => NxR (nextT s.data.toList p) w w' e := by
  have hn : nextT s.data.toList p = numeralT s.data.toList p := by
    unfold nextT
    rw [getD_byte hp, if_neg (by rw [hc]; decide), if_neg hq, if_neg (by rw [hl]; decide), if_pos hd]
  rw [hn]
  have hm0 : mkN s[p] = 0 := by unfold mkN; rw [if_neg (by rw [hc]; decide)]
  have hm := fun u => w_rmark s[p] u
  rw [hm0] at hm
  have HM := Hid.mk hm
  have hle := fun u => w_rletter s[p] u
  rw [hl] at hle
  have HLE := Hid.mk hle
  have hds := dm_split s[p]
  rw [hd] at hds
  have hdg := fun u => w_rdigit4 s[p] u
  have HNE := Hid.mk (fun u => w_rnumeralEnd s p u (by omega) (by omega))
  have hx : ¬ ((s[p].toNat : Nat) : Int) = 34 := fun h => hq (by apply UInt8.toNat_inj.1; show _ = 34; omega)
  have hbe := behL_ge (l := s.data.toList) (p := p) cNm (by rw [size_lst]; omega)
  have hi1 : (p : Int) < (s.size : Int) := by omega
  have hi0 : (0 : Int) ≤ (p : Int) := by omega
  unfold numeralT
  clear hn hc hm hm0 hq hl hle hd
  generalize behL s.data.toList p cNm = q at *
  rw [size_lst] at hbe
  obtain ⟨hpq, hqs⟩ := hbe
  have hcl : (cut s.data.toList p q).length ≤ s.size := by rw [cut_size hpq hqs]; omega
  have hX := extract_lst s p q hqs
  have hXs : (s.extract p q).size ≤ maxLen := by unfold maxLen; rw [← size_lst, hX]; omega
  rw [← hX]
  clear hX hcl
  have h1 : (p : Int) ≤ (q : Int) := by omega
  have h2 : (q : Int) ≤ (s.size : Int) := by omega
  have hdd : Hid (∃ b : Bool, (∀ u, Calls Tryz.prog 68 #[.int .u8 ((s[p].toNat : Nat) : Int)] u fun e w' => e = .returned (.bool b) ∧ w' = u) ∧ (b = false → ((s[p].toNat : Nat) : Int) = 45)) := ⟨_, hdg, fun h => by
    rw [h, Bool.false_or] at hds
    have := of_decide_eq_true hds.symm
    omega⟩
  clear hdg hds
  obtain ⟨b, hdg, h45⟩ := hdd.out
  have HD := Hid.mk hdg
  have HZ := Hid.mk (fun u => w_rFormed ⟨#[48]⟩ u (by decide))
  have hfo0 : Pl.formed (ByteArray.mk #[48]).data.toList = true := by decide
  rw [hfo0] at HZ
  have HF := Hid.mk (fun u => w_rFormed (s.extract p q) u hXs)
  have HB0 := Hid.mk (below1 w (.cells #[.int .i64 0, .int .i64 0, .int .i64 0, .string ⟨#[]⟩] 52))
  have HB1 := Hid.mk (fun t : ByteArray => below1 w (.cells #[.int .i64 10, .int .i64 (p : Int), .int .i64 (q : Int), .string t] 52))
  have HG : Hid (∀ (z : Bool) (v : Value), True) := fun _ _ => trivial
  clear hdd hdg hXs hfo0 HG
  by_cases hz : (s.extract p q).data.toList = [45, 48]
  · have hzb : ((s.extract p q).toList == [45, 48]) = true := by rw [Lib.toList_data, hz]; rfl
    have e3 : numT (s.extract p q).data.toList = [48] := by unfold numT; rw [if_pos hz]
    rw [e3, if_pos (by decide)]
    clear hz e3
    cases b with
    | true =>
      clear h45
      go_enter Tryz.func33, Tryz.ntmps33
      go_wp2_with fail
      refine (HM.out _).mono ?_
      rintro e w1 ⟨rfl, rfl⟩
      go_wp2_with fail
      refine (HLE.out _).mono ?_
      rintro e w1 ⟨rfl, rfl⟩
      go_wp2_with fail
      refine (HD.out _).mono ?_
      rintro e w1 ⟨rfl, rfl⟩
      go_wp2_with fail
      refine (HNE.out _).mono ?_
      rintro e w1 ⟨rfl, rfl⟩
      go_wp2_with fail
      refine (HZ.out _).mono ?_
      rintro e w1 ⟨rfl, rfl⟩
      go_wp2_with fail
      (try simp only [Exit.inBlock, Exit.then])
      refine bodyPost_ret (v := .tuple #[.agg #[.int .i64 10, .int .i64 (p : Int), .int .i64 (q : Int), .string ⟨#[48]⟩], .int .i64 0, .int .i64 0]) (by simp [results, Tryz.results33, go_sem]) rfl ?_
      exact ⟨.inl ⟨rfl, rfl⟩, HB1.out _⟩
    | false =>
      have g45 := h45 rfl
      rw [g45] at HM HLE HD
      clear h45
      go_enter Tryz.func33, Tryz.ntmps33
      go_wp2_with fail
      refine (HM.out _).mono ?_
      rintro e w1 ⟨rfl, rfl⟩
      go_wp2_with fail
      refine (HLE.out _).mono ?_
      rintro e w1 ⟨rfl, rfl⟩
      go_wp2_with fail
      refine (HD.out _).mono ?_
      rintro e w1 ⟨rfl, rfl⟩
      go_wp2_with fail
      refine (HNE.out _).mono ?_
      rintro e w1 ⟨rfl, rfl⟩
      go_wp2_with fail
      refine (HZ.out _).mono ?_
      rintro e w1 ⟨rfl, rfl⟩
      go_wp2_with fail
      (try simp only [Exit.inBlock, Exit.then])
      refine bodyPost_ret (v := .tuple #[.agg #[.int .i64 10, .int .i64 (p : Int), .int .i64 (q : Int), .string ⟨#[48]⟩], .int .i64 0, .int .i64 0]) (by simp [results, Tryz.results33, go_sem]) rfl ?_
      exact ⟨.inl ⟨rfl, rfl⟩, HB1.out _⟩
  · have hzb : ((s.extract p q).toList == [45, 48]) = false := by rw [Lib.toList_data, beq_eq_false_iff_ne]; exact hz
    have e3 : numT (s.extract p q).data.toList = (s.extract p q).data.toList := by unfold numT; rw [if_neg hz]
    rw [e3]
    clear hz e3
    have e4 : (⟨(s.extract p q).data.toList.toArray⟩ : ByteArray) = s.extract p q := rfl
    cases hfo : Pl.formed (s.extract p q).data.toList with
    | true =>
      rw [hfo] at HF
      rw [if_pos rfl]
      clear hfo e4 HZ
      cases b with
      | true =>
        clear h45
        go_enter Tryz.func33, Tryz.ntmps33
        go_wp2_with fail
        refine (HM.out _).mono ?_
        rintro e w1 ⟨rfl, rfl⟩
        go_wp2_with fail
        refine (HLE.out _).mono ?_
        rintro e w1 ⟨rfl, rfl⟩
        go_wp2_with fail
        refine (HD.out _).mono ?_
        rintro e w1 ⟨rfl, rfl⟩
        go_wp2_with fail
        refine (HNE.out _).mono ?_
        rintro e w1 ⟨rfl, rfl⟩
        go_wp2_with fail
        refine (HF.out _).mono ?_
        rintro e w1 ⟨rfl, rfl⟩
        go_wp2_with fail
        (try simp only [Exit.inBlock, Exit.then])
        refine bodyPost_ret (v := .tuple #[.agg #[.int .i64 10, .int .i64 (p : Int), .int .i64 (q : Int), .string (s.extract p q)], .int .i64 0, .int .i64 0]) (by simp [results, Tryz.results33, go_sem]) rfl ?_
        exact ⟨.inl ⟨rfl, rfl⟩, HB1.out _⟩
      | false =>
        have g45 := h45 rfl
        rw [g45] at HM HLE HD
        clear h45
        go_enter Tryz.func33, Tryz.ntmps33
        go_wp2_with fail
        refine (HM.out _).mono ?_
        rintro e w1 ⟨rfl, rfl⟩
        go_wp2_with fail
        refine (HLE.out _).mono ?_
        rintro e w1 ⟨rfl, rfl⟩
        go_wp2_with fail
        refine (HD.out _).mono ?_
        rintro e w1 ⟨rfl, rfl⟩
        go_wp2_with fail
        refine (HNE.out _).mono ?_
        rintro e w1 ⟨rfl, rfl⟩
        go_wp2_with fail
        refine (HF.out _).mono ?_
        rintro e w1 ⟨rfl, rfl⟩
        go_wp2_with fail
        (try simp only [Exit.inBlock, Exit.then])
        refine bodyPost_ret (v := .tuple #[.agg #[.int .i64 10, .int .i64 (p : Int), .int .i64 (q : Int), .string (s.extract p q)], .int .i64 0, .int .i64 0]) (by simp [results, Tryz.results33, go_sem]) rfl ?_
        exact ⟨.inl ⟨rfl, rfl⟩, HB1.out _⟩
    | false =>
      rw [hfo] at HF
      rw [if_neg (by decide)]
      clear hfo e4 HZ
      cases b with
      | true =>
        clear h45
        go_enter Tryz.func33, Tryz.ntmps33
        go_wp2_with fail
        refine (HM.out _).mono ?_
        rintro e w1 ⟨rfl, rfl⟩
        go_wp2_with fail
        refine (HLE.out _).mono ?_
        rintro e w1 ⟨rfl, rfl⟩
        go_wp2_with fail
        refine (HD.out _).mono ?_
        rintro e w1 ⟨rfl, rfl⟩
        go_wp2_with fail
        refine (HNE.out _).mono ?_
        rintro e w1 ⟨rfl, rfl⟩
        go_wp2_with fail
        refine (HF.out _).mono ?_
        rintro e w1 ⟨rfl, rfl⟩
        go_wp2_with fail
        (try simp only [Exit.inBlock, Exit.then])
        refine bodyPost_ret (v := .tuple #[.agg #[.int .i64 0, .int .i64 0, .int .i64 0, .string ⟨#[]⟩], .int .i64 42, .int .i64 (p : Int)]) (by simp [results, Tryz.results33, go_sem]) rfl ?_
        exact ⟨.inr ⟨(by show (42 : Nat) ≠ 0; decide), rfl⟩, HB0.out⟩
      | false =>
        have g45 := h45 rfl
        rw [g45] at HM HLE HD
        clear h45
        go_enter Tryz.func33, Tryz.ntmps33
        go_wp2_with fail
        refine (HM.out _).mono ?_
        rintro e w1 ⟨rfl, rfl⟩
        go_wp2_with fail
        refine (HLE.out _).mono ?_
        rintro e w1 ⟨rfl, rfl⟩
        go_wp2_with fail
        refine (HD.out _).mono ?_
        rintro e w1 ⟨rfl, rfl⟩
        go_wp2_with fail
        refine (HNE.out _).mono ?_
        rintro e w1 ⟨rfl, rfl⟩
        go_wp2_with fail
        refine (HF.out _).mono ?_
        rintro e w1 ⟨rfl, rfl⟩
        go_wp2_with fail
        (try simp only [Exit.inBlock, Exit.then])
        refine bodyPost_ret (v := .tuple #[.agg #[.int .i64 0, .int .i64 0, .int .i64 0, .string ⟨#[]⟩], .int .i64 42, .int .i64 (p : Int)]) (by simp [results, Tryz.results33, go_sem]) rfl ?_
        exact ⟨.inr ⟨(by show (42 : Nat) ≠ 0; decide), rfl⟩, HB0.out⟩

theorem w_rNext (s : ByteArray) (p : Nat) (w : World) (hp : p < s.size) (hs : s.size ≤ 1048576) :
    Calls Tryz.prog 33 #[.string s, .int .i64 (p : Int)] w fun e w' => NxR (nextT s.data.toList p) w w' e := by
  cases hc : cMk.contains s[p] with
  | true => exact w_rNext_mark s p w hp hs hc
  | false =>
    by_cases hq : s[p] = 34
    · exact w_rNext_lit s p w hp hs hc hq
    · cases hl : cLe.contains s[p] with
      | true => exact w_rNext_word s p w hp hs hc hq hl
      | false =>
        cases hd : cDm.contains s[p] with
        | true => exact w_rNext_num s p w hp hs hc hq hl hd
        | false => exact w_rNext_byte s p w hp hs hc hq hl hd
end Go.Proofs.YtdehejadiofomaaGreatDoor
