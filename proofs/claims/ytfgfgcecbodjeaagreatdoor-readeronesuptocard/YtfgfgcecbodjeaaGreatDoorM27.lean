import Derived.Test.YtfgfgcecbodjeaaGreatDoorM26
import Derived.Test.YtfgfgcecbodjeaaGreatDoorM20
namespace Go.Proofs.YtfgfgcecbodjeaaGreatDoor
open Go.RowKit
set_option linter.unusedVariables false
set_option linter.unusedSimpArgs false

/-- are the digits of a numeral right, but for their being digits? -/
def rgtB (d : List UInt8) : Bool := match d with | [] => false | c :: r => !(decide (c.toNat = 48)) || decide (r.length = 0)
theorem rgt0 {d : ByteArray} (h : d.size = 0) : rgtB d.data.toList = false := by
  have := size_lst d
  rw [h] at this
  rw [List.eq_nil_of_length_eq_zero this]; rfl
theorem rgt_cons {d : ByteArray} (h : 0 < d.size) : rgtB d.data.toList = (!(decide (d[0].toNat = 48)) || decide (d.size = 1)) := by
  have := size_lst d
  rw [Pl.toList_cons d h] at this ⊢
  unfold rgtB
  dsimp only
  rw [List.length_cons] at this
  congr 1
  rw [decide_eq_decide]
  omega
theorem rgt1 {d : ByteArray} (h : d.size = 1) : rgtB d.data.toList = true := by rw [rgt_cons (by omega)]; simp [h]
theorem rgt2 {d : ByteArray} (h : 0 < d.size) (h0 : d[0].toNat = 48) (h1 : ¬ d.size = 1) : rgtB d.data.toList = false := by rw [rgt_cons h]; simp [h0, h1]
theorem rgt3 {d : ByteArray} (h : 0 < d.size) (h0 : ¬ d[0].toNat = 48) : rgtB d.data.toList = true := by rw [rgt_cons h]; simp [h0]
theorem body_48 {n : List UInt8} (h : Pl.body n = [48]) : n = [48] ∨ n = [45, 48] := by
  unfold Pl.body at h
  cases n with
  | nil => cases h
  | cons c r =>
    rw [Pl.neg_cons] at h
    split at h
    · next hc =>
      right
      rw [List.tail_cons] at h
      rw [h]
      have : c = 45 := by apply UInt8.toNat_inj.1; simpa using hc
      rw [this]
    · exact .inl h
theorem numT_48 {n : List UInt8} (h : Pl.body n = [48]) : numT n = [48] := by
  rcases body_48 h with rfl | rfl <;> decide
theorem numT_not {n : List UInt8} (h : ¬ Pl.body n = [48]) : numT n = n := by
  unfold numT
  rw [if_neg (fun e => h (by rw [e]; decide))]
theorem all_dig (d : List UInt8) : d.all Pl.isDig = d.all (cDg.contains ·) := by
  congr 1
  funext c
  rw [digit_tab]
  unfold Pl.isDig
  rw [Bool.decide_and]
theorem formed_numT (n : List UInt8) : Pl.formed (numT n) = (rgtB (Pl.body n) && (Pl.body n).all (cDg.contains ·)) := by
  by_cases hb : Pl.body n = [48]
  · rw [numT_48 hb, hb]; decide
  · rw [numT_not hb, Pl.formed_not n (fun e => hb (by rw [e]; decide)), ← all_dig]
    cases hd : Pl.body n with
    | nil => rfl
    | cons c r =>
      unfold Pl.plainB rgtB
      dsimp only
      by_cases hc : c.toNat = 48
      · by_cases hr : r.length = 0
        · exfalso
          apply hb
          rw [hd, List.eq_nil_of_length_eq_zero hr, show c = 48 from UInt8.toNat_inj.1 hc]
        · simp [hc, hr]
      · simp [hc]
set_option maxRecDepth 100000 in
theorem dm_nm (c : UInt8) (h : cDm.contains c = true) : cNm.contains c = true := by
  have : ∀ m : Fin 256, cDm.contains (UInt8.ofNat m.val) = true → cNm.contains (UInt8.ofNat m.val) = true := by decide +kernel
  have h2 := this ⟨c.toNat, c.toNat_lt⟩
  simp only [UInt8.ofNat_toNat] at h2
  exact h2 h
end Go.Proofs.YtfgfgcecbodjeaaGreatDoor
namespace Go.Proofs.YtfgfgcecbodjeaaGreatDoor
open Go.RowKit
set_option linter.unusedVariables false
set_option linter.unusedSimpArgs false

set_option maxRecDepth 100000 in
set_option maxHeartbeats 6400000 in
theorem w_5numeral (s : ByteArray) (p : Nat) (w : World) (hp : p < s.size) (hs : s.size ≤ 1099511627776) (hc : cDm.contains s[p] = true) :
    Calls Tryz.prog 28 #[.string s, .int .i64 (p : Int)] w fun e w' => Below w.heap.size w w' ∧ PcT (numeralT s.data.toList p) e := by
  obtain ⟨l, hl⟩ : ∃ l, l = s.data.toList := ⟨_, rfl⟩
  have HL : Hid (l.length = s.size) := by show _ = _; rw [hl]; exact size_lst s
  have HG : Hid (∀ q (h : q < s.size), l.getD q 0 = s[q]) := fun q h => by rw [hl]; exact getD_byte h
  have HX : Hid (∀ q, q ≤ s.size → (s.extract p q).data.toList = cut l p q) := fun q h => by rw [hl]; exact extract_lst s p q h
  have HGT : Hid (p < behL l p cNm) := behL_gt (by rw [HL.out]; exact hp) (by rw [HG.out p hp]; exact dm_nm _ hc)
  rw [← hl]
  clear hl
  go_enter Tryz.func28, Tryz.ntmps28
  go_wp2_with fail
  go_loopw [5] (fun a wr => ∃ q : Nat, p ≤ q ∧ q ≤ s.size ∧ a = .int .i64 (q : Int) ∧ Hid (behL l p cNm = behL l q cNm) ∧ wr = w.alloc (.cells #[.int .u8 0, .int .i64 0, .int .i64 0, .string ⟨#[]⟩, .int .i64 0] 50)) (fun a _ => s.size - (intOf a).toNat)
  case atStart => exact ⟨p, Nat.le_refl _, by omega, rfl, rfl, rfl⟩
  case round =>
    obtain ⟨q, hpq, hq, rfl, HQ, rfl⟩ := hrel
    by_cases hlt : q < s.size
    · have hi1 : (q : Int) < (s.size : Int) := by omega
      have hi0 : (0 : Int) ≤ (q : Int) := by omega
      have hd := fun u => w_5digit s[q] u
      have hle := fun u => w_5letter s[q] u
      have hw := nm_split s[q]
      have hst := beh_step (l := l) (p := q) (cs := cNm) (by rw [HL.out]; exact hlt)
      have hsp := beh_stop (l := l) (p := q) (cs := cNm) (by rw [HL.out]; exact hlt)
      rw [HG.out q hlt] at hst hsp
      have HST := Hid.mk hst
      have HSP := Hid.mk hsp
      clear hst hsp
      cases h1 : cLe.contains s[q] with
      | true =>
        rw [h1] at hle hw
        have HLE := Hid.mk hle
        have HWD : Hid (cNm.contains s[q] = true) := by show _ = _; rw [hw]; simp
        clear h1 hle hd hw
        go_wp2_with fail
        refine (HLE.out _).mono ?_
        rintro e w1 ⟨rfl, rfl⟩
        go_wp2_with fail
        go_roundw
        case rel => exact ⟨q + 1, by omega, by omega, by go_num, HQ.out.trans (HST.out HWD.out), by first | rfl | trivial⟩
        case measure => simp [intOf]; omega
      | false =>
        rw [h1] at hle hw
        have HLE := Hid.mk hle
        clear h1 hle
        cases h2 : cDg.contains s[q] with
        | true =>
          rw [h2] at hd hw
          have HD := Hid.mk hd
          have HWD : Hid (cNm.contains s[q] = true) := by show _ = _; rw [hw]; simp
          clear h2 hd hw
          go_wp2_with fail
          refine (HLE.out _).mono ?_
          rintro e w1 ⟨rfl, rfl⟩
          go_wp2_with fail
          refine (HD.out _).mono ?_
          rintro e w1 ⟨rfl, rfl⟩
          go_wp2_with fail
          go_roundw
          case rel => exact ⟨q + 1, by omega, by omega, by go_num, HQ.out.trans (HST.out HWD.out), by first | rfl | trivial⟩
          case measure => simp [intOf]; omega
        | false =>
          rw [h2] at hd hw
          have HD := Hid.mk hd
          clear h2 hd
          by_cases g0 : ((s[q].toNat : Nat) : Int) = 43
          · have HWD : Hid (cNm.contains s[q] = true) := by show _ = _; rw [hw, show s[q].toNat = 43 by omega]; rfl
            clear hw
            rw [g0] at HLE HD
            go_wp2_with fail
            refine (HLE.out _).mono ?_
            rintro e w1 ⟨rfl, rfl⟩
            go_wp2_with fail
            refine (HD.out _).mono ?_
            rintro e w1 ⟨rfl, rfl⟩
            go_wp2_with fail
            go_roundw
            case rel => exact ⟨q + 1, by omega, by omega, by go_num, HQ.out.trans (HST.out HWD.out), by first | rfl | trivial⟩
            case measure => simp [intOf]; omega
          by_cases g1 : ((s[q].toNat : Nat) : Int) = 45
          · have HWD : Hid (cNm.contains s[q] = true) := by show _ = _; rw [hw, show s[q].toNat = 45 by omega]; rfl
            clear hw
            rw [g1] at HLE HD
            go_wp2_with fail
            refine (HLE.out _).mono ?_
            rintro e w1 ⟨rfl, rfl⟩
            go_wp2_with fail
            refine (HD.out _).mono ?_
            rintro e w1 ⟨rfl, rfl⟩
            go_wp2_with fail
            go_roundw
            case rel => exact ⟨q + 1, by omega, by omega, by go_num, HQ.out.trans (HST.out HWD.out), by first | rfl | trivial⟩
            case measure => simp [intOf]; omega
          by_cases g2 : ((s[q].toNat : Nat) : Int) = 46
          · have HWD : Hid (cNm.contains s[q] = true) := by show _ = _; rw [hw, show s[q].toNat = 46 by omega]; rfl
            clear hw
            rw [g2] at HLE HD
            go_wp2_with fail
            refine (HLE.out _).mono ?_
            rintro e w1 ⟨rfl, rfl⟩
            go_wp2_with fail
            refine (HD.out _).mono ?_
            rintro e w1 ⟨rfl, rfl⟩
            go_wp2_with fail
            go_roundw
            case rel => exact ⟨q + 1, by omega, by omega, by go_num, HQ.out.trans (HST.out HWD.out), by first | rfl | trivial⟩
            case measure => simp [intOf]; omega
          have gb0 : (((s[q].toNat : Nat) : Int) == 43) = false := by rw [beq_eq_false_iff_ne]; exact g0
          have gb1 : (((s[q].toNat : Nat) : Int) == 45) = false := by rw [beq_eq_false_iff_ne]; exact g1
          have gb2 : (((s[q].toNat : Nat) : Int) == 46) = false := by rw [beq_eq_false_iff_ne]; exact g2
          have HWD : Hid (cNm.contains s[q] = false) := by show _ = _; rw [hw]; simp only [Bool.false_or]; rw [decide_eq_false (by omega : ¬ s[q].toNat = 43)]; rw [decide_eq_false (by omega : ¬ s[q].toNat = 45)]; rw [decide_eq_false (by omega : ¬ s[q].toNat = 46)]; rfl
          clear hw
          have hbe : behL l p cNm = q := HQ.out.trans (HSP.out HWD.out)
          clear HST HSP HQ HWD
          have HBE := Hid.mk hbe
          obtain ⟨x, hx⟩ : ∃ x, s.extract p q = x := ⟨_, rfl⟩
          have hxl : x.data.toList = cut l p q := by rw [← hx]; exact HX.out q (by omega)
          have hpq2 : p < q := by rw [← hbe]; exact HGT.out
          have hxs : 0 < x.size := by rw [← size_lst, hxl]; unfold cut; have := HL.out; simp; omega
          have hxm : x.size ≤ 1099511627776 := by rw [← size_lst, hxl]; unfold cut; have := HL.out; simp; omega
          have hxz : (0 : Int) < (x.size : Int) := by omega
          have h1 : (p : Int) ≤ (q : Int) := by omega
          have h2 : (q : Int) ≤ (s.size : Int) := by omega
          have HXL := Hid.mk hxl
          clear hbe
          by_cases hn : ((x[0].toNat : Nat) : Int) = 45
          · obtain ⟨dd, hdd⟩ : ∃ dd, x.extract 1 x.size = dd := ⟨_, rfl⟩
            have HDL : Hid (dd.data.toList = Pl.body (cut l p q)) := by show _ = _; rw [← hdd, Pl.extract_tail, ← hxl]; unfold Pl.body; rw [Pl.neg_of x hxs, if_pos (by rw [decide_eq_true_eq]; omega)]
            have hdm : dd.size ≤ 1099511627776 := by
              have h1 : dd.size ≤ x.size := by rw [← size_lst dd, ← size_lst x, ← hdd, Pl.extract_tail]; simp
              omega
            have hx1 : (1 : Int) ≤ (x.size : Int) := by omega
            clear hxl
            by_cases hd0 : dd.size = 0
            · have hr0 : rgtB dd.data.toList = false := rgt0 hd0
              have hdz : ¬ (0 : Int) < (dd.size : Int) := by omega
              have HR0 : Hid (rgtB dd.data.toList = false) := by show _ = _; exact hr0
              clear hr0
              go_wp2_with fail
              refine (HLE.out _).mono ?_
              rintro e w1 ⟨rfl, rfl⟩
              go_wp2_with fail
              refine (HD.out _).mono ?_
              rintro e w1 ⟨rfl, rfl⟩
              go_wp2_with fail
              go_loopw [8, 9] (fun r i wr => ∃ (k : Nat) (b : Bool), k ≤ dd.size ∧ r = .bool b ∧ i = .int .i64 (k : Int) ∧ Hid (b = (false && (dd.data.toList.take k).all (cDg.contains ·))) ∧ wr = w.alloc (.cells #[.int .u8 0, .int .i64 0, .int .i64 0, .string ⟨#[]⟩, .int .i64 0] 50)) (fun _ i _ => dd.size - (intOf i).toNat)
              case atStart => exact ⟨0, false, Nat.zero_le _, by first | rfl | simp [*], rfl, (by show _ = _; simp), rfl⟩
              case round =>
                obtain ⟨k, b, hk, rfl, rfl, HB, rfl⟩ := hrel
                by_cases hkl : k < dd.size
                · exact absurd hkl (by omega)
                · obtain rfl : k = dd.size := by omega
                  have hj1 : ¬ (dd.size : Int) < (dd.size : Int) := by omega
                  have hB : Pl.formed (numT (cut l p q)) = b := by rw [formed_numT, ← HDL.out, HR0.out, HB.out, List.take_of_length_le (by rw [size_lst]; omega)]
                  cases b with
                  | false =>
                    have HT : Hid (numeralT l p = ⟨0, p, 0, [], 42⟩) := by show _ = _; unfold numeralT; rw [HBE.out, if_neg (by rw [hB]; decide)]
                    clear hB
                    go_wp2_with fail
                    (try simp only [Exit.inBlock, Exit.then])
                    refine bodyPost_ret (v := .agg #[.int .u8 0, .int .i64 (p : Int), .int .i64 (p : Int), .string ⟨#[]⟩, .int .i64 42]) (by simp [results, Tryz.results28, go_sem]) rfl ?_
                    exact ⟨below1 w _, by rw [HT.out]; exact .inr ⟨(by show (42 : Nat) ≠ 0; decide), 0, rfl⟩⟩
                  | true =>
                    have h := HB.out
                    rw [Bool.false_and] at h
                    cases h
            have hdp : 0 < dd.size := by omega
            have hdz : (0 : Int) < (dd.size : Int) := by omega
            by_cases hc : ((dd[0].toNat : Nat) : Int) = 48
            · by_cases h1s : dd.size = 1
              · have hr0 : rgtB dd.data.toList = true := rgt1 h1s
                have hds : (dd.size : Int) = 1 := by omega
                have hdsb : ((dd.size : Int) == 1) = true := by rw [hds]; rfl
                have HR0 : Hid (rgtB dd.data.toList = true) := by show _ = _; exact hr0
                clear hr0
                go_wp2_with fail
                refine (HLE.out _).mono ?_
                rintro e w1 ⟨rfl, rfl⟩
                go_wp2_with fail
                refine (HD.out _).mono ?_
                rintro e w1 ⟨rfl, rfl⟩
                go_wp2_with fail
                go_loopw [8, 9] (fun r i wr => ∃ (k : Nat) (b : Bool), k ≤ dd.size ∧ r = .bool b ∧ i = .int .i64 (k : Int) ∧ Hid (b = (true && (dd.data.toList.take k).all (cDg.contains ·))) ∧ wr = w.alloc (.cells #[.int .u8 0, .int .i64 0, .int .i64 0, .string ⟨#[]⟩, .int .i64 0] 50)) (fun _ i _ => dd.size - (intOf i).toNat)
                case atStart => exact ⟨0, true, Nat.zero_le _, by first | rfl | simp [*], rfl, (by show _ = _; simp), rfl⟩
                case round =>
                  obtain ⟨k, b, hk, rfl, rfl, HB, rfl⟩ := hrel
                  by_cases hkl : k < dd.size
                  · have hj1 : (k : Int) < (dd.size : Int) := by omega
                    have hj0 : (0 : Int) ≤ (k : Int) := by omega
                    have HTk := Hid.mk (Pl.take_snoc dd k hkl)
                    cases b with
                    | true =>
                      have hd := fun u => w_5digit dd[k] u
                      cases h2 : cDg.contains dd[k] with
                      | true =>
                        rw [h2] at hd
                        have HD := Hid.mk hd
                        have HBn : Hid (true = (true && (dd.data.toList.take (k + 1)).all (cDg.contains ·))) := by show _ = _; rw [HTk.out, List.all_append, ← Bool.and_assoc, ← HB.out]; show true = (true && (cDg.contains dd[k] && true)); rw [h2]; rfl
                        clear h2 hd
                        go_wp2_with fail
                        refine (HD.out _).mono ?_
                        rintro e w1 ⟨rfl, rfl⟩
                        go_wp2_with fail
                        go_roundw
                        case rel => exact ⟨k + 1, true, by omega, rfl, by go_num, HBn, by first | rfl | trivial⟩
                        case measure => simp [intOf]; omega
                      | false =>
                        rw [h2] at hd
                        have HD := Hid.mk hd
                        have HBn : Hid (false = (true && (dd.data.toList.take (k + 1)).all (cDg.contains ·))) := by show _ = _; rw [HTk.out, List.all_append, ← Bool.and_assoc, ← HB.out]; show false = (true && (cDg.contains dd[k] && true)); rw [h2]; rfl
                        clear h2 hd
                        go_wp2_with fail
                        refine (HD.out _).mono ?_
                        rintro e w1 ⟨rfl, rfl⟩
                        go_wp2_with fail
                        go_roundw
                        case rel => exact ⟨k + 1, false, by omega, rfl, by go_num, HBn, by first | rfl | trivial⟩
                        case measure => simp [intOf]; omega
                    | false =>
                      have HBn : Hid (false = (true && (dd.data.toList.take (k + 1)).all (cDg.contains ·))) := by show _ = _; rw [HTk.out, List.all_append, ← Bool.and_assoc, ← HB.out]; rfl
                      go_wp2_with fail
                      go_roundw
                      case rel => exact ⟨k + 1, false, by omega, rfl, by go_num, HBn, by first | rfl | trivial⟩
                      case measure => simp [intOf]; omega
                  · obtain rfl : k = dd.size := by omega
                    have hj1 : ¬ (dd.size : Int) < (dd.size : Int) := by omega
                    have hB : Pl.formed (numT (cut l p q)) = b := by rw [formed_numT, ← HDL.out, HR0.out, HB.out, List.take_of_length_le (by rw [size_lst]; omega)]
                    cases b with
                    | false =>
                      have HT : Hid (numeralT l p = ⟨0, p, 0, [], 42⟩) := by show _ = _; unfold numeralT; rw [HBE.out, if_neg (by rw [hB]; decide)]
                      clear hB
                      go_wp2_with fail
                      (try simp only [Exit.inBlock, Exit.then])
                      refine bodyPost_ret (v := .agg #[.int .u8 0, .int .i64 (p : Int), .int .i64 (p : Int), .string ⟨#[]⟩, .int .i64 42]) (by simp [results, Tryz.results28, go_sem]) rfl ?_
                      exact ⟨below1 w _, by rw [HT.out]; exact .inr ⟨(by show (42 : Nat) ≠ 0; decide), 0, rfl⟩⟩
                    | true =>
                      by_cases hz : dd.data.toList = [48]
                      · have HT : Hid (numeralT l p = ⟨10, p, q, [48], 0⟩) := by show _ = _; unfold numeralT; rw [HBE.out, if_pos hB, numT_48 (by rw [← HDL.out]; exact hz)]
                        have hzb : (dd.toList == [48]) = true := by rw [Lib.toList_data, hz]; rfl
                        clear hB hz
                        go_wp2_with fail
                        (try simp only [Exit.inBlock, Exit.then])
                        refine bodyPost_ret (v := .agg #[.int .u8 0, .int .i64 (p : Int), .int .i64 (q : Int), .string ⟨#[48]⟩, .int .i64 0]) (by simp [results, Tryz.results28, go_sem]) rfl ?_
                        exact ⟨below1 w _, by rw [HT.out]; exact .inl ⟨rfl, rfl⟩⟩
                      · have HT : Hid (numeralT l p = ⟨10, p, q, x.data.toList, 0⟩) := by show _ = _; unfold numeralT; rw [HBE.out, if_pos hB, numT_not (by rw [← HDL.out]; exact hz), HXL.out]
                        have hzb : (dd.toList == [48]) = false := by rw [Lib.toList_data, beq_eq_false_iff_ne]; exact hz
                        clear hB hz
                        go_wp2_with fail
                        (try simp only [Exit.inBlock, Exit.then])
                        refine bodyPost_ret (v := .agg #[.int .u8 0, .int .i64 (p : Int), .int .i64 (q : Int), .string x, .int .i64 0]) (by simp [results, Tryz.results28, go_sem]) rfl ?_
                        exact ⟨below1 w _, by rw [HT.out]; exact .inl ⟨rfl, rfl⟩⟩
              have hr0 : rgtB dd.data.toList = false := rgt2 hdp (by omega) h1s
              have hds : ¬ (dd.size : Int) = 1 := by omega
              have hdsb : ((dd.size : Int) == 1) = false := by rw [beq_eq_false_iff_ne]; exact hds
              have HR0 : Hid (rgtB dd.data.toList = false) := by show _ = _; exact hr0
              clear hr0
              go_wp2_with fail
              refine (HLE.out _).mono ?_
              rintro e w1 ⟨rfl, rfl⟩
              go_wp2_with fail
              refine (HD.out _).mono ?_
              rintro e w1 ⟨rfl, rfl⟩
              go_wp2_with fail
              go_loopw [8, 9] (fun r i wr => ∃ (k : Nat) (b : Bool), k ≤ dd.size ∧ r = .bool b ∧ i = .int .i64 (k : Int) ∧ Hid (b = (false && (dd.data.toList.take k).all (cDg.contains ·))) ∧ wr = w.alloc (.cells #[.int .u8 0, .int .i64 0, .int .i64 0, .string ⟨#[]⟩, .int .i64 0] 50)) (fun _ i _ => dd.size - (intOf i).toNat)
              case atStart => exact ⟨0, false, Nat.zero_le _, by first | rfl | simp [*], rfl, (by show _ = _; simp), rfl⟩
              case round =>
                obtain ⟨k, b, hk, rfl, rfl, HB, rfl⟩ := hrel
                by_cases hkl : k < dd.size
                · have hj1 : (k : Int) < (dd.size : Int) := by omega
                  have hj0 : (0 : Int) ≤ (k : Int) := by omega
                  have HTk := Hid.mk (Pl.take_snoc dd k hkl)
                  cases b with
                  | true =>
                    have h := HB.out
                    rw [Bool.false_and] at h
                    cases h
                  | false =>
                    have HBn : Hid (false = (false && (dd.data.toList.take (k + 1)).all (cDg.contains ·))) := by show _ = _; rw [HTk.out, List.all_append, ← Bool.and_assoc, ← HB.out]; rfl
                    go_wp2_with fail
                    go_roundw
                    case rel => exact ⟨k + 1, false, by omega, rfl, by go_num, HBn, by first | rfl | trivial⟩
                    case measure => simp [intOf]; omega
                · obtain rfl : k = dd.size := by omega
                  have hj1 : ¬ (dd.size : Int) < (dd.size : Int) := by omega
                  have hB : Pl.formed (numT (cut l p q)) = b := by rw [formed_numT, ← HDL.out, HR0.out, HB.out, List.take_of_length_le (by rw [size_lst]; omega)]
                  cases b with
                  | false =>
                    have HT : Hid (numeralT l p = ⟨0, p, 0, [], 42⟩) := by show _ = _; unfold numeralT; rw [HBE.out, if_neg (by rw [hB]; decide)]
                    clear hB
                    go_wp2_with fail
                    (try simp only [Exit.inBlock, Exit.then])
                    refine bodyPost_ret (v := .agg #[.int .u8 0, .int .i64 (p : Int), .int .i64 (p : Int), .string ⟨#[]⟩, .int .i64 42]) (by simp [results, Tryz.results28, go_sem]) rfl ?_
                    exact ⟨below1 w _, by rw [HT.out]; exact .inr ⟨(by show (42 : Nat) ≠ 0; decide), 0, rfl⟩⟩
                  | true =>
                    have h := HB.out
                    rw [Bool.false_and] at h
                    cases h
            have hr0 : rgtB dd.data.toList = true := rgt3 hdp (by omega)
            have hcb : (((dd[0].toNat : Nat) : Int) == 48) = false := by rw [beq_eq_false_iff_ne]; exact hc
            have HR0 : Hid (rgtB dd.data.toList = true) := by show _ = _; exact hr0
            clear hr0
            go_wp2_with fail
            refine (HLE.out _).mono ?_
            rintro e w1 ⟨rfl, rfl⟩
            go_wp2_with fail
            refine (HD.out _).mono ?_
            rintro e w1 ⟨rfl, rfl⟩
            go_wp2_with fail
            go_loopw [8, 9] (fun r i wr => ∃ (k : Nat) (b : Bool), k ≤ dd.size ∧ r = .bool b ∧ i = .int .i64 (k : Int) ∧ Hid (b = (true && (dd.data.toList.take k).all (cDg.contains ·))) ∧ wr = w.alloc (.cells #[.int .u8 0, .int .i64 0, .int .i64 0, .string ⟨#[]⟩, .int .i64 0] 50)) (fun _ i _ => dd.size - (intOf i).toNat)
            case atStart => exact ⟨0, true, Nat.zero_le _, by first | rfl | simp [*], rfl, (by show _ = _; simp), rfl⟩
            case round =>
              obtain ⟨k, b, hk, rfl, rfl, HB, rfl⟩ := hrel
              by_cases hkl : k < dd.size
              · have hj1 : (k : Int) < (dd.size : Int) := by omega
                have hj0 : (0 : Int) ≤ (k : Int) := by omega
                have HTk := Hid.mk (Pl.take_snoc dd k hkl)
                cases b with
                | true =>
                  have hd := fun u => w_5digit dd[k] u
                  cases h2 : cDg.contains dd[k] with
                  | true =>
                    rw [h2] at hd
                    have HD := Hid.mk hd
                    have HBn : Hid (true = (true && (dd.data.toList.take (k + 1)).all (cDg.contains ·))) := by show _ = _; rw [HTk.out, List.all_append, ← Bool.and_assoc, ← HB.out]; show true = (true && (cDg.contains dd[k] && true)); rw [h2]; rfl
                    clear h2 hd
                    go_wp2_with fail
                    refine (HD.out _).mono ?_
                    rintro e w1 ⟨rfl, rfl⟩
                    go_wp2_with fail
                    go_roundw
                    case rel => exact ⟨k + 1, true, by omega, rfl, by go_num, HBn, by first | rfl | trivial⟩
                    case measure => simp [intOf]; omega
                  | false =>
                    rw [h2] at hd
                    have HD := Hid.mk hd
                    have HBn : Hid (false = (true && (dd.data.toList.take (k + 1)).all (cDg.contains ·))) := by show _ = _; rw [HTk.out, List.all_append, ← Bool.and_assoc, ← HB.out]; show false = (true && (cDg.contains dd[k] && true)); rw [h2]; rfl
                    clear h2 hd
                    go_wp2_with fail
                    refine (HD.out _).mono ?_
                    rintro e w1 ⟨rfl, rfl⟩
                    go_wp2_with fail
                    go_roundw
                    case rel => exact ⟨k + 1, false, by omega, rfl, by go_num, HBn, by first | rfl | trivial⟩
                    case measure => simp [intOf]; omega
                | false =>
                  have HBn : Hid (false = (true && (dd.data.toList.take (k + 1)).all (cDg.contains ·))) := by show _ = _; rw [HTk.out, List.all_append, ← Bool.and_assoc, ← HB.out]; rfl
                  go_wp2_with fail
                  go_roundw
                  case rel => exact ⟨k + 1, false, by omega, rfl, by go_num, HBn, by first | rfl | trivial⟩
                  case measure => simp [intOf]; omega
              · obtain rfl : k = dd.size := by omega
                have hj1 : ¬ (dd.size : Int) < (dd.size : Int) := by omega
                have hB : Pl.formed (numT (cut l p q)) = b := by rw [formed_numT, ← HDL.out, HR0.out, HB.out, List.take_of_length_le (by rw [size_lst]; omega)]
                cases b with
                | false =>
                  have HT : Hid (numeralT l p = ⟨0, p, 0, [], 42⟩) := by show _ = _; unfold numeralT; rw [HBE.out, if_neg (by rw [hB]; decide)]
                  clear hB
                  go_wp2_with fail
                  (try simp only [Exit.inBlock, Exit.then])
                  refine bodyPost_ret (v := .agg #[.int .u8 0, .int .i64 (p : Int), .int .i64 (p : Int), .string ⟨#[]⟩, .int .i64 42]) (by simp [results, Tryz.results28, go_sem]) rfl ?_
                  exact ⟨below1 w _, by rw [HT.out]; exact .inr ⟨(by show (42 : Nat) ≠ 0; decide), 0, rfl⟩⟩
                | true =>
                  by_cases hz : dd.data.toList = [48]
                  · have HT : Hid (numeralT l p = ⟨10, p, q, [48], 0⟩) := by show _ = _; unfold numeralT; rw [HBE.out, if_pos hB, numT_48 (by rw [← HDL.out]; exact hz)]
                    have hzb : (dd.toList == [48]) = true := by rw [Lib.toList_data, hz]; rfl
                    clear hB hz
                    go_wp2_with fail
                    (try simp only [Exit.inBlock, Exit.then])
                    refine bodyPost_ret (v := .agg #[.int .u8 0, .int .i64 (p : Int), .int .i64 (q : Int), .string ⟨#[48]⟩, .int .i64 0]) (by simp [results, Tryz.results28, go_sem]) rfl ?_
                    exact ⟨below1 w _, by rw [HT.out]; exact .inl ⟨rfl, rfl⟩⟩
                  · have HT : Hid (numeralT l p = ⟨10, p, q, x.data.toList, 0⟩) := by show _ = _; unfold numeralT; rw [HBE.out, if_pos hB, numT_not (by rw [← HDL.out]; exact hz), HXL.out]
                    have hzb : (dd.toList == [48]) = false := by rw [Lib.toList_data, beq_eq_false_iff_ne]; exact hz
                    clear hB hz
                    go_wp2_with fail
                    (try simp only [Exit.inBlock, Exit.then])
                    refine bodyPost_ret (v := .agg #[.int .u8 0, .int .i64 (p : Int), .int .i64 (q : Int), .string x, .int .i64 0]) (by simp [results, Tryz.results28, go_sem]) rfl ?_
                    exact ⟨below1 w _, by rw [HT.out]; exact .inl ⟨rfl, rfl⟩⟩
          obtain ⟨dd, hdd⟩ : ∃ dd, x = dd := ⟨_, rfl⟩
          have HDL : Hid (dd.data.toList = Pl.body (cut l p q)) := by show _ = _; rw [← hdd, ← hxl]; unfold Pl.body; rw [Pl.neg_of x hxs, if_neg (by rw [decide_eq_true_eq]; omega)]
          subst hdd
          clear hxl
          by_cases hd0 : x.size = 0
          · exact absurd hd0 (by omega)
          have hdp : 0 < x.size := by omega
          have hdz : (0 : Int) < (x.size : Int) := by omega
          by_cases hc : ((x[0].toNat : Nat) : Int) = 48
          · by_cases h1s : x.size = 1
            · have hr0 : rgtB x.data.toList = true := rgt1 h1s
              have hds : (x.size : Int) = 1 := by omega
              have hdsb : ((x.size : Int) == 1) = true := by rw [hds]; rfl
              have HR0 : Hid (rgtB x.data.toList = true) := by show _ = _; exact hr0
              clear hr0
              go_wp2_with fail
              refine (HLE.out _).mono ?_
              rintro e w1 ⟨rfl, rfl⟩
              go_wp2_with fail
              refine (HD.out _).mono ?_
              rintro e w1 ⟨rfl, rfl⟩
              go_wp2_with fail
              go_loopw [8, 9] (fun r i wr => ∃ (k : Nat) (b : Bool), k ≤ x.size ∧ r = .bool b ∧ i = .int .i64 (k : Int) ∧ Hid (b = (true && (x.data.toList.take k).all (cDg.contains ·))) ∧ wr = w.alloc (.cells #[.int .u8 0, .int .i64 0, .int .i64 0, .string ⟨#[]⟩, .int .i64 0] 50)) (fun _ i _ => x.size - (intOf i).toNat)
              case atStart => exact ⟨0, true, Nat.zero_le _, by first | rfl | simp [*], rfl, (by show _ = _; simp), rfl⟩
              case round =>
                obtain ⟨k, b, hk, rfl, rfl, HB, rfl⟩ := hrel
                by_cases hkl : k < x.size
                · have hj1 : (k : Int) < (x.size : Int) := by omega
                  have hj0 : (0 : Int) ≤ (k : Int) := by omega
                  have HTk := Hid.mk (Pl.take_snoc x k hkl)
                  cases b with
                  | true =>
                    have hd := fun u => w_5digit x[k] u
                    cases h2 : cDg.contains x[k] with
                    | true =>
                      rw [h2] at hd
                      have HD := Hid.mk hd
                      have HBn : Hid (true = (true && (x.data.toList.take (k + 1)).all (cDg.contains ·))) := by show _ = _; rw [HTk.out, List.all_append, ← Bool.and_assoc, ← HB.out]; show true = (true && (cDg.contains x[k] && true)); rw [h2]; rfl
                      clear h2 hd
                      go_wp2_with fail
                      refine (HD.out _).mono ?_
                      rintro e w1 ⟨rfl, rfl⟩
                      go_wp2_with fail
                      go_roundw
                      case rel => exact ⟨k + 1, true, by omega, rfl, by go_num, HBn, by first | rfl | trivial⟩
                      case measure => simp [intOf]; omega
                    | false =>
                      rw [h2] at hd
                      have HD := Hid.mk hd
                      have HBn : Hid (false = (true && (x.data.toList.take (k + 1)).all (cDg.contains ·))) := by show _ = _; rw [HTk.out, List.all_append, ← Bool.and_assoc, ← HB.out]; show false = (true && (cDg.contains x[k] && true)); rw [h2]; rfl
                      clear h2 hd
                      go_wp2_with fail
                      refine (HD.out _).mono ?_
                      rintro e w1 ⟨rfl, rfl⟩
                      go_wp2_with fail
                      go_roundw
                      case rel => exact ⟨k + 1, false, by omega, rfl, by go_num, HBn, by first | rfl | trivial⟩
                      case measure => simp [intOf]; omega
                  | false =>
                    have HBn : Hid (false = (true && (x.data.toList.take (k + 1)).all (cDg.contains ·))) := by show _ = _; rw [HTk.out, List.all_append, ← Bool.and_assoc, ← HB.out]; rfl
                    go_wp2_with fail
                    go_roundw
                    case rel => exact ⟨k + 1, false, by omega, rfl, by go_num, HBn, by first | rfl | trivial⟩
                    case measure => simp [intOf]; omega
                · obtain rfl : k = x.size := by omega
                  have hj1 : ¬ (x.size : Int) < (x.size : Int) := by omega
                  have hB : Pl.formed (numT (cut l p q)) = b := by rw [formed_numT, ← HDL.out, HR0.out, HB.out, List.take_of_length_le (by rw [size_lst]; omega)]
                  cases b with
                  | false =>
                    have HT : Hid (numeralT l p = ⟨0, p, 0, [], 42⟩) := by show _ = _; unfold numeralT; rw [HBE.out, if_neg (by rw [hB]; decide)]
                    clear hB
                    go_wp2_with fail
                    (try simp only [Exit.inBlock, Exit.then])
                    refine bodyPost_ret (v := .agg #[.int .u8 0, .int .i64 (p : Int), .int .i64 (p : Int), .string ⟨#[]⟩, .int .i64 42]) (by simp [results, Tryz.results28, go_sem]) rfl ?_
                    exact ⟨below1 w _, by rw [HT.out]; exact .inr ⟨(by show (42 : Nat) ≠ 0; decide), 0, rfl⟩⟩
                  | true =>
                    by_cases hz : x.data.toList = [48]
                    · have HT : Hid (numeralT l p = ⟨10, p, q, [48], 0⟩) := by show _ = _; unfold numeralT; rw [HBE.out, if_pos hB, numT_48 (by rw [← HDL.out]; exact hz)]
                      have hzb : (x.toList == [48]) = true := by rw [Lib.toList_data, hz]; rfl
                      clear hB hz
                      go_wp2_with fail
                      (try simp only [Exit.inBlock, Exit.then])
                      refine bodyPost_ret (v := .agg #[.int .u8 0, .int .i64 (p : Int), .int .i64 (q : Int), .string ⟨#[48]⟩, .int .i64 0]) (by simp [results, Tryz.results28, go_sem]) rfl ?_
                      exact ⟨below1 w _, by rw [HT.out]; exact .inl ⟨rfl, rfl⟩⟩
                    · have HT : Hid (numeralT l p = ⟨10, p, q, x.data.toList, 0⟩) := by show _ = _; unfold numeralT; rw [HBE.out, if_pos hB, numT_not (by rw [← HDL.out]; exact hz), HXL.out]
                      have hzb : (x.toList == [48]) = false := by rw [Lib.toList_data, beq_eq_false_iff_ne]; exact hz
                      clear hB hz
                      go_wp2_with fail
                      (try simp only [Exit.inBlock, Exit.then])
                      refine bodyPost_ret (v := .agg #[.int .u8 0, .int .i64 (p : Int), .int .i64 (q : Int), .string x, .int .i64 0]) (by simp [results, Tryz.results28, go_sem]) rfl ?_
                      exact ⟨below1 w _, by rw [HT.out]; exact .inl ⟨rfl, rfl⟩⟩
            have hr0 : rgtB x.data.toList = false := rgt2 hdp (by omega) h1s
            have hds : ¬ (x.size : Int) = 1 := by omega
            have hdsb : ((x.size : Int) == 1) = false := by rw [beq_eq_false_iff_ne]; exact hds
            have HR0 : Hid (rgtB x.data.toList = false) := by show _ = _; exact hr0
            clear hr0
            go_wp2_with fail
            refine (HLE.out _).mono ?_
            rintro e w1 ⟨rfl, rfl⟩
            go_wp2_with fail
            refine (HD.out _).mono ?_
            rintro e w1 ⟨rfl, rfl⟩
            go_wp2_with fail
            go_loopw [8, 9] (fun r i wr => ∃ (k : Nat) (b : Bool), k ≤ x.size ∧ r = .bool b ∧ i = .int .i64 (k : Int) ∧ Hid (b = (false && (x.data.toList.take k).all (cDg.contains ·))) ∧ wr = w.alloc (.cells #[.int .u8 0, .int .i64 0, .int .i64 0, .string ⟨#[]⟩, .int .i64 0] 50)) (fun _ i _ => x.size - (intOf i).toNat)
            case atStart => exact ⟨0, false, Nat.zero_le _, by first | rfl | simp [*], rfl, (by show _ = _; simp), rfl⟩
            case round =>
              obtain ⟨k, b, hk, rfl, rfl, HB, rfl⟩ := hrel
              by_cases hkl : k < x.size
              · have hj1 : (k : Int) < (x.size : Int) := by omega
                have hj0 : (0 : Int) ≤ (k : Int) := by omega
                have HTk := Hid.mk (Pl.take_snoc x k hkl)
                cases b with
                | true =>
                  have h := HB.out
                  rw [Bool.false_and] at h
                  cases h
                | false =>
                  have HBn : Hid (false = (false && (x.data.toList.take (k + 1)).all (cDg.contains ·))) := by show _ = _; rw [HTk.out, List.all_append, ← Bool.and_assoc, ← HB.out]; rfl
                  go_wp2_with fail
                  go_roundw
                  case rel => exact ⟨k + 1, false, by omega, rfl, by go_num, HBn, by first | rfl | trivial⟩
                  case measure => simp [intOf]; omega
              · obtain rfl : k = x.size := by omega
                have hj1 : ¬ (x.size : Int) < (x.size : Int) := by omega
                have hB : Pl.formed (numT (cut l p q)) = b := by rw [formed_numT, ← HDL.out, HR0.out, HB.out, List.take_of_length_le (by rw [size_lst]; omega)]
                cases b with
                | false =>
                  have HT : Hid (numeralT l p = ⟨0, p, 0, [], 42⟩) := by show _ = _; unfold numeralT; rw [HBE.out, if_neg (by rw [hB]; decide)]
                  clear hB
                  go_wp2_with fail
                  (try simp only [Exit.inBlock, Exit.then])
                  refine bodyPost_ret (v := .agg #[.int .u8 0, .int .i64 (p : Int), .int .i64 (p : Int), .string ⟨#[]⟩, .int .i64 42]) (by simp [results, Tryz.results28, go_sem]) rfl ?_
                  exact ⟨below1 w _, by rw [HT.out]; exact .inr ⟨(by show (42 : Nat) ≠ 0; decide), 0, rfl⟩⟩
                | true =>
                  have h := HB.out
                  rw [Bool.false_and] at h
                  cases h
          have hr0 : rgtB x.data.toList = true := rgt3 hdp (by omega)
          have hcb : (((x[0].toNat : Nat) : Int) == 48) = false := by rw [beq_eq_false_iff_ne]; exact hc
          have HR0 : Hid (rgtB x.data.toList = true) := by show _ = _; exact hr0
          clear hr0
          go_wp2_with fail
          refine (HLE.out _).mono ?_
          rintro e w1 ⟨rfl, rfl⟩
          go_wp2_with fail
          refine (HD.out _).mono ?_
          rintro e w1 ⟨rfl, rfl⟩
          go_wp2_with fail
          go_loopw [8, 9] (fun r i wr => ∃ (k : Nat) (b : Bool), k ≤ x.size ∧ r = .bool b ∧ i = .int .i64 (k : Int) ∧ Hid (b = (true && (x.data.toList.take k).all (cDg.contains ·))) ∧ wr = w.alloc (.cells #[.int .u8 0, .int .i64 0, .int .i64 0, .string ⟨#[]⟩, .int .i64 0] 50)) (fun _ i _ => x.size - (intOf i).toNat)
          case atStart => exact ⟨0, true, Nat.zero_le _, by first | rfl | simp [*], rfl, (by show _ = _; simp), rfl⟩
          case round =>
            obtain ⟨k, b, hk, rfl, rfl, HB, rfl⟩ := hrel
            by_cases hkl : k < x.size
            · have hj1 : (k : Int) < (x.size : Int) := by omega
              have hj0 : (0 : Int) ≤ (k : Int) := by omega
              have HTk := Hid.mk (Pl.take_snoc x k hkl)
              cases b with
              | true =>
                have hd := fun u => w_5digit x[k] u
                cases h2 : cDg.contains x[k] with
                | true =>
                  rw [h2] at hd
                  have HD := Hid.mk hd
                  have HBn : Hid (true = (true && (x.data.toList.take (k + 1)).all (cDg.contains ·))) := by show _ = _; rw [HTk.out, List.all_append, ← Bool.and_assoc, ← HB.out]; show true = (true && (cDg.contains x[k] && true)); rw [h2]; rfl
                  clear h2 hd
                  go_wp2_with fail
                  refine (HD.out _).mono ?_
                  rintro e w1 ⟨rfl, rfl⟩
                  go_wp2_with fail
                  go_roundw
                  case rel => exact ⟨k + 1, true, by omega, rfl, by go_num, HBn, by first | rfl | trivial⟩
                  case measure => simp [intOf]; omega
                | false =>
                  rw [h2] at hd
                  have HD := Hid.mk hd
                  have HBn : Hid (false = (true && (x.data.toList.take (k + 1)).all (cDg.contains ·))) := by show _ = _; rw [HTk.out, List.all_append, ← Bool.and_assoc, ← HB.out]; show false = (true && (cDg.contains x[k] && true)); rw [h2]; rfl
                  clear h2 hd
                  go_wp2_with fail
                  refine (HD.out _).mono ?_
                  rintro e w1 ⟨rfl, rfl⟩
                  go_wp2_with fail
                  go_roundw
                  case rel => exact ⟨k + 1, false, by omega, rfl, by go_num, HBn, by first | rfl | trivial⟩
                  case measure => simp [intOf]; omega
              | false =>
                have HBn : Hid (false = (true && (x.data.toList.take (k + 1)).all (cDg.contains ·))) := by show _ = _; rw [HTk.out, List.all_append, ← Bool.and_assoc, ← HB.out]; rfl
                go_wp2_with fail
                go_roundw
                case rel => exact ⟨k + 1, false, by omega, rfl, by go_num, HBn, by first | rfl | trivial⟩
                case measure => simp [intOf]; omega
            · obtain rfl : k = x.size := by omega
              have hj1 : ¬ (x.size : Int) < (x.size : Int) := by omega
              have hB : Pl.formed (numT (cut l p q)) = b := by rw [formed_numT, ← HDL.out, HR0.out, HB.out, List.take_of_length_le (by rw [size_lst]; omega)]
              cases b with
              | false =>
                have HT : Hid (numeralT l p = ⟨0, p, 0, [], 42⟩) := by show _ = _; unfold numeralT; rw [HBE.out, if_neg (by rw [hB]; decide)]
                clear hB
                go_wp2_with fail
                (try simp only [Exit.inBlock, Exit.then])
                refine bodyPost_ret (v := .agg #[.int .u8 0, .int .i64 (p : Int), .int .i64 (p : Int), .string ⟨#[]⟩, .int .i64 42]) (by simp [results, Tryz.results28, go_sem]) rfl ?_
                exact ⟨below1 w _, by rw [HT.out]; exact .inr ⟨(by show (42 : Nat) ≠ 0; decide), 0, rfl⟩⟩
              | true =>
                by_cases hz : x.data.toList = [48]
                · have HT : Hid (numeralT l p = ⟨10, p, q, [48], 0⟩) := by show _ = _; unfold numeralT; rw [HBE.out, if_pos hB, numT_48 (by rw [← HDL.out]; exact hz)]
                  have hzb : (x.toList == [48]) = true := by rw [Lib.toList_data, hz]; rfl
                  clear hB hz
                  go_wp2_with fail
                  (try simp only [Exit.inBlock, Exit.then])
                  refine bodyPost_ret (v := .agg #[.int .u8 0, .int .i64 (p : Int), .int .i64 (q : Int), .string ⟨#[48]⟩, .int .i64 0]) (by simp [results, Tryz.results28, go_sem]) rfl ?_
                  exact ⟨below1 w _, by rw [HT.out]; exact .inl ⟨rfl, rfl⟩⟩
                · have HT : Hid (numeralT l p = ⟨10, p, q, x.data.toList, 0⟩) := by show _ = _; unfold numeralT; rw [HBE.out, if_pos hB, numT_not (by rw [← HDL.out]; exact hz), HXL.out]
                  have hzb : (x.toList == [48]) = false := by rw [Lib.toList_data, beq_eq_false_iff_ne]; exact hz
                  clear hB hz
                  go_wp2_with fail
                  (try simp only [Exit.inBlock, Exit.then])
                  refine bodyPost_ret (v := .agg #[.int .u8 0, .int .i64 (p : Int), .int .i64 (q : Int), .string x, .int .i64 0]) (by simp [results, Tryz.results28, go_sem]) rfl ?_
                  exact ⟨below1 w _, by rw [HT.out]; exact .inl ⟨rfl, rfl⟩⟩
    · obtain rfl : q = s.size := by omega
      have hi1 : ¬ (s.size : Int) < (s.size : Int) := by omega
      have hbe : behL l p cNm = s.size := by rw [HQ.out, beh_end (by rw [HL.out]; omega), HL.out]
      clear HQ
      have HBE := Hid.mk hbe
      obtain ⟨x, hx⟩ : ∃ x, s.extract p s.size = x := ⟨_, rfl⟩
      have hxl : x.data.toList = cut l p s.size := by rw [← hx]; exact HX.out s.size (by omega)
      have hpq2 : p < s.size := by rw [← hbe]; exact HGT.out
      have hxs : 0 < x.size := by rw [← size_lst, hxl]; unfold cut; have := HL.out; simp; omega
      have hxm : x.size ≤ 1099511627776 := by rw [← size_lst, hxl]; unfold cut; have := HL.out; simp; omega
      have hxz : (0 : Int) < (x.size : Int) := by omega
      have h1 : (p : Int) ≤ (s.size : Int) := by omega
      have h2 : (s.size : Int) ≤ (s.size : Int) := by omega
      have HXL := Hid.mk hxl
      clear hbe
      by_cases hn : ((x[0].toNat : Nat) : Int) = 45
      · obtain ⟨dd, hdd⟩ : ∃ dd, x.extract 1 x.size = dd := ⟨_, rfl⟩
        have HDL : Hid (dd.data.toList = Pl.body (cut l p s.size)) := by show _ = _; rw [← hdd, Pl.extract_tail, ← hxl]; unfold Pl.body; rw [Pl.neg_of x hxs, if_pos (by rw [decide_eq_true_eq]; omega)]
        have hdm : dd.size ≤ 1099511627776 := by
          have h1 : dd.size ≤ x.size := by rw [← size_lst dd, ← size_lst x, ← hdd, Pl.extract_tail]; simp
          omega
        have hx1 : (1 : Int) ≤ (x.size : Int) := by omega
        clear hxl
        by_cases hd0 : dd.size = 0
        · have hr0 : rgtB dd.data.toList = false := rgt0 hd0
          have hdz : ¬ (0 : Int) < (dd.size : Int) := by omega
          have HR0 : Hid (rgtB dd.data.toList = false) := by show _ = _; exact hr0
          clear hr0
          go_wp2_with fail
          go_loopw [8, 9] (fun r i wr => ∃ (k : Nat) (b : Bool), k ≤ dd.size ∧ r = .bool b ∧ i = .int .i64 (k : Int) ∧ Hid (b = (false && (dd.data.toList.take k).all (cDg.contains ·))) ∧ wr = w.alloc (.cells #[.int .u8 0, .int .i64 0, .int .i64 0, .string ⟨#[]⟩, .int .i64 0] 50)) (fun _ i _ => dd.size - (intOf i).toNat)
          case atStart => exact ⟨0, false, Nat.zero_le _, by first | rfl | simp [*], rfl, (by show _ = _; simp), rfl⟩
          case round =>
            obtain ⟨k, b, hk, rfl, rfl, HB, rfl⟩ := hrel
            by_cases hkl : k < dd.size
            · exact absurd hkl (by omega)
            · obtain rfl : k = dd.size := by omega
              have hj1 : ¬ (dd.size : Int) < (dd.size : Int) := by omega
              have hB : Pl.formed (numT (cut l p s.size)) = b := by rw [formed_numT, ← HDL.out, HR0.out, HB.out, List.take_of_length_le (by rw [size_lst]; omega)]
              cases b with
              | false =>
                have HT : Hid (numeralT l p = ⟨0, p, 0, [], 42⟩) := by show _ = _; unfold numeralT; rw [HBE.out, if_neg (by rw [hB]; decide)]
                clear hB
                go_wp2_with fail
                (try simp only [Exit.inBlock, Exit.then])
                refine bodyPost_ret (v := .agg #[.int .u8 0, .int .i64 (p : Int), .int .i64 (p : Int), .string ⟨#[]⟩, .int .i64 42]) (by simp [results, Tryz.results28, go_sem]) rfl ?_
                exact ⟨below1 w _, by rw [HT.out]; exact .inr ⟨(by show (42 : Nat) ≠ 0; decide), 0, rfl⟩⟩
              | true =>
                have h := HB.out
                rw [Bool.false_and] at h
                cases h
        have hdp : 0 < dd.size := by omega
        have hdz : (0 : Int) < (dd.size : Int) := by omega
        by_cases hc : ((dd[0].toNat : Nat) : Int) = 48
        · by_cases h1s : dd.size = 1
          · have hr0 : rgtB dd.data.toList = true := rgt1 h1s
            have hds : (dd.size : Int) = 1 := by omega
            have hdsb : ((dd.size : Int) == 1) = true := by rw [hds]; rfl
            have HR0 : Hid (rgtB dd.data.toList = true) := by show _ = _; exact hr0
            clear hr0
            go_wp2_with fail
            go_loopw [8, 9] (fun r i wr => ∃ (k : Nat) (b : Bool), k ≤ dd.size ∧ r = .bool b ∧ i = .int .i64 (k : Int) ∧ Hid (b = (true && (dd.data.toList.take k).all (cDg.contains ·))) ∧ wr = w.alloc (.cells #[.int .u8 0, .int .i64 0, .int .i64 0, .string ⟨#[]⟩, .int .i64 0] 50)) (fun _ i _ => dd.size - (intOf i).toNat)
            case atStart => exact ⟨0, true, Nat.zero_le _, by first | rfl | simp [*], rfl, (by show _ = _; simp), rfl⟩
            case round =>
              obtain ⟨k, b, hk, rfl, rfl, HB, rfl⟩ := hrel
              by_cases hkl : k < dd.size
              · have hj1 : (k : Int) < (dd.size : Int) := by omega
                have hj0 : (0 : Int) ≤ (k : Int) := by omega
                have HTk := Hid.mk (Pl.take_snoc dd k hkl)
                cases b with
                | true =>
                  have hd := fun u => w_5digit dd[k] u
                  cases h2 : cDg.contains dd[k] with
                  | true =>
                    rw [h2] at hd
                    have HD := Hid.mk hd
                    have HBn : Hid (true = (true && (dd.data.toList.take (k + 1)).all (cDg.contains ·))) := by show _ = _; rw [HTk.out, List.all_append, ← Bool.and_assoc, ← HB.out]; show true = (true && (cDg.contains dd[k] && true)); rw [h2]; rfl
                    clear h2 hd
                    go_wp2_with fail
                    refine (HD.out _).mono ?_
                    rintro e w1 ⟨rfl, rfl⟩
                    go_wp2_with fail
                    go_roundw
                    case rel => exact ⟨k + 1, true, by omega, rfl, by go_num, HBn, by first | rfl | trivial⟩
                    case measure => simp [intOf]; omega
                  | false =>
                    rw [h2] at hd
                    have HD := Hid.mk hd
                    have HBn : Hid (false = (true && (dd.data.toList.take (k + 1)).all (cDg.contains ·))) := by show _ = _; rw [HTk.out, List.all_append, ← Bool.and_assoc, ← HB.out]; show false = (true && (cDg.contains dd[k] && true)); rw [h2]; rfl
                    clear h2 hd
                    go_wp2_with fail
                    refine (HD.out _).mono ?_
                    rintro e w1 ⟨rfl, rfl⟩
                    go_wp2_with fail
                    go_roundw
                    case rel => exact ⟨k + 1, false, by omega, rfl, by go_num, HBn, by first | rfl | trivial⟩
                    case measure => simp [intOf]; omega
                | false =>
                  have HBn : Hid (false = (true && (dd.data.toList.take (k + 1)).all (cDg.contains ·))) := by show _ = _; rw [HTk.out, List.all_append, ← Bool.and_assoc, ← HB.out]; rfl
                  go_wp2_with fail
                  go_roundw
                  case rel => exact ⟨k + 1, false, by omega, rfl, by go_num, HBn, by first | rfl | trivial⟩
                  case measure => simp [intOf]; omega
              · obtain rfl : k = dd.size := by omega
                have hj1 : ¬ (dd.size : Int) < (dd.size : Int) := by omega
                have hB : Pl.formed (numT (cut l p s.size)) = b := by rw [formed_numT, ← HDL.out, HR0.out, HB.out, List.take_of_length_le (by rw [size_lst]; omega)]
                cases b with
                | false =>
                  have HT : Hid (numeralT l p = ⟨0, p, 0, [], 42⟩) := by show _ = _; unfold numeralT; rw [HBE.out, if_neg (by rw [hB]; decide)]
                  clear hB
                  go_wp2_with fail
                  (try simp only [Exit.inBlock, Exit.then])
                  refine bodyPost_ret (v := .agg #[.int .u8 0, .int .i64 (p : Int), .int .i64 (p : Int), .string ⟨#[]⟩, .int .i64 42]) (by simp [results, Tryz.results28, go_sem]) rfl ?_
                  exact ⟨below1 w _, by rw [HT.out]; exact .inr ⟨(by show (42 : Nat) ≠ 0; decide), 0, rfl⟩⟩
                | true =>
                  by_cases hz : dd.data.toList = [48]
                  · have HT : Hid (numeralT l p = ⟨10, p, s.size, [48], 0⟩) := by show _ = _; unfold numeralT; rw [HBE.out, if_pos hB, numT_48 (by rw [← HDL.out]; exact hz)]
                    have hzb : (dd.toList == [48]) = true := by rw [Lib.toList_data, hz]; rfl
                    clear hB hz
                    go_wp2_with fail
                    (try simp only [Exit.inBlock, Exit.then])
                    refine bodyPost_ret (v := .agg #[.int .u8 0, .int .i64 (p : Int), .int .i64 (s.size : Int), .string ⟨#[48]⟩, .int .i64 0]) (by simp [results, Tryz.results28, go_sem]) rfl ?_
                    exact ⟨below1 w _, by rw [HT.out]; exact .inl ⟨rfl, rfl⟩⟩
                  · have HT : Hid (numeralT l p = ⟨10, p, s.size, x.data.toList, 0⟩) := by show _ = _; unfold numeralT; rw [HBE.out, if_pos hB, numT_not (by rw [← HDL.out]; exact hz), HXL.out]
                    have hzb : (dd.toList == [48]) = false := by rw [Lib.toList_data, beq_eq_false_iff_ne]; exact hz
                    clear hB hz
                    go_wp2_with fail
                    (try simp only [Exit.inBlock, Exit.then])
                    refine bodyPost_ret (v := .agg #[.int .u8 0, .int .i64 (p : Int), .int .i64 (s.size : Int), .string x, .int .i64 0]) (by simp [results, Tryz.results28, go_sem]) rfl ?_
                    exact ⟨below1 w _, by rw [HT.out]; exact .inl ⟨rfl, rfl⟩⟩
          have hr0 : rgtB dd.data.toList = false := rgt2 hdp (by omega) h1s
          have hds : ¬ (dd.size : Int) = 1 := by omega
          have hdsb : ((dd.size : Int) == 1) = false := by rw [beq_eq_false_iff_ne]; exact hds
          have HR0 : Hid (rgtB dd.data.toList = false) := by show _ = _; exact hr0
          clear hr0
          go_wp2_with fail
          go_loopw [8, 9] (fun r i wr => ∃ (k : Nat) (b : Bool), k ≤ dd.size ∧ r = .bool b ∧ i = .int .i64 (k : Int) ∧ Hid (b = (false && (dd.data.toList.take k).all (cDg.contains ·))) ∧ wr = w.alloc (.cells #[.int .u8 0, .int .i64 0, .int .i64 0, .string ⟨#[]⟩, .int .i64 0] 50)) (fun _ i _ => dd.size - (intOf i).toNat)
          case atStart => exact ⟨0, false, Nat.zero_le _, by first | rfl | simp [*], rfl, (by show _ = _; simp), rfl⟩
          case round =>
            obtain ⟨k, b, hk, rfl, rfl, HB, rfl⟩ := hrel
            by_cases hkl : k < dd.size
            · have hj1 : (k : Int) < (dd.size : Int) := by omega
              have hj0 : (0 : Int) ≤ (k : Int) := by omega
              have HTk := Hid.mk (Pl.take_snoc dd k hkl)
              cases b with
              | true =>
                have h := HB.out
                rw [Bool.false_and] at h
                cases h
              | false =>
                have HBn : Hid (false = (false && (dd.data.toList.take (k + 1)).all (cDg.contains ·))) := by show _ = _; rw [HTk.out, List.all_append, ← Bool.and_assoc, ← HB.out]; rfl
                go_wp2_with fail
                go_roundw
                case rel => exact ⟨k + 1, false, by omega, rfl, by go_num, HBn, by first | rfl | trivial⟩
                case measure => simp [intOf]; omega
            · obtain rfl : k = dd.size := by omega
              have hj1 : ¬ (dd.size : Int) < (dd.size : Int) := by omega
              have hB : Pl.formed (numT (cut l p s.size)) = b := by rw [formed_numT, ← HDL.out, HR0.out, HB.out, List.take_of_length_le (by rw [size_lst]; omega)]
              cases b with
              | false =>
                have HT : Hid (numeralT l p = ⟨0, p, 0, [], 42⟩) := by show _ = _; unfold numeralT; rw [HBE.out, if_neg (by rw [hB]; decide)]
                clear hB
                go_wp2_with fail
                (try simp only [Exit.inBlock, Exit.then])
                refine bodyPost_ret (v := .agg #[.int .u8 0, .int .i64 (p : Int), .int .i64 (p : Int), .string ⟨#[]⟩, .int .i64 42]) (by simp [results, Tryz.results28, go_sem]) rfl ?_
                exact ⟨below1 w _, by rw [HT.out]; exact .inr ⟨(by show (42 : Nat) ≠ 0; decide), 0, rfl⟩⟩
              | true =>
                have h := HB.out
                rw [Bool.false_and] at h
                cases h
        have hr0 : rgtB dd.data.toList = true := rgt3 hdp (by omega)
        have hcb : (((dd[0].toNat : Nat) : Int) == 48) = false := by rw [beq_eq_false_iff_ne]; exact hc
        have HR0 : Hid (rgtB dd.data.toList = true) := by show _ = _; exact hr0
        clear hr0
        go_wp2_with fail
        go_loopw [8, 9] (fun r i wr => ∃ (k : Nat) (b : Bool), k ≤ dd.size ∧ r = .bool b ∧ i = .int .i64 (k : Int) ∧ Hid (b = (true && (dd.data.toList.take k).all (cDg.contains ·))) ∧ wr = w.alloc (.cells #[.int .u8 0, .int .i64 0, .int .i64 0, .string ⟨#[]⟩, .int .i64 0] 50)) (fun _ i _ => dd.size - (intOf i).toNat)
        case atStart => exact ⟨0, true, Nat.zero_le _, by first | rfl | simp [*], rfl, (by show _ = _; simp), rfl⟩
        case round =>
          obtain ⟨k, b, hk, rfl, rfl, HB, rfl⟩ := hrel
          by_cases hkl : k < dd.size
          · have hj1 : (k : Int) < (dd.size : Int) := by omega
            have hj0 : (0 : Int) ≤ (k : Int) := by omega
            have HTk := Hid.mk (Pl.take_snoc dd k hkl)
            cases b with
            | true =>
              have hd := fun u => w_5digit dd[k] u
              cases h2 : cDg.contains dd[k] with
              | true =>
                rw [h2] at hd
                have HD := Hid.mk hd
                have HBn : Hid (true = (true && (dd.data.toList.take (k + 1)).all (cDg.contains ·))) := by show _ = _; rw [HTk.out, List.all_append, ← Bool.and_assoc, ← HB.out]; show true = (true && (cDg.contains dd[k] && true)); rw [h2]; rfl
                clear h2 hd
                go_wp2_with fail
                refine (HD.out _).mono ?_
                rintro e w1 ⟨rfl, rfl⟩
                go_wp2_with fail
                go_roundw
                case rel => exact ⟨k + 1, true, by omega, rfl, by go_num, HBn, by first | rfl | trivial⟩
                case measure => simp [intOf]; omega
              | false =>
                rw [h2] at hd
                have HD := Hid.mk hd
                have HBn : Hid (false = (true && (dd.data.toList.take (k + 1)).all (cDg.contains ·))) := by show _ = _; rw [HTk.out, List.all_append, ← Bool.and_assoc, ← HB.out]; show false = (true && (cDg.contains dd[k] && true)); rw [h2]; rfl
                clear h2 hd
                go_wp2_with fail
                refine (HD.out _).mono ?_
                rintro e w1 ⟨rfl, rfl⟩
                go_wp2_with fail
                go_roundw
                case rel => exact ⟨k + 1, false, by omega, rfl, by go_num, HBn, by first | rfl | trivial⟩
                case measure => simp [intOf]; omega
            | false =>
              have HBn : Hid (false = (true && (dd.data.toList.take (k + 1)).all (cDg.contains ·))) := by show _ = _; rw [HTk.out, List.all_append, ← Bool.and_assoc, ← HB.out]; rfl
              go_wp2_with fail
              go_roundw
              case rel => exact ⟨k + 1, false, by omega, rfl, by go_num, HBn, by first | rfl | trivial⟩
              case measure => simp [intOf]; omega
          · obtain rfl : k = dd.size := by omega
            have hj1 : ¬ (dd.size : Int) < (dd.size : Int) := by omega
            have hB : Pl.formed (numT (cut l p s.size)) = b := by rw [formed_numT, ← HDL.out, HR0.out, HB.out, List.take_of_length_le (by rw [size_lst]; omega)]
            cases b with
            | false =>
              have HT : Hid (numeralT l p = ⟨0, p, 0, [], 42⟩) := by show _ = _; unfold numeralT; rw [HBE.out, if_neg (by rw [hB]; decide)]
              clear hB
              go_wp2_with fail
              (try simp only [Exit.inBlock, Exit.then])
              refine bodyPost_ret (v := .agg #[.int .u8 0, .int .i64 (p : Int), .int .i64 (p : Int), .string ⟨#[]⟩, .int .i64 42]) (by simp [results, Tryz.results28, go_sem]) rfl ?_
              exact ⟨below1 w _, by rw [HT.out]; exact .inr ⟨(by show (42 : Nat) ≠ 0; decide), 0, rfl⟩⟩
            | true =>
              by_cases hz : dd.data.toList = [48]
              · have HT : Hid (numeralT l p = ⟨10, p, s.size, [48], 0⟩) := by show _ = _; unfold numeralT; rw [HBE.out, if_pos hB, numT_48 (by rw [← HDL.out]; exact hz)]
                have hzb : (dd.toList == [48]) = true := by rw [Lib.toList_data, hz]; rfl
                clear hB hz
                go_wp2_with fail
                (try simp only [Exit.inBlock, Exit.then])
                refine bodyPost_ret (v := .agg #[.int .u8 0, .int .i64 (p : Int), .int .i64 (s.size : Int), .string ⟨#[48]⟩, .int .i64 0]) (by simp [results, Tryz.results28, go_sem]) rfl ?_
                exact ⟨below1 w _, by rw [HT.out]; exact .inl ⟨rfl, rfl⟩⟩
              · have HT : Hid (numeralT l p = ⟨10, p, s.size, x.data.toList, 0⟩) := by show _ = _; unfold numeralT; rw [HBE.out, if_pos hB, numT_not (by rw [← HDL.out]; exact hz), HXL.out]
                have hzb : (dd.toList == [48]) = false := by rw [Lib.toList_data, beq_eq_false_iff_ne]; exact hz
                clear hB hz
                go_wp2_with fail
                (try simp only [Exit.inBlock, Exit.then])
                refine bodyPost_ret (v := .agg #[.int .u8 0, .int .i64 (p : Int), .int .i64 (s.size : Int), .string x, .int .i64 0]) (by simp [results, Tryz.results28, go_sem]) rfl ?_
                exact ⟨below1 w _, by rw [HT.out]; exact .inl ⟨rfl, rfl⟩⟩
      obtain ⟨dd, hdd⟩ : ∃ dd, x = dd := ⟨_, rfl⟩
      have HDL : Hid (dd.data.toList = Pl.body (cut l p s.size)) := by show _ = _; rw [← hdd, ← hxl]; unfold Pl.body; rw [Pl.neg_of x hxs, if_neg (by rw [decide_eq_true_eq]; omega)]
      subst hdd
      clear hxl
      by_cases hd0 : x.size = 0
      · exact absurd hd0 (by omega)
      have hdp : 0 < x.size := by omega
      have hdz : (0 : Int) < (x.size : Int) := by omega
      by_cases hc : ((x[0].toNat : Nat) : Int) = 48
      · by_cases h1s : x.size = 1
        · have hr0 : rgtB x.data.toList = true := rgt1 h1s
          have hds : (x.size : Int) = 1 := by omega
          have hdsb : ((x.size : Int) == 1) = true := by rw [hds]; rfl
          have HR0 : Hid (rgtB x.data.toList = true) := by show _ = _; exact hr0
          clear hr0
          go_wp2_with fail
          go_loopw [8, 9] (fun r i wr => ∃ (k : Nat) (b : Bool), k ≤ x.size ∧ r = .bool b ∧ i = .int .i64 (k : Int) ∧ Hid (b = (true && (x.data.toList.take k).all (cDg.contains ·))) ∧ wr = w.alloc (.cells #[.int .u8 0, .int .i64 0, .int .i64 0, .string ⟨#[]⟩, .int .i64 0] 50)) (fun _ i _ => x.size - (intOf i).toNat)
          case atStart => exact ⟨0, true, Nat.zero_le _, by first | rfl | simp [*], rfl, (by show _ = _; simp), rfl⟩
          case round =>
            obtain ⟨k, b, hk, rfl, rfl, HB, rfl⟩ := hrel
            by_cases hkl : k < x.size
            · have hj1 : (k : Int) < (x.size : Int) := by omega
              have hj0 : (0 : Int) ≤ (k : Int) := by omega
              have HTk := Hid.mk (Pl.take_snoc x k hkl)
              cases b with
              | true =>
                have hd := fun u => w_5digit x[k] u
                cases h2 : cDg.contains x[k] with
                | true =>
                  rw [h2] at hd
                  have HD := Hid.mk hd
                  have HBn : Hid (true = (true && (x.data.toList.take (k + 1)).all (cDg.contains ·))) := by show _ = _; rw [HTk.out, List.all_append, ← Bool.and_assoc, ← HB.out]; show true = (true && (cDg.contains x[k] && true)); rw [h2]; rfl
                  clear h2 hd
                  go_wp2_with fail
                  refine (HD.out _).mono ?_
                  rintro e w1 ⟨rfl, rfl⟩
                  go_wp2_with fail
                  go_roundw
                  case rel => exact ⟨k + 1, true, by omega, rfl, by go_num, HBn, by first | rfl | trivial⟩
                  case measure => simp [intOf]; omega
                | false =>
                  rw [h2] at hd
                  have HD := Hid.mk hd
                  have HBn : Hid (false = (true && (x.data.toList.take (k + 1)).all (cDg.contains ·))) := by show _ = _; rw [HTk.out, List.all_append, ← Bool.and_assoc, ← HB.out]; show false = (true && (cDg.contains x[k] && true)); rw [h2]; rfl
                  clear h2 hd
                  go_wp2_with fail
                  refine (HD.out _).mono ?_
                  rintro e w1 ⟨rfl, rfl⟩
                  go_wp2_with fail
                  go_roundw
                  case rel => exact ⟨k + 1, false, by omega, rfl, by go_num, HBn, by first | rfl | trivial⟩
                  case measure => simp [intOf]; omega
              | false =>
                have HBn : Hid (false = (true && (x.data.toList.take (k + 1)).all (cDg.contains ·))) := by show _ = _; rw [HTk.out, List.all_append, ← Bool.and_assoc, ← HB.out]; rfl
                go_wp2_with fail
                go_roundw
                case rel => exact ⟨k + 1, false, by omega, rfl, by go_num, HBn, by first | rfl | trivial⟩
                case measure => simp [intOf]; omega
            · obtain rfl : k = x.size := by omega
              have hj1 : ¬ (x.size : Int) < (x.size : Int) := by omega
              have hB : Pl.formed (numT (cut l p s.size)) = b := by rw [formed_numT, ← HDL.out, HR0.out, HB.out, List.take_of_length_le (by rw [size_lst]; omega)]
              cases b with
              | false =>
                have HT : Hid (numeralT l p = ⟨0, p, 0, [], 42⟩) := by show _ = _; unfold numeralT; rw [HBE.out, if_neg (by rw [hB]; decide)]
                clear hB
                go_wp2_with fail
                (try simp only [Exit.inBlock, Exit.then])
                refine bodyPost_ret (v := .agg #[.int .u8 0, .int .i64 (p : Int), .int .i64 (p : Int), .string ⟨#[]⟩, .int .i64 42]) (by simp [results, Tryz.results28, go_sem]) rfl ?_
                exact ⟨below1 w _, by rw [HT.out]; exact .inr ⟨(by show (42 : Nat) ≠ 0; decide), 0, rfl⟩⟩
              | true =>
                by_cases hz : x.data.toList = [48]
                · have HT : Hid (numeralT l p = ⟨10, p, s.size, [48], 0⟩) := by show _ = _; unfold numeralT; rw [HBE.out, if_pos hB, numT_48 (by rw [← HDL.out]; exact hz)]
                  have hzb : (x.toList == [48]) = true := by rw [Lib.toList_data, hz]; rfl
                  clear hB hz
                  go_wp2_with fail
                  (try simp only [Exit.inBlock, Exit.then])
                  refine bodyPost_ret (v := .agg #[.int .u8 0, .int .i64 (p : Int), .int .i64 (s.size : Int), .string ⟨#[48]⟩, .int .i64 0]) (by simp [results, Tryz.results28, go_sem]) rfl ?_
                  exact ⟨below1 w _, by rw [HT.out]; exact .inl ⟨rfl, rfl⟩⟩
                · have HT : Hid (numeralT l p = ⟨10, p, s.size, x.data.toList, 0⟩) := by show _ = _; unfold numeralT; rw [HBE.out, if_pos hB, numT_not (by rw [← HDL.out]; exact hz), HXL.out]
                  have hzb : (x.toList == [48]) = false := by rw [Lib.toList_data, beq_eq_false_iff_ne]; exact hz
                  clear hB hz
                  go_wp2_with fail
                  (try simp only [Exit.inBlock, Exit.then])
                  refine bodyPost_ret (v := .agg #[.int .u8 0, .int .i64 (p : Int), .int .i64 (s.size : Int), .string x, .int .i64 0]) (by simp [results, Tryz.results28, go_sem]) rfl ?_
                  exact ⟨below1 w _, by rw [HT.out]; exact .inl ⟨rfl, rfl⟩⟩
        have hr0 : rgtB x.data.toList = false := rgt2 hdp (by omega) h1s
        have hds : ¬ (x.size : Int) = 1 := by omega
        have hdsb : ((x.size : Int) == 1) = false := by rw [beq_eq_false_iff_ne]; exact hds
        have HR0 : Hid (rgtB x.data.toList = false) := by show _ = _; exact hr0
        clear hr0
        go_wp2_with fail
        go_loopw [8, 9] (fun r i wr => ∃ (k : Nat) (b : Bool), k ≤ x.size ∧ r = .bool b ∧ i = .int .i64 (k : Int) ∧ Hid (b = (false && (x.data.toList.take k).all (cDg.contains ·))) ∧ wr = w.alloc (.cells #[.int .u8 0, .int .i64 0, .int .i64 0, .string ⟨#[]⟩, .int .i64 0] 50)) (fun _ i _ => x.size - (intOf i).toNat)
        case atStart => exact ⟨0, false, Nat.zero_le _, by first | rfl | simp [*], rfl, (by show _ = _; simp), rfl⟩
        case round =>
          obtain ⟨k, b, hk, rfl, rfl, HB, rfl⟩ := hrel
          by_cases hkl : k < x.size
          · have hj1 : (k : Int) < (x.size : Int) := by omega
            have hj0 : (0 : Int) ≤ (k : Int) := by omega
            have HTk := Hid.mk (Pl.take_snoc x k hkl)
            cases b with
            | true =>
              have h := HB.out
              rw [Bool.false_and] at h
              cases h
            | false =>
              have HBn : Hid (false = (false && (x.data.toList.take (k + 1)).all (cDg.contains ·))) := by show _ = _; rw [HTk.out, List.all_append, ← Bool.and_assoc, ← HB.out]; rfl
              go_wp2_with fail
              go_roundw
              case rel => exact ⟨k + 1, false, by omega, rfl, by go_num, HBn, by first | rfl | trivial⟩
              case measure => simp [intOf]; omega
          · obtain rfl : k = x.size := by omega
            have hj1 : ¬ (x.size : Int) < (x.size : Int) := by omega
            have hB : Pl.formed (numT (cut l p s.size)) = b := by rw [formed_numT, ← HDL.out, HR0.out, HB.out, List.take_of_length_le (by rw [size_lst]; omega)]
            cases b with
            | false =>
              have HT : Hid (numeralT l p = ⟨0, p, 0, [], 42⟩) := by show _ = _; unfold numeralT; rw [HBE.out, if_neg (by rw [hB]; decide)]
              clear hB
              go_wp2_with fail
              (try simp only [Exit.inBlock, Exit.then])
              refine bodyPost_ret (v := .agg #[.int .u8 0, .int .i64 (p : Int), .int .i64 (p : Int), .string ⟨#[]⟩, .int .i64 42]) (by simp [results, Tryz.results28, go_sem]) rfl ?_
              exact ⟨below1 w _, by rw [HT.out]; exact .inr ⟨(by show (42 : Nat) ≠ 0; decide), 0, rfl⟩⟩
            | true =>
              have h := HB.out
              rw [Bool.false_and] at h
              cases h
      have hr0 : rgtB x.data.toList = true := rgt3 hdp (by omega)
      have hcb : (((x[0].toNat : Nat) : Int) == 48) = false := by rw [beq_eq_false_iff_ne]; exact hc
      have HR0 : Hid (rgtB x.data.toList = true) := by show _ = _; exact hr0
      clear hr0
      go_wp2_with fail
      go_loopw [8, 9] (fun r i wr => ∃ (k : Nat) (b : Bool), k ≤ x.size ∧ r = .bool b ∧ i = .int .i64 (k : Int) ∧ Hid (b = (true && (x.data.toList.take k).all (cDg.contains ·))) ∧ wr = w.alloc (.cells #[.int .u8 0, .int .i64 0, .int .i64 0, .string ⟨#[]⟩, .int .i64 0] 50)) (fun _ i _ => x.size - (intOf i).toNat)
      case atStart => exact ⟨0, true, Nat.zero_le _, by first | rfl | simp [*], rfl, (by show _ = _; simp), rfl⟩
      case round =>
        obtain ⟨k, b, hk, rfl, rfl, HB, rfl⟩ := hrel
        by_cases hkl : k < x.size
        · have hj1 : (k : Int) < (x.size : Int) := by omega
          have hj0 : (0 : Int) ≤ (k : Int) := by omega
          have HTk := Hid.mk (Pl.take_snoc x k hkl)
          cases b with
          | true =>
            have hd := fun u => w_5digit x[k] u
            cases h2 : cDg.contains x[k] with
            | true =>
              rw [h2] at hd
              have HD := Hid.mk hd
              have HBn : Hid (true = (true && (x.data.toList.take (k + 1)).all (cDg.contains ·))) := by show _ = _; rw [HTk.out, List.all_append, ← Bool.and_assoc, ← HB.out]; show true = (true && (cDg.contains x[k] && true)); rw [h2]; rfl
              clear h2 hd
              go_wp2_with fail
              refine (HD.out _).mono ?_
              rintro e w1 ⟨rfl, rfl⟩
              go_wp2_with fail
              go_roundw
              case rel => exact ⟨k + 1, true, by omega, rfl, by go_num, HBn, by first | rfl | trivial⟩
              case measure => simp [intOf]; omega
            | false =>
              rw [h2] at hd
              have HD := Hid.mk hd
              have HBn : Hid (false = (true && (x.data.toList.take (k + 1)).all (cDg.contains ·))) := by show _ = _; rw [HTk.out, List.all_append, ← Bool.and_assoc, ← HB.out]; show false = (true && (cDg.contains x[k] && true)); rw [h2]; rfl
              clear h2 hd
              go_wp2_with fail
              refine (HD.out _).mono ?_
              rintro e w1 ⟨rfl, rfl⟩
              go_wp2_with fail
              go_roundw
              case rel => exact ⟨k + 1, false, by omega, rfl, by go_num, HBn, by first | rfl | trivial⟩
              case measure => simp [intOf]; omega
          | false =>
            have HBn : Hid (false = (true && (x.data.toList.take (k + 1)).all (cDg.contains ·))) := by show _ = _; rw [HTk.out, List.all_append, ← Bool.and_assoc, ← HB.out]; rfl
            go_wp2_with fail
            go_roundw
            case rel => exact ⟨k + 1, false, by omega, rfl, by go_num, HBn, by first | rfl | trivial⟩
            case measure => simp [intOf]; omega
        · obtain rfl : k = x.size := by omega
          have hj1 : ¬ (x.size : Int) < (x.size : Int) := by omega
          have hB : Pl.formed (numT (cut l p s.size)) = b := by rw [formed_numT, ← HDL.out, HR0.out, HB.out, List.take_of_length_le (by rw [size_lst]; omega)]
          cases b with
          | false =>
            have HT : Hid (numeralT l p = ⟨0, p, 0, [], 42⟩) := by show _ = _; unfold numeralT; rw [HBE.out, if_neg (by rw [hB]; decide)]
            clear hB
            go_wp2_with fail
            (try simp only [Exit.inBlock, Exit.then])
            refine bodyPost_ret (v := .agg #[.int .u8 0, .int .i64 (p : Int), .int .i64 (p : Int), .string ⟨#[]⟩, .int .i64 42]) (by simp [results, Tryz.results28, go_sem]) rfl ?_
            exact ⟨below1 w _, by rw [HT.out]; exact .inr ⟨(by show (42 : Nat) ≠ 0; decide), 0, rfl⟩⟩
          | true =>
            by_cases hz : x.data.toList = [48]
            · have HT : Hid (numeralT l p = ⟨10, p, s.size, [48], 0⟩) := by show _ = _; unfold numeralT; rw [HBE.out, if_pos hB, numT_48 (by rw [← HDL.out]; exact hz)]
              have hzb : (x.toList == [48]) = true := by rw [Lib.toList_data, hz]; rfl
              clear hB hz
              go_wp2_with fail
              (try simp only [Exit.inBlock, Exit.then])
              refine bodyPost_ret (v := .agg #[.int .u8 0, .int .i64 (p : Int), .int .i64 (s.size : Int), .string ⟨#[48]⟩, .int .i64 0]) (by simp [results, Tryz.results28, go_sem]) rfl ?_
              exact ⟨below1 w _, by rw [HT.out]; exact .inl ⟨rfl, rfl⟩⟩
            · have HT : Hid (numeralT l p = ⟨10, p, s.size, x.data.toList, 0⟩) := by show _ = _; unfold numeralT; rw [HBE.out, if_pos hB, numT_not (by rw [← HDL.out]; exact hz), HXL.out]
              have hzb : (x.toList == [48]) = false := by rw [Lib.toList_data, beq_eq_false_iff_ne]; exact hz
              clear hB hz
              go_wp2_with fail
              (try simp only [Exit.inBlock, Exit.then])
              refine bodyPost_ret (v := .agg #[.int .u8 0, .int .i64 (p : Int), .int .i64 (s.size : Int), .string x, .int .i64 0]) (by simp [results, Tryz.results28, go_sem]) rfl ?_
              exact ⟨below1 w _, by rw [HT.out]; exact .inl ⟨rfl, rfl⟩⟩
end Go.Proofs.YtfgfgcecbodjeaaGreatDoor
