import Derived.Test.YtcbngdkekdhfeaaGreatDoorM27
import Derived.Test.YtcbngdkekdhfeaaGreatDoorM25
namespace Go.Proofs.YtcbngdkekdhfeaaGreatDoor
open Go.RowKit
set_option linter.unusedVariables false
set_option linter.unusedSimpArgs false

set_option maxRecDepth 100000 in
set_option maxHeartbeats 3200000 in
theorem w_5Next_m0 (s : ByteArray) (p : Nat) (w : World) (hp : p ≤ s.size) (hs : s.size ≤ 1048576) (hlt0 : behL s.data.toList p cBl < s.data.toList.length) (hcc : (s.data.toList.getD (behL s.data.toList p cBl) 0).toNat = 123) :
    Calls Tryz.prog 26 #[.string s, .int .i64 (p : Int)] w fun e w' => Below w.heap.size w w' ∧ Nx5 s.data.toList p e := by
  obtain ⟨l, hl⟩ : ∃ l, l = s.data.toList := ⟨_, rfl⟩
  have HL : Hid (l.length = s.size) := by show _ = _; rw [hl]; exact size_lst s
  have HG : Hid (∀ q (h : q < s.size), l.getD q 0 = s[q]) := fun q h => by rw [hl]; exact getD_byte h
  have HLT : Hid (behL l p cBl < l.length) := by show _ < _; rw [hl]; exact hlt0
  clear hlt0
  have HCC : Hid ((l.getD (behL l p cBl) 0).toNat = 123) := by show _ = _; rw [hl]; exact hcc
  clear hcc
  rw [← hl]
  clear hl
  go_enter Tryz.func26, Tryz.ntmps26
  go_wp2_with fail
  go_loopw [1] (fun a wr => ∃ q : Nat, q ≤ s.size ∧ a = .int .i64 (q : Int) ∧ Hid (behL l p cBl = behL l q cBl) ∧ wr = w.alloc (.cells #[.int .u8 0, .int .i64 0, .int .i64 0, .string ⟨#[]⟩, .int .i64 0] 69)) (fun a _ => s.size - (intOf a).toNat)
  case atStart => exact ⟨p, hp, rfl, rfl, rfl⟩
  case round =>
    obtain ⟨q, hq, rfl, HQ, rfl⟩ := hrel
    by_cases hlt : q < s.size
    · have hi1 : (q : Int) < (s.size : Int) := by omega
      have hi0 : (0 : Int) ≤ (q : Int) := by omega
      have hi2 : ¬ (s.size : Int) ≤ (q : Int) := by omega
      have hbl := fun u => w_5blank s[q] u
      have hst := beh_step (l := l) (p := q) (cs := cBl) (by rw [HL.out]; exact hlt)
      have hsp := beh_stop (l := l) (p := q) (cs := cBl) (by rw [HL.out]; exact hlt)
      rw [HG.out q hlt] at hst hsp
      cases h1 : cBl.contains s[q] with
      | true =>
        rw [h1] at hbl hst
        have HBl := Hid.mk hbl
        have HST := Hid.mk (hst rfl)
        clear hst hsp hbl h1
        go_wp2_with fail
        refine (HBl.out _).mono ?_
        rintro e w1 ⟨rfl, rfl⟩
        go_wp2_with fail
        go_roundw
        case rel => exact ⟨q + 1, by omega, by go_num, HQ.out.trans HST.out, by first | rfl | trivial⟩
        case measure => simp [intOf]; omega
      | false =>
        rw [h1] at hbl hsp
        have HBE : Hid (behL l p cBl = q) := HQ.out.trans (hsp rfl)
        have HQL : Hid (q < l.length) := by show _ < _; rw [HL.out]; exact hlt
        have hgd := HG.out q hlt
        clear hst hsp h1 HQ
        have hcc := HCC.out
        rw [HBE.out, hgd] at hcc
        have HT : Hid (nextT l q = ⟨1, q, q + 1, [], 0⟩) := by
          show _ = _
          unfold nextT
          have hc : mkN s[q] = 1 := by rw [mk_tab]; rw [if_pos (by omega)]
          have hm : cMk.contains s[q] = true := (mk_pos s[q]).1 (by omega)
          rw [hgd, if_pos hm]
          have : (1 + Lib.indexByte cMk s[q]).toNat = 1 := by unfold mkN at hc; rw [if_pos hm] at hc; exact hc
          rw [this]
        have hx : ((s[q].toNat : Nat) : Int) = 123 := by omega
        rw [hx] at hbl
        have HBl := Hid.mk hbl
        clear hgd hcc hbl
        go_wp2_with fail
        refine (HBl.out _).mono ?_
        rintro e w1 ⟨rfl, rfl⟩
        go_wp2_with fail
        (try simp only [Exit.inBlock, Exit.then])
        refine bodyPost_ret (v := .agg #[.int .u8 123, .int .i64 (q : Int), .int .i64 ((q : Int) + 1), .string ⟨#[]⟩, .int .i64 0]) (by simp [results, Tryz.results26, go_sem]) rfl ?_
        exact ⟨below1 w _, nx5_in HBE.out HQL.out (by rw [HT.out]; exact .inl ⟨rfl, rfl⟩)⟩
    · obtain rfl : q = s.size := by omega
      have hi1 : ¬ (s.size : Int) < (s.size : Int) := by omega
      have HBE : Hid (behL l p cBl = s.size) := by show _ = _; rw [HQ.out, beh_end (by rw [HL.out]; omega), HL.out]
      clear HQ
      exact absurd HLT.out (by have h1 := HBE.out; have h2 := HL.out; omega)

set_option maxRecDepth 100000 in
set_option maxHeartbeats 3200000 in
theorem w_5Next_m1 (s : ByteArray) (p : Nat) (w : World) (hp : p ≤ s.size) (hs : s.size ≤ 1048576) (hlt0 : behL s.data.toList p cBl < s.data.toList.length) (hcc : (s.data.toList.getD (behL s.data.toList p cBl) 0).toNat = 125) :
    Calls Tryz.prog 26 #[.string s, .int .i64 (p : Int)] w fun e w' => Below w.heap.size w w' ∧ Nx5 s.data.toList p e := by
  obtain ⟨l, hl⟩ : ∃ l, l = s.data.toList := ⟨_, rfl⟩
  have HL : Hid (l.length = s.size) := by show _ = _; rw [hl]; exact size_lst s
  have HG : Hid (∀ q (h : q < s.size), l.getD q 0 = s[q]) := fun q h => by rw [hl]; exact getD_byte h
  have HLT : Hid (behL l p cBl < l.length) := by show _ < _; rw [hl]; exact hlt0
  clear hlt0
  have HCC : Hid ((l.getD (behL l p cBl) 0).toNat = 125) := by show _ = _; rw [hl]; exact hcc
  clear hcc
  rw [← hl]
  clear hl
  go_enter Tryz.func26, Tryz.ntmps26
  go_wp2_with fail
  go_loopw [1] (fun a wr => ∃ q : Nat, q ≤ s.size ∧ a = .int .i64 (q : Int) ∧ Hid (behL l p cBl = behL l q cBl) ∧ wr = w.alloc (.cells #[.int .u8 0, .int .i64 0, .int .i64 0, .string ⟨#[]⟩, .int .i64 0] 69)) (fun a _ => s.size - (intOf a).toNat)
  case atStart => exact ⟨p, hp, rfl, rfl, rfl⟩
  case round =>
    obtain ⟨q, hq, rfl, HQ, rfl⟩ := hrel
    by_cases hlt : q < s.size
    · have hi1 : (q : Int) < (s.size : Int) := by omega
      have hi0 : (0 : Int) ≤ (q : Int) := by omega
      have hi2 : ¬ (s.size : Int) ≤ (q : Int) := by omega
      have hbl := fun u => w_5blank s[q] u
      have hst := beh_step (l := l) (p := q) (cs := cBl) (by rw [HL.out]; exact hlt)
      have hsp := beh_stop (l := l) (p := q) (cs := cBl) (by rw [HL.out]; exact hlt)
      rw [HG.out q hlt] at hst hsp
      cases h1 : cBl.contains s[q] with
      | true =>
        rw [h1] at hbl hst
        have HBl := Hid.mk hbl
        have HST := Hid.mk (hst rfl)
        clear hst hsp hbl h1
        go_wp2_with fail
        refine (HBl.out _).mono ?_
        rintro e w1 ⟨rfl, rfl⟩
        go_wp2_with fail
        go_roundw
        case rel => exact ⟨q + 1, by omega, by go_num, HQ.out.trans HST.out, by first | rfl | trivial⟩
        case measure => simp [intOf]; omega
      | false =>
        rw [h1] at hbl hsp
        have HBE : Hid (behL l p cBl = q) := HQ.out.trans (hsp rfl)
        have HQL : Hid (q < l.length) := by show _ < _; rw [HL.out]; exact hlt
        have hgd := HG.out q hlt
        clear hst hsp h1 HQ
        have hcc := HCC.out
        rw [HBE.out, hgd] at hcc
        have HT : Hid (nextT l q = ⟨2, q, q + 1, [], 0⟩) := by
          show _ = _
          unfold nextT
          have hc : mkN s[q] = 2 := by rw [mk_tab]; rw [if_neg (by omega)]; rw [if_pos (by omega)]
          have hm : cMk.contains s[q] = true := (mk_pos s[q]).1 (by omega)
          rw [hgd, if_pos hm]
          have : (1 + Lib.indexByte cMk s[q]).toNat = 2 := by unfold mkN at hc; rw [if_pos hm] at hc; exact hc
          rw [this]
        have hx : ((s[q].toNat : Nat) : Int) = 125 := by omega
        rw [hx] at hbl
        have HBl := Hid.mk hbl
        clear hgd hcc hbl
        go_wp2_with fail
        refine (HBl.out _).mono ?_
        rintro e w1 ⟨rfl, rfl⟩
        go_wp2_with fail
        (try simp only [Exit.inBlock, Exit.then])
        refine bodyPost_ret (v := .agg #[.int .u8 125, .int .i64 (q : Int), .int .i64 ((q : Int) + 1), .string ⟨#[]⟩, .int .i64 0]) (by simp [results, Tryz.results26, go_sem]) rfl ?_
        exact ⟨below1 w _, nx5_in HBE.out HQL.out (by rw [HT.out]; exact .inl ⟨rfl, rfl⟩)⟩
    · obtain rfl : q = s.size := by omega
      have hi1 : ¬ (s.size : Int) < (s.size : Int) := by omega
      have HBE : Hid (behL l p cBl = s.size) := by show _ = _; rw [HQ.out, beh_end (by rw [HL.out]; omega), HL.out]
      clear HQ
      exact absurd HLT.out (by have h1 := HBE.out; have h2 := HL.out; omega)

set_option maxRecDepth 100000 in
set_option maxHeartbeats 3200000 in
theorem w_5Next_m2 (s : ByteArray) (p : Nat) (w : World) (hp : p ≤ s.size) (hs : s.size ≤ 1048576) (hlt0 : behL s.data.toList p cBl < s.data.toList.length) (hcc : (s.data.toList.getD (behL s.data.toList p cBl) 0).toNat = 91) :
    Calls Tryz.prog 26 #[.string s, .int .i64 (p : Int)] w fun e w' => Below w.heap.size w w' ∧ Nx5 s.data.toList p e := by
  obtain ⟨l, hl⟩ : ∃ l, l = s.data.toList := ⟨_, rfl⟩
  have HL : Hid (l.length = s.size) := by show _ = _; rw [hl]; exact size_lst s
  have HG : Hid (∀ q (h : q < s.size), l.getD q 0 = s[q]) := fun q h => by rw [hl]; exact getD_byte h
  have HLT : Hid (behL l p cBl < l.length) := by show _ < _; rw [hl]; exact hlt0
  clear hlt0
  have HCC : Hid ((l.getD (behL l p cBl) 0).toNat = 91) := by show _ = _; rw [hl]; exact hcc
  clear hcc
  rw [← hl]
  clear hl
  go_enter Tryz.func26, Tryz.ntmps26
  go_wp2_with fail
  go_loopw [1] (fun a wr => ∃ q : Nat, q ≤ s.size ∧ a = .int .i64 (q : Int) ∧ Hid (behL l p cBl = behL l q cBl) ∧ wr = w.alloc (.cells #[.int .u8 0, .int .i64 0, .int .i64 0, .string ⟨#[]⟩, .int .i64 0] 69)) (fun a _ => s.size - (intOf a).toNat)
  case atStart => exact ⟨p, hp, rfl, rfl, rfl⟩
  case round =>
    obtain ⟨q, hq, rfl, HQ, rfl⟩ := hrel
    by_cases hlt : q < s.size
    · have hi1 : (q : Int) < (s.size : Int) := by omega
      have hi0 : (0 : Int) ≤ (q : Int) := by omega
      have hi2 : ¬ (s.size : Int) ≤ (q : Int) := by omega
      have hbl := fun u => w_5blank s[q] u
      have hst := beh_step (l := l) (p := q) (cs := cBl) (by rw [HL.out]; exact hlt)
      have hsp := beh_stop (l := l) (p := q) (cs := cBl) (by rw [HL.out]; exact hlt)
      rw [HG.out q hlt] at hst hsp
      cases h1 : cBl.contains s[q] with
      | true =>
        rw [h1] at hbl hst
        have HBl := Hid.mk hbl
        have HST := Hid.mk (hst rfl)
        clear hst hsp hbl h1
        go_wp2_with fail
        refine (HBl.out _).mono ?_
        rintro e w1 ⟨rfl, rfl⟩
        go_wp2_with fail
        go_roundw
        case rel => exact ⟨q + 1, by omega, by go_num, HQ.out.trans HST.out, by first | rfl | trivial⟩
        case measure => simp [intOf]; omega
      | false =>
        rw [h1] at hbl hsp
        have HBE : Hid (behL l p cBl = q) := HQ.out.trans (hsp rfl)
        have HQL : Hid (q < l.length) := by show _ < _; rw [HL.out]; exact hlt
        have hgd := HG.out q hlt
        clear hst hsp h1 HQ
        have hcc := HCC.out
        rw [HBE.out, hgd] at hcc
        have HT : Hid (nextT l q = ⟨3, q, q + 1, [], 0⟩) := by
          show _ = _
          unfold nextT
          have hc : mkN s[q] = 3 := by rw [mk_tab]; rw [if_neg (by omega)]; rw [if_neg (by omega)]; rw [if_pos (by omega)]
          have hm : cMk.contains s[q] = true := (mk_pos s[q]).1 (by omega)
          rw [hgd, if_pos hm]
          have : (1 + Lib.indexByte cMk s[q]).toNat = 3 := by unfold mkN at hc; rw [if_pos hm] at hc; exact hc
          rw [this]
        have hx : ((s[q].toNat : Nat) : Int) = 91 := by omega
        rw [hx] at hbl
        have HBl := Hid.mk hbl
        clear hgd hcc hbl
        go_wp2_with fail
        refine (HBl.out _).mono ?_
        rintro e w1 ⟨rfl, rfl⟩
        go_wp2_with fail
        (try simp only [Exit.inBlock, Exit.then])
        refine bodyPost_ret (v := .agg #[.int .u8 91, .int .i64 (q : Int), .int .i64 ((q : Int) + 1), .string ⟨#[]⟩, .int .i64 0]) (by simp [results, Tryz.results26, go_sem]) rfl ?_
        exact ⟨below1 w _, nx5_in HBE.out HQL.out (by rw [HT.out]; exact .inl ⟨rfl, rfl⟩)⟩
    · obtain rfl : q = s.size := by omega
      have hi1 : ¬ (s.size : Int) < (s.size : Int) := by omega
      have HBE : Hid (behL l p cBl = s.size) := by show _ = _; rw [HQ.out, beh_end (by rw [HL.out]; omega), HL.out]
      clear HQ
      exact absurd HLT.out (by have h1 := HBE.out; have h2 := HL.out; omega)

end Go.Proofs.YtcbngdkekdhfeaaGreatDoor
namespace Go.Proofs.YtcbngdkekdhfeaaGreatDoor
open Go.RowKit
set_option linter.unusedVariables false
set_option linter.unusedSimpArgs false

set_option maxRecDepth 100000 in
set_option maxHeartbeats 3200000 in
theorem w_5Next_m3 (s : ByteArray) (p : Nat) (w : World) (hp : p ≤ s.size) (hs : s.size ≤ 1048576) (hlt0 : behL s.data.toList p cBl < s.data.toList.length) (hcc : (s.data.toList.getD (behL s.data.toList p cBl) 0).toNat = 93) :
    Calls Tryz.prog 26 #[.string s, .int .i64 (p : Int)] w fun e w' => Below w.heap.size w w' ∧ Nx5 s.data.toList p e := by
  obtain ⟨l, hl⟩ : ∃ l, l = s.data.toList := ⟨_, rfl⟩
  have HL : Hid (l.length = s.size) := by show _ = _; rw [hl]; exact size_lst s
  have HG : Hid (∀ q (h : q < s.size), l.getD q 0 = s[q]) := fun q h => by rw [hl]; exact getD_byte h
  have HLT : Hid (behL l p cBl < l.length) := by show _ < _; rw [hl]; exact hlt0
  clear hlt0
  have HCC : Hid ((l.getD (behL l p cBl) 0).toNat = 93) := by show _ = _; rw [hl]; exact hcc
  clear hcc
  rw [← hl]
  clear hl
  go_enter Tryz.func26, Tryz.ntmps26
  go_wp2_with fail
  go_loopw [1] (fun a wr => ∃ q : Nat, q ≤ s.size ∧ a = .int .i64 (q : Int) ∧ Hid (behL l p cBl = behL l q cBl) ∧ wr = w.alloc (.cells #[.int .u8 0, .int .i64 0, .int .i64 0, .string ⟨#[]⟩, .int .i64 0] 69)) (fun a _ => s.size - (intOf a).toNat)
  case atStart => exact ⟨p, hp, rfl, rfl, rfl⟩
  case round =>
    obtain ⟨q, hq, rfl, HQ, rfl⟩ := hrel
    by_cases hlt : q < s.size
    · have hi1 : (q : Int) < (s.size : Int) := by omega
      have hi0 : (0 : Int) ≤ (q : Int) := by omega
      have hi2 : ¬ (s.size : Int) ≤ (q : Int) := by omega
      have hbl := fun u => w_5blank s[q] u
      have hst := beh_step (l := l) (p := q) (cs := cBl) (by rw [HL.out]; exact hlt)
      have hsp := beh_stop (l := l) (p := q) (cs := cBl) (by rw [HL.out]; exact hlt)
      rw [HG.out q hlt] at hst hsp
      cases h1 : cBl.contains s[q] with
      | true =>
        rw [h1] at hbl hst
        have HBl := Hid.mk hbl
        have HST := Hid.mk (hst rfl)
        clear hst hsp hbl h1
        go_wp2_with fail
        refine (HBl.out _).mono ?_
        rintro e w1 ⟨rfl, rfl⟩
        go_wp2_with fail
        go_roundw
        case rel => exact ⟨q + 1, by omega, by go_num, HQ.out.trans HST.out, by first | rfl | trivial⟩
        case measure => simp [intOf]; omega
      | false =>
        rw [h1] at hbl hsp
        have HBE : Hid (behL l p cBl = q) := HQ.out.trans (hsp rfl)
        have HQL : Hid (q < l.length) := by show _ < _; rw [HL.out]; exact hlt
        have hgd := HG.out q hlt
        clear hst hsp h1 HQ
        have hcc := HCC.out
        rw [HBE.out, hgd] at hcc
        have HT : Hid (nextT l q = ⟨4, q, q + 1, [], 0⟩) := by
          show _ = _
          unfold nextT
          have hc : mkN s[q] = 4 := by rw [mk_tab]; rw [if_neg (by omega)]; rw [if_neg (by omega)]; rw [if_neg (by omega)]; rw [if_pos (by omega)]
          have hm : cMk.contains s[q] = true := (mk_pos s[q]).1 (by omega)
          rw [hgd, if_pos hm]
          have : (1 + Lib.indexByte cMk s[q]).toNat = 4 := by unfold mkN at hc; rw [if_pos hm] at hc; exact hc
          rw [this]
        have hx : ((s[q].toNat : Nat) : Int) = 93 := by omega
        rw [hx] at hbl
        have HBl := Hid.mk hbl
        clear hgd hcc hbl
        go_wp2_with fail
        refine (HBl.out _).mono ?_
        rintro e w1 ⟨rfl, rfl⟩
        go_wp2_with fail
        (try simp only [Exit.inBlock, Exit.then])
        refine bodyPost_ret (v := .agg #[.int .u8 93, .int .i64 (q : Int), .int .i64 ((q : Int) + 1), .string ⟨#[]⟩, .int .i64 0]) (by simp [results, Tryz.results26, go_sem]) rfl ?_
        exact ⟨below1 w _, nx5_in HBE.out HQL.out (by rw [HT.out]; exact .inl ⟨rfl, rfl⟩)⟩
    · obtain rfl : q = s.size := by omega
      have hi1 : ¬ (s.size : Int) < (s.size : Int) := by omega
      have HBE : Hid (behL l p cBl = s.size) := by show _ = _; rw [HQ.out, beh_end (by rw [HL.out]; omega), HL.out]
      clear HQ
      exact absurd HLT.out (by have h1 := HBE.out; have h2 := HL.out; omega)

set_option maxRecDepth 100000 in
set_option maxHeartbeats 3200000 in
theorem w_5Next_m4 (s : ByteArray) (p : Nat) (w : World) (hp : p ≤ s.size) (hs : s.size ≤ 1048576) (hlt0 : behL s.data.toList p cBl < s.data.toList.length) (hcc : (s.data.toList.getD (behL s.data.toList p cBl) 0).toNat = 58) :
    Calls Tryz.prog 26 #[.string s, .int .i64 (p : Int)] w fun e w' => Below w.heap.size w w' ∧ Nx5 s.data.toList p e := by
  obtain ⟨l, hl⟩ : ∃ l, l = s.data.toList := ⟨_, rfl⟩
  have HL : Hid (l.length = s.size) := by show _ = _; rw [hl]; exact size_lst s
  have HG : Hid (∀ q (h : q < s.size), l.getD q 0 = s[q]) := fun q h => by rw [hl]; exact getD_byte h
  have HLT : Hid (behL l p cBl < l.length) := by show _ < _; rw [hl]; exact hlt0
  clear hlt0
  have HCC : Hid ((l.getD (behL l p cBl) 0).toNat = 58) := by show _ = _; rw [hl]; exact hcc
  clear hcc
  rw [← hl]
  clear hl
  go_enter Tryz.func26, Tryz.ntmps26
  go_wp2_with fail
  go_loopw [1] (fun a wr => ∃ q : Nat, q ≤ s.size ∧ a = .int .i64 (q : Int) ∧ Hid (behL l p cBl = behL l q cBl) ∧ wr = w.alloc (.cells #[.int .u8 0, .int .i64 0, .int .i64 0, .string ⟨#[]⟩, .int .i64 0] 69)) (fun a _ => s.size - (intOf a).toNat)
  case atStart => exact ⟨p, hp, rfl, rfl, rfl⟩
  case round =>
    obtain ⟨q, hq, rfl, HQ, rfl⟩ := hrel
    by_cases hlt : q < s.size
    · have hi1 : (q : Int) < (s.size : Int) := by omega
      have hi0 : (0 : Int) ≤ (q : Int) := by omega
      have hi2 : ¬ (s.size : Int) ≤ (q : Int) := by omega
      have hbl := fun u => w_5blank s[q] u
      have hst := beh_step (l := l) (p := q) (cs := cBl) (by rw [HL.out]; exact hlt)
      have hsp := beh_stop (l := l) (p := q) (cs := cBl) (by rw [HL.out]; exact hlt)
      rw [HG.out q hlt] at hst hsp
      cases h1 : cBl.contains s[q] with
      | true =>
        rw [h1] at hbl hst
        have HBl := Hid.mk hbl
        have HST := Hid.mk (hst rfl)
        clear hst hsp hbl h1
        go_wp2_with fail
        refine (HBl.out _).mono ?_
        rintro e w1 ⟨rfl, rfl⟩
        go_wp2_with fail
        go_roundw
        case rel => exact ⟨q + 1, by omega, by go_num, HQ.out.trans HST.out, by first | rfl | trivial⟩
        case measure => simp [intOf]; omega
      | false =>
        rw [h1] at hbl hsp
        have HBE : Hid (behL l p cBl = q) := HQ.out.trans (hsp rfl)
        have HQL : Hid (q < l.length) := by show _ < _; rw [HL.out]; exact hlt
        have hgd := HG.out q hlt
        clear hst hsp h1 HQ
        have hcc := HCC.out
        rw [HBE.out, hgd] at hcc
        have HT : Hid (nextT l q = ⟨5, q, q + 1, [], 0⟩) := by
          show _ = _
          unfold nextT
          have hc : mkN s[q] = 5 := by rw [mk_tab]; rw [if_neg (by omega)]; rw [if_neg (by omega)]; rw [if_neg (by omega)]; rw [if_neg (by omega)]; rw [if_pos (by omega)]
          have hm : cMk.contains s[q] = true := (mk_pos s[q]).1 (by omega)
          rw [hgd, if_pos hm]
          have : (1 + Lib.indexByte cMk s[q]).toNat = 5 := by unfold mkN at hc; rw [if_pos hm] at hc; exact hc
          rw [this]
        have hx : ((s[q].toNat : Nat) : Int) = 58 := by omega
        rw [hx] at hbl
        have HBl := Hid.mk hbl
        clear hgd hcc hbl
        go_wp2_with fail
        refine (HBl.out _).mono ?_
        rintro e w1 ⟨rfl, rfl⟩
        go_wp2_with fail
        (try simp only [Exit.inBlock, Exit.then])
        refine bodyPost_ret (v := .agg #[.int .u8 58, .int .i64 (q : Int), .int .i64 ((q : Int) + 1), .string ⟨#[]⟩, .int .i64 0]) (by simp [results, Tryz.results26, go_sem]) rfl ?_
        exact ⟨below1 w _, nx5_in HBE.out HQL.out (by rw [HT.out]; exact .inl ⟨rfl, rfl⟩)⟩
    · obtain rfl : q = s.size := by omega
      have hi1 : ¬ (s.size : Int) < (s.size : Int) := by omega
      have HBE : Hid (behL l p cBl = s.size) := by show _ = _; rw [HQ.out, beh_end (by rw [HL.out]; omega), HL.out]
      clear HQ
      exact absurd HLT.out (by have h1 := HBE.out; have h2 := HL.out; omega)

set_option maxRecDepth 100000 in
set_option maxHeartbeats 3200000 in
theorem w_5Next_m5 (s : ByteArray) (p : Nat) (w : World) (hp : p ≤ s.size) (hs : s.size ≤ 1048576) (hlt0 : behL s.data.toList p cBl < s.data.toList.length) (hcc : (s.data.toList.getD (behL s.data.toList p cBl) 0).toNat = 44) :
    Calls Tryz.prog 26 #[.string s, .int .i64 (p : Int)] w fun e w' => Below w.heap.size w w' ∧ Nx5 s.data.toList p e := by
  obtain ⟨l, hl⟩ : ∃ l, l = s.data.toList := ⟨_, rfl⟩
  have HL : Hid (l.length = s.size) := by show _ = _; rw [hl]; exact size_lst s
  have HG : Hid (∀ q (h : q < s.size), l.getD q 0 = s[q]) := fun q h => by rw [hl]; exact getD_byte h
  have HLT : Hid (behL l p cBl < l.length) := by show _ < _; rw [hl]; exact hlt0
  clear hlt0
  have HCC : Hid ((l.getD (behL l p cBl) 0).toNat = 44) := by show _ = _; rw [hl]; exact hcc
  clear hcc
  rw [← hl]
  clear hl
  go_enter Tryz.func26, Tryz.ntmps26
  go_wp2_with fail
  go_loopw [1] (fun a wr => ∃ q : Nat, q ≤ s.size ∧ a = .int .i64 (q : Int) ∧ Hid (behL l p cBl = behL l q cBl) ∧ wr = w.alloc (.cells #[.int .u8 0, .int .i64 0, .int .i64 0, .string ⟨#[]⟩, .int .i64 0] 69)) (fun a _ => s.size - (intOf a).toNat)
  case atStart => exact ⟨p, hp, rfl, rfl, rfl⟩
  case round =>
    obtain ⟨q, hq, rfl, HQ, rfl⟩ := hrel
    by_cases hlt : q < s.size
    · have hi1 : (q : Int) < (s.size : Int) := by omega
      have hi0 : (0 : Int) ≤ (q : Int) := by omega
      have hi2 : ¬ (s.size : Int) ≤ (q : Int) := by omega
      have hbl := fun u => w_5blank s[q] u
      have hst := beh_step (l := l) (p := q) (cs := cBl) (by rw [HL.out]; exact hlt)
      have hsp := beh_stop (l := l) (p := q) (cs := cBl) (by rw [HL.out]; exact hlt)
      rw [HG.out q hlt] at hst hsp
      cases h1 : cBl.contains s[q] with
      | true =>
        rw [h1] at hbl hst
        have HBl := Hid.mk hbl
        have HST := Hid.mk (hst rfl)
        clear hst hsp hbl h1
        go_wp2_with fail
        refine (HBl.out _).mono ?_
        rintro e w1 ⟨rfl, rfl⟩
        go_wp2_with fail
        go_roundw
        case rel => exact ⟨q + 1, by omega, by go_num, HQ.out.trans HST.out, by first | rfl | trivial⟩
        case measure => simp [intOf]; omega
      | false =>
        rw [h1] at hbl hsp
        have HBE : Hid (behL l p cBl = q) := HQ.out.trans (hsp rfl)
        have HQL : Hid (q < l.length) := by show _ < _; rw [HL.out]; exact hlt
        have hgd := HG.out q hlt
        clear hst hsp h1 HQ
        have hcc := HCC.out
        rw [HBE.out, hgd] at hcc
        have HT : Hid (nextT l q = ⟨6, q, q + 1, [], 0⟩) := by
          show _ = _
          unfold nextT
          have hc : mkN s[q] = 6 := by rw [mk_tab]; rw [if_neg (by omega)]; rw [if_neg (by omega)]; rw [if_neg (by omega)]; rw [if_neg (by omega)]; rw [if_neg (by omega)]; rw [if_pos (by omega)]
          have hm : cMk.contains s[q] = true := (mk_pos s[q]).1 (by omega)
          rw [hgd, if_pos hm]
          have : (1 + Lib.indexByte cMk s[q]).toNat = 6 := by unfold mkN at hc; rw [if_pos hm] at hc; exact hc
          rw [this]
        have hx : ((s[q].toNat : Nat) : Int) = 44 := by omega
        rw [hx] at hbl
        have HBl := Hid.mk hbl
        clear hgd hcc hbl
        go_wp2_with fail
        refine (HBl.out _).mono ?_
        rintro e w1 ⟨rfl, rfl⟩
        go_wp2_with fail
        (try simp only [Exit.inBlock, Exit.then])
        refine bodyPost_ret (v := .agg #[.int .u8 44, .int .i64 (q : Int), .int .i64 ((q : Int) + 1), .string ⟨#[]⟩, .int .i64 0]) (by simp [results, Tryz.results26, go_sem]) rfl ?_
        exact ⟨below1 w _, nx5_in HBE.out HQL.out (by rw [HT.out]; exact .inl ⟨rfl, rfl⟩)⟩
    · obtain rfl : q = s.size := by omega
      have hi1 : ¬ (s.size : Int) < (s.size : Int) := by omega
      have HBE : Hid (behL l p cBl = s.size) := by show _ = _; rw [HQ.out, beh_end (by rw [HL.out]; omega), HL.out]
      clear HQ
      exact absurd HLT.out (by have h1 := HBE.out; have h2 := HL.out; omega)

set_option maxRecDepth 100000 in
set_option maxHeartbeats 3200000 in
theorem w_5Next_end (s : ByteArray) (p : Nat) (w : World) (hp : p ≤ s.size) (hs : s.size ≤ 1048576) (hlt0 : ¬ behL s.data.toList p cBl < s.data.toList.length) :
    Calls Tryz.prog 26 #[.string s, .int .i64 (p : Int)] w fun e w' => Below w.heap.size w w' ∧ Nx5 s.data.toList p e := by
  obtain ⟨l, hl⟩ : ∃ l, l = s.data.toList := ⟨_, rfl⟩
  have HL : Hid (l.length = s.size) := by show _ = _; rw [hl]; exact size_lst s
  have HG : Hid (∀ q (h : q < s.size), l.getD q 0 = s[q]) := fun q h => by rw [hl]; exact getD_byte h
  have HLT : Hid (¬ behL l p cBl < l.length) := by show ¬ _ < _; rw [hl]; exact hlt0
  clear hlt0
  rw [← hl]
  clear hl
  go_enter Tryz.func26, Tryz.ntmps26
  go_wp2_with fail
  go_loopw [1] (fun a wr => ∃ q : Nat, q ≤ s.size ∧ a = .int .i64 (q : Int) ∧ Hid (behL l p cBl = behL l q cBl) ∧ wr = w.alloc (.cells #[.int .u8 0, .int .i64 0, .int .i64 0, .string ⟨#[]⟩, .int .i64 0] 69)) (fun a _ => s.size - (intOf a).toNat)
  case atStart => exact ⟨p, hp, rfl, rfl, rfl⟩
  case round =>
    obtain ⟨q, hq, rfl, HQ, rfl⟩ := hrel
    by_cases hlt : q < s.size
    · have hi1 : (q : Int) < (s.size : Int) := by omega
      have hi0 : (0 : Int) ≤ (q : Int) := by omega
      have hi2 : ¬ (s.size : Int) ≤ (q : Int) := by omega
      have hbl := fun u => w_5blank s[q] u
      have hst := beh_step (l := l) (p := q) (cs := cBl) (by rw [HL.out]; exact hlt)
      have hsp := beh_stop (l := l) (p := q) (cs := cBl) (by rw [HL.out]; exact hlt)
      rw [HG.out q hlt] at hst hsp
      cases h1 : cBl.contains s[q] with
      | true =>
        rw [h1] at hbl hst
        have HBl := Hid.mk hbl
        have HST := Hid.mk (hst rfl)
        clear hst hsp hbl h1
        go_wp2_with fail
        refine (HBl.out _).mono ?_
        rintro e w1 ⟨rfl, rfl⟩
        go_wp2_with fail
        go_roundw
        case rel => exact ⟨q + 1, by omega, by go_num, HQ.out.trans HST.out, by first | rfl | trivial⟩
        case measure => simp [intOf]; omega
      | false =>
        rw [h1] at hbl hsp
        have HBE : Hid (behL l p cBl = q) := HQ.out.trans (hsp rfl)
        have HQL : Hid (q < l.length) := by show _ < _; rw [HL.out]; exact hlt
        have hgd := HG.out q hlt
        clear hst hsp h1 HQ
        exact absurd HQL.out (by rw [← HBE.out]; exact HLT.out)
    · obtain rfl : q = s.size := by omega
      have hi1 : ¬ (s.size : Int) < (s.size : Int) := by omega
      have HBE : Hid (behL l p cBl = s.size) := by show _ = _; rw [HQ.out, beh_end (by rw [HL.out]; omega), HL.out]
      clear HQ
      go_wp2_with fail
      (try simp only [Exit.inBlock, Exit.then])
      refine bodyPost_ret (v := .agg #[.int .u8 36, .int .i64 (s.size : Int), .int .i64 (s.size : Int), .string ⟨#[]⟩, .int .i64 0]) (by simp [results, Tryz.results26, go_sem]) rfl ?_
      exact ⟨below1 w _, .inl ⟨by rw [HBE.out, HL.out]; omega, by rw [HL.out]; rfl⟩⟩

end Go.Proofs.YtcbngdkekdhfeaaGreatDoor
namespace Go.Proofs.YtcbngdkekdhfeaaGreatDoor
open Go.RowKit
set_option linter.unusedVariables false
set_option linter.unusedSimpArgs false

set_option maxRecDepth 100000 in
set_option maxHeartbeats 3200000 in
theorem w_5Next_lit0 (s : ByteArray) (p : Nat) (w : World) (hp : p ≤ s.size) (hs : s.size ≤ 1048576) (hlt0 : behL s.data.toList p cBl < s.data.toList.length) (hnm : cMk.contains (s.data.toList.getD (behL s.data.toList p cBl) 0) = false) (hq34 : (s.data.toList.getD (behL s.data.toList p cBl) 0) = 34) (hc0 : (unqL s.data.toList (behL s.data.toList p cBl + 1) []).2.2 = 0) :
    Calls Tryz.prog 26 #[.string s, .int .i64 (p : Int)] w fun e w' => Below w.heap.size w w' ∧ Nx5 s.data.toList p e := by
  obtain ⟨l, hl⟩ : ∃ l, l = s.data.toList := ⟨_, rfl⟩
  have HL : Hid (l.length = s.size) := by show _ = _; rw [hl]; exact size_lst s
  have HG : Hid (∀ q (h : q < s.size), l.getD q 0 = s[q]) := fun q h => by rw [hl]; exact getD_byte h
  have HLT : Hid (behL l p cBl < l.length) := by show _ < _; rw [hl]; exact hlt0
  clear hlt0
  have HNM : Hid (cMk.contains (l.getD (behL l p cBl) 0) = false) := by show _ = _; rw [hl]; exact hnm
  clear hnm
  have HQ34 : Hid ((l.getD (behL l p cBl) 0) = 34) := by show _ = _; rw [hl]; exact hq34
  clear hq34
  have HU : Hid (∀ (q : Nat) (u : World) (hq : q < s.size), s[q] = 34 → Calls Tryz.prog 43 #[.string s, .int .i64 (q : Int)] u fun e w' => UnqX (unqL l (q + 1) []) u w' e) := fun q u hq h => by rw [hl]; exact w_rUnquote s q u hq hs h
  have HC0 : Hid ((unqL l (behL l p cBl + 1) []).2.2 = 0) := by show _ = _; rw [hl]; exact hc0
  clear hc0
  rw [← hl]
  clear hl
  go_enter Tryz.func26, Tryz.ntmps26
  go_wp2_with fail
  go_loopw [1] (fun a wr => ∃ q : Nat, q ≤ s.size ∧ a = .int .i64 (q : Int) ∧ Hid (behL l p cBl = behL l q cBl) ∧ wr = w.alloc (.cells #[.int .u8 0, .int .i64 0, .int .i64 0, .string ⟨#[]⟩, .int .i64 0] 69)) (fun a _ => s.size - (intOf a).toNat)
  case atStart => exact ⟨p, hp, rfl, rfl, rfl⟩
  case round =>
    obtain ⟨q, hq, rfl, HQ, rfl⟩ := hrel
    by_cases hlt : q < s.size
    · have hi1 : (q : Int) < (s.size : Int) := by omega
      have hi0 : (0 : Int) ≤ (q : Int) := by omega
      have hi2 : ¬ (s.size : Int) ≤ (q : Int) := by omega
      have hbl := fun u => w_5blank s[q] u
      have hst := beh_step (l := l) (p := q) (cs := cBl) (by rw [HL.out]; exact hlt)
      have hsp := beh_stop (l := l) (p := q) (cs := cBl) (by rw [HL.out]; exact hlt)
      rw [HG.out q hlt] at hst hsp
      cases h1 : cBl.contains s[q] with
      | true =>
        rw [h1] at hbl hst
        have HBl := Hid.mk hbl
        have HST := Hid.mk (hst rfl)
        clear hst hsp hbl h1
        go_wp2_with fail
        refine (HBl.out _).mono ?_
        rintro e w1 ⟨rfl, rfl⟩
        go_wp2_with fail
        go_roundw
        case rel => exact ⟨q + 1, by omega, by go_num, HQ.out.trans HST.out, by first | rfl | trivial⟩
        case measure => simp [intOf]; omega
      | false =>
        rw [h1] at hbl hsp
        have HBE : Hid (behL l p cBl = q) := HQ.out.trans (hsp rfl)
        have HQL : Hid (q < l.length) := by show _ < _; rw [HL.out]; exact hlt
        have hgd := HG.out q hlt
        clear hst hsp h1 HQ
        have hnm := HNM.out
        rw [HBE.out, hgd] at hnm
        have hmt := mk_tab s[q]
        have hmz : mkN s[q] = 0 := by unfold mkN; rw [if_neg (by rw [hnm]; decide)]
        rw [hmz] at hmt
        obtain ⟨x, hx⟩ : ∃ x : Int, ((s[q].toNat : Nat) : Int) = x := ⟨_, rfl⟩
        have m0 : ¬ x = 123 := fun h => by rw [if_pos (by omega)] at hmt; omega
        have m1 : ¬ x = 125 := fun h => by rw [if_neg (by omega), if_pos (by omega)] at hmt; omega
        have m2 : ¬ x = 91 := fun h => by rw [if_neg (by omega), if_neg (by omega), if_pos (by omega)] at hmt; omega
        have m3 : ¬ x = 93 := fun h => by rw [if_neg (by omega), if_neg (by omega), if_neg (by omega), if_pos (by omega)] at hmt; omega
        have m4 : ¬ x = 58 := fun h => by rw [if_neg (by omega), if_neg (by omega), if_neg (by omega), if_neg (by omega), if_pos (by omega)] at hmt; omega
        have m5 : ¬ x = 44 := fun h => by rw [if_neg (by omega), if_neg (by omega), if_neg (by omega), if_neg (by omega), if_neg (by omega), if_pos (by omega)] at hmt; omega
        clear hmt hmz
        have nb0 : (x == 123) = false := by rw [beq_eq_false_iff_ne]; exact m0
        have nb1 : (x == 125) = false := by rw [beq_eq_false_iff_ne]; exact m1
        have nb2 : (x == 91) = false := by rw [beq_eq_false_iff_ne]; exact m2
        have nb3 : (x == 93) = false := by rw [beq_eq_false_iff_ne]; exact m3
        have nb4 : (x == 58) = false := by rw [beq_eq_false_iff_ne]; exact m4
        have nb5 : (x == 44) = false := by rw [beq_eq_false_iff_ne]; exact m5
        have hs34 := HQ34.out
        rw [HBE.out, hgd] at hs34
        have HUq := Hid.mk (fun u => HU.out q u hlt hs34)
        have HT : Hid (nextT l q = litT l q) := by show _ = _; unfold nextT; rw [hgd, if_neg (by rw [hnm]; decide), if_pos hs34]
        have hqt : x = 34 := by rw [← hx, hs34]; rfl
        rw [hx, hqt] at hbl
        rw [hqt] at hx
        have HBl := Hid.mk hbl
        have HCD := HC0.out
        rw [HBE.out] at HCD
        clear hnm hgd hs34 hqt m0 m1 m2 m3 m4 m5 hbl nb0 nb1 nb2 nb3 nb4 nb5
        unfold litT at HT
        obtain ⟨R, hR⟩ : ∃ R, unqL l (q + 1) [] = R := ⟨_, rfl⟩
        rw [hR] at HUq HT HCD
        obtain ⟨A, z, cd⟩ := R
        clear hR
        unfold UnqX at HUq
        dsimp only at HUq HT HCD
        obtain ⟨T, hT⟩ : ∃ T, txt A = T := ⟨_, rfl⟩
        rw [hT] at HUq HT
        clear hT
        subst HCD
        rw [if_pos rfl] at HT
        go_wp2_with fail
        refine (HBl.out _).mono ?_
        rintro e w1 ⟨rfl, rfl⟩
        go_wp2_with fail
        refine (HUq.out _).mono ?_
        rintro e w1 ⟨rfl, hb1⟩
        have hbx : w1.heap[w.heap.size]? = some (.cells #[.int .u8 0, .int .i64 0, .int .i64 0, .string ⟨#[]⟩, .int .i64 0] 69 (0, 0)) := (hb1.block _ (by simp)).trans (heap_alloc_new w _)
        obtain ⟨c0, c1, c2, c3, c4, f0, f1, f2, f3, f4⟩ := vbox_cells hbx
        have HX := Hid.mk hbx
        have HB1 : Hid (Below w.heap.size w w1) := (below1 w _).trans (hb1.mono (by simp))
        clear hb1 hbx
        go_wp2_with fail
        (try simp only [Exit.inBlock, Exit.then])
        generalize hz : ((((w1.setCell ⟨w.heap.size, 0, none⟩ (.int .u8 34)).setCell ⟨w.heap.size, 1, none⟩ (.int .i64 (q : Int))).setCell ⟨w.heap.size, 2, none⟩ (.int .i64 (z : Int))).setCell ⟨w.heap.size, 3, none⟩ (.string ⟨T.toArray⟩)).setCell ⟨w.heap.size, 4, none⟩ (.int .i64 0) = wz
        obtain ⟨e5, k5, s5⟩ := rbox_set5 w1 _ _ _ _ _ _ _ _ _ _ _ _ HX.out wz hz.symm
        obtain ⟨d0, d1, d2, d3, d4, _⟩ := vbox_cells e5
        have hbz : Below w.heap.size w wz := by rw [← hz]; exact ((((HB1.out.setCell (p := ⟨w.heap.size, 0, none⟩) (Nat.le_refl _) _).setCell (p := ⟨w.heap.size, 1, none⟩) (Nat.le_refl _) _).setCell (p := ⟨w.heap.size, 2, none⟩) (Nat.le_refl _) _).setCell (p := ⟨w.heap.size, 3, none⟩) (Nat.le_refl _) _).setCell (p := ⟨w.heap.size, 4, none⟩) (Nat.le_refl _) _
        refine bodyPost_ret (v := .agg #[.int .u8 34, .int .i64 (q : Int), .int .i64 (z : Int), .string ⟨T.toArray⟩, .int .i64 0]) (by simp [results, Tryz.results26, go_sem, d0, d1, d2, d3, d4]) rfl ?_
        exact ⟨hbz, nx5_in HBE.out HQL.out (by rw [HT.out]; exact .inl ⟨rfl, rfl⟩)⟩
    · obtain rfl : q = s.size := by omega
      have hi1 : ¬ (s.size : Int) < (s.size : Int) := by omega
      have HBE : Hid (behL l p cBl = s.size) := by show _ = _; rw [HQ.out, beh_end (by rw [HL.out]; omega), HL.out]
      clear HQ
      exact absurd HLT.out (by have h1 := HBE.out; have h2 := HL.out; omega)

set_option maxRecDepth 100000 in
set_option maxHeartbeats 3200000 in
theorem w_5Next_lit1 (s : ByteArray) (p : Nat) (w : World) (hp : p ≤ s.size) (hs : s.size ≤ 1048576) (hlt0 : behL s.data.toList p cBl < s.data.toList.length) (hnm : cMk.contains (s.data.toList.getD (behL s.data.toList p cBl) 0) = false) (hq34 : (s.data.toList.getD (behL s.data.toList p cBl) 0) = 34) (hc0 : ¬ (unqL s.data.toList (behL s.data.toList p cBl + 1) []).2.2 = 0) :
    Calls Tryz.prog 26 #[.string s, .int .i64 (p : Int)] w fun e w' => Below w.heap.size w w' ∧ Nx5 s.data.toList p e := by
  obtain ⟨l, hl⟩ : ∃ l, l = s.data.toList := ⟨_, rfl⟩
  have HL : Hid (l.length = s.size) := by show _ = _; rw [hl]; exact size_lst s
  have HG : Hid (∀ q (h : q < s.size), l.getD q 0 = s[q]) := fun q h => by rw [hl]; exact getD_byte h
  have HLT : Hid (behL l p cBl < l.length) := by show _ < _; rw [hl]; exact hlt0
  clear hlt0
  have HNM : Hid (cMk.contains (l.getD (behL l p cBl) 0) = false) := by show _ = _; rw [hl]; exact hnm
  clear hnm
  have HQ34 : Hid ((l.getD (behL l p cBl) 0) = 34) := by show _ = _; rw [hl]; exact hq34
  clear hq34
  have HU : Hid (∀ (q : Nat) (u : World) (hq : q < s.size), s[q] = 34 → Calls Tryz.prog 43 #[.string s, .int .i64 (q : Int)] u fun e w' => UnqX (unqL l (q + 1) []) u w' e) := fun q u hq h => by rw [hl]; exact w_rUnquote s q u hq hs h
  have HC0 : Hid (¬ (unqL l (behL l p cBl + 1) []).2.2 = 0) := by show ¬ _ = _; rw [hl]; exact hc0
  clear hc0
  rw [← hl]
  clear hl
  go_enter Tryz.func26, Tryz.ntmps26
  go_wp2_with fail
  go_loopw [1] (fun a wr => ∃ q : Nat, q ≤ s.size ∧ a = .int .i64 (q : Int) ∧ Hid (behL l p cBl = behL l q cBl) ∧ wr = w.alloc (.cells #[.int .u8 0, .int .i64 0, .int .i64 0, .string ⟨#[]⟩, .int .i64 0] 69)) (fun a _ => s.size - (intOf a).toNat)
  case atStart => exact ⟨p, hp, rfl, rfl, rfl⟩
  case round =>
    obtain ⟨q, hq, rfl, HQ, rfl⟩ := hrel
    by_cases hlt : q < s.size
    · have hi1 : (q : Int) < (s.size : Int) := by omega
      have hi0 : (0 : Int) ≤ (q : Int) := by omega
      have hi2 : ¬ (s.size : Int) ≤ (q : Int) := by omega
      have hbl := fun u => w_5blank s[q] u
      have hst := beh_step (l := l) (p := q) (cs := cBl) (by rw [HL.out]; exact hlt)
      have hsp := beh_stop (l := l) (p := q) (cs := cBl) (by rw [HL.out]; exact hlt)
      rw [HG.out q hlt] at hst hsp
      cases h1 : cBl.contains s[q] with
      | true =>
        rw [h1] at hbl hst
        have HBl := Hid.mk hbl
        have HST := Hid.mk (hst rfl)
        clear hst hsp hbl h1
        go_wp2_with fail
        refine (HBl.out _).mono ?_
        rintro e w1 ⟨rfl, rfl⟩
        go_wp2_with fail
        go_roundw
        case rel => exact ⟨q + 1, by omega, by go_num, HQ.out.trans HST.out, by first | rfl | trivial⟩
        case measure => simp [intOf]; omega
      | false =>
        rw [h1] at hbl hsp
        have HBE : Hid (behL l p cBl = q) := HQ.out.trans (hsp rfl)
        have HQL : Hid (q < l.length) := by show _ < _; rw [HL.out]; exact hlt
        have hgd := HG.out q hlt
        clear hst hsp h1 HQ
        have hnm := HNM.out
        rw [HBE.out, hgd] at hnm
        have hmt := mk_tab s[q]
        have hmz : mkN s[q] = 0 := by unfold mkN; rw [if_neg (by rw [hnm]; decide)]
        rw [hmz] at hmt
        obtain ⟨x, hx⟩ : ∃ x : Int, ((s[q].toNat : Nat) : Int) = x := ⟨_, rfl⟩
        have m0 : ¬ x = 123 := fun h => by rw [if_pos (by omega)] at hmt; omega
        have m1 : ¬ x = 125 := fun h => by rw [if_neg (by omega), if_pos (by omega)] at hmt; omega
        have m2 : ¬ x = 91 := fun h => by rw [if_neg (by omega), if_neg (by omega), if_pos (by omega)] at hmt; omega
        have m3 : ¬ x = 93 := fun h => by rw [if_neg (by omega), if_neg (by omega), if_neg (by omega), if_pos (by omega)] at hmt; omega
        have m4 : ¬ x = 58 := fun h => by rw [if_neg (by omega), if_neg (by omega), if_neg (by omega), if_neg (by omega), if_pos (by omega)] at hmt; omega
        have m5 : ¬ x = 44 := fun h => by rw [if_neg (by omega), if_neg (by omega), if_neg (by omega), if_neg (by omega), if_neg (by omega), if_pos (by omega)] at hmt; omega
        clear hmt hmz
        have nb0 : (x == 123) = false := by rw [beq_eq_false_iff_ne]; exact m0
        have nb1 : (x == 125) = false := by rw [beq_eq_false_iff_ne]; exact m1
        have nb2 : (x == 91) = false := by rw [beq_eq_false_iff_ne]; exact m2
        have nb3 : (x == 93) = false := by rw [beq_eq_false_iff_ne]; exact m3
        have nb4 : (x == 58) = false := by rw [beq_eq_false_iff_ne]; exact m4
        have nb5 : (x == 44) = false := by rw [beq_eq_false_iff_ne]; exact m5
        have hs34 := HQ34.out
        rw [HBE.out, hgd] at hs34
        have HUq := Hid.mk (fun u => HU.out q u hlt hs34)
        have HT : Hid (nextT l q = litT l q) := by show _ = _; unfold nextT; rw [hgd, if_neg (by rw [hnm]; decide), if_pos hs34]
        have hqt : x = 34 := by rw [← hx, hs34]; rfl
        rw [hx, hqt] at hbl
        rw [hqt] at hx
        have HBl := Hid.mk hbl
        have HCD := HC0.out
        rw [HBE.out] at HCD
        clear hnm hgd hs34 hqt m0 m1 m2 m3 m4 m5 hbl nb0 nb1 nb2 nb3 nb4 nb5
        unfold litT at HT
        obtain ⟨R, hR⟩ : ∃ R, unqL l (q + 1) [] = R := ⟨_, rfl⟩
        rw [hR] at HUq HT HCD
        obtain ⟨A, z, cd⟩ := R
        clear hR
        unfold UnqX at HUq
        dsimp only at HUq HT HCD
        obtain ⟨T, hT⟩ : ∃ T, txt A = T := ⟨_, rfl⟩
        rw [hT] at HUq HT
        clear hT
        rw [if_neg HCD] at HT
        have hb : (((cd : Nat) : Int) == 0) = false := by rw [beq_eq_false_iff_ne]; omega
        have HC := Hid.mk HCD
        clear HCD
        go_wp2_with fail
        refine (HBl.out _).mono ?_
        rintro e w1 ⟨rfl, rfl⟩
        go_wp2_with fail
        refine (HUq.out _).mono ?_
        rintro e w1 ⟨rfl, hb1⟩
        have hbx : w1.heap[w.heap.size]? = some (.cells #[.int .u8 0, .int .i64 0, .int .i64 0, .string ⟨#[]⟩, .int .i64 0] 69 (0, 0)) := (hb1.block _ (by simp)).trans (heap_alloc_new w _)
        obtain ⟨c0, c1, c2, c3, c4, f0, f1, f2, f3, f4⟩ := vbox_cells hbx
        have HX := Hid.mk hbx
        have HB1 : Hid (Below w.heap.size w w1) := (below1 w _).trans (hb1.mono (by simp))
        clear hb1 hbx
        go_wp2_with fail
        (try simp only [Exit.inBlock, Exit.then])
        generalize hz : ((((w1.setCell ⟨w.heap.size, 0, none⟩ (.int .u8 34)).setCell ⟨w.heap.size, 1, none⟩ (.int .i64 (z : Int))).setCell ⟨w.heap.size, 2, none⟩ (.int .i64 (z : Int))).setCell ⟨w.heap.size, 3, none⟩ (.string ⟨#[]⟩)).setCell ⟨w.heap.size, 4, none⟩ (.int .i64 (cd : Int)) = wz
        obtain ⟨e5, k5, s5⟩ := rbox_set5 w1 _ _ _ _ _ _ _ _ _ _ _ _ HX.out wz hz.symm
        obtain ⟨d0, d1, d2, d3, d4, _⟩ := vbox_cells e5
        have hbz : Below w.heap.size w wz := by rw [← hz]; exact ((((HB1.out.setCell (p := ⟨w.heap.size, 0, none⟩) (Nat.le_refl _) _).setCell (p := ⟨w.heap.size, 1, none⟩) (Nat.le_refl _) _).setCell (p := ⟨w.heap.size, 2, none⟩) (Nat.le_refl _) _).setCell (p := ⟨w.heap.size, 3, none⟩) (Nat.le_refl _) _).setCell (p := ⟨w.heap.size, 4, none⟩) (Nat.le_refl _) _
        refine bodyPost_ret (v := .agg #[.int .u8 34, .int .i64 (z : Int), .int .i64 (z : Int), .string ⟨#[]⟩, .int .i64 (cd : Int)]) (by simp [results, Tryz.results26, go_sem, d0, d1, d2, d3, d4]) rfl ?_
        exact ⟨hbz, nx5_in HBE.out HQL.out (by rw [HT.out]; exact .inr ⟨HC.out, 34, rfl⟩)⟩
    · obtain rfl : q = s.size := by omega
      have hi1 : ¬ (s.size : Int) < (s.size : Int) := by omega
      have HBE : Hid (behL l p cBl = s.size) := by show _ = _; rw [HQ.out, beh_end (by rw [HL.out]; omega), HL.out]
      clear HQ
      exact absurd HLT.out (by have h1 := HBE.out; have h2 := HL.out; omega)

end Go.Proofs.YtcbngdkekdhfeaaGreatDoor
namespace Go.Proofs.YtcbngdkekdhfeaaGreatDoor
open Go.RowKit
set_option linter.unusedVariables false
set_option linter.unusedSimpArgs false

set_option maxRecDepth 100000 in
set_option maxHeartbeats 3200000 in
theorem w_5Next_word (s : ByteArray) (p : Nat) (w : World) (hp : p ≤ s.size) (hs : s.size ≤ 1048576) (hlt0 : behL s.data.toList p cBl < s.data.toList.length) (hnm : cMk.contains (s.data.toList.getD (behL s.data.toList p cBl) 0) = false) (hq34 : ¬ (s.data.toList.getD (behL s.data.toList p cBl) 0) = 34) (hle0 : cLe.contains (s.data.toList.getD (behL s.data.toList p cBl) 0) = true) :
    Calls Tryz.prog 26 #[.string s, .int .i64 (p : Int)] w fun e w' => Below w.heap.size w w' ∧ Nx5 s.data.toList p e := by
  obtain ⟨l, hl⟩ : ∃ l, l = s.data.toList := ⟨_, rfl⟩
  have HL : Hid (l.length = s.size) := by show _ = _; rw [hl]; exact size_lst s
  have HG : Hid (∀ q (h : q < s.size), l.getD q 0 = s[q]) := fun q h => by rw [hl]; exact getD_byte h
  have HLT : Hid (behL l p cBl < l.length) := by show _ < _; rw [hl]; exact hlt0
  clear hlt0
  have HNM : Hid (cMk.contains (l.getD (behL l p cBl) 0) = false) := by show _ = _; rw [hl]; exact hnm
  clear hnm
  have HQ34 : Hid (¬ (l.getD (behL l p cBl) 0) = 34) := by show ¬ _ = _; rw [hl]; exact hq34
  clear hq34
  have HLE0 : Hid (cLe.contains (l.getD (behL l p cBl) 0) = true) := by show _ = _; rw [hl]; exact hle0
  clear hle0
  have HWd : Hid (∀ (q : Nat) (u : World) (hq : q < s.size), Calls Tryz.prog 45 #[.string s, .int .i64 (q : Int)] u fun e w' => Below u.heap.size u w' ∧ PcT (wordT l q) e) := fun q u hq => by rw [hl]; exact w_5word s q u hq (by omega)
  rw [← hl]
  clear hl
  go_enter Tryz.func26, Tryz.ntmps26
  go_wp2_with fail
  go_loopw [1] (fun a wr => ∃ q : Nat, q ≤ s.size ∧ a = .int .i64 (q : Int) ∧ Hid (behL l p cBl = behL l q cBl) ∧ wr = w.alloc (.cells #[.int .u8 0, .int .i64 0, .int .i64 0, .string ⟨#[]⟩, .int .i64 0] 69)) (fun a _ => s.size - (intOf a).toNat)
  case atStart => exact ⟨p, hp, rfl, rfl, rfl⟩
  case round =>
    obtain ⟨q, hq, rfl, HQ, rfl⟩ := hrel
    by_cases hlt : q < s.size
    · have hi1 : (q : Int) < (s.size : Int) := by omega
      have hi0 : (0 : Int) ≤ (q : Int) := by omega
      have hi2 : ¬ (s.size : Int) ≤ (q : Int) := by omega
      have hbl := fun u => w_5blank s[q] u
      have hst := beh_step (l := l) (p := q) (cs := cBl) (by rw [HL.out]; exact hlt)
      have hsp := beh_stop (l := l) (p := q) (cs := cBl) (by rw [HL.out]; exact hlt)
      rw [HG.out q hlt] at hst hsp
      cases h1 : cBl.contains s[q] with
      | true =>
        rw [h1] at hbl hst
        have HBl := Hid.mk hbl
        have HST := Hid.mk (hst rfl)
        clear hst hsp hbl h1
        go_wp2_with fail
        refine (HBl.out _).mono ?_
        rintro e w1 ⟨rfl, rfl⟩
        go_wp2_with fail
        go_roundw
        case rel => exact ⟨q + 1, by omega, by go_num, HQ.out.trans HST.out, by first | rfl | trivial⟩
        case measure => simp [intOf]; omega
      | false =>
        rw [h1] at hbl hsp
        have HBE : Hid (behL l p cBl = q) := HQ.out.trans (hsp rfl)
        have HQL : Hid (q < l.length) := by show _ < _; rw [HL.out]; exact hlt
        have hgd := HG.out q hlt
        clear hst hsp h1 HQ
        have hnm := HNM.out
        rw [HBE.out, hgd] at hnm
        have hmt := mk_tab s[q]
        have hmz : mkN s[q] = 0 := by unfold mkN; rw [if_neg (by rw [hnm]; decide)]
        rw [hmz] at hmt
        obtain ⟨x, hx⟩ : ∃ x : Int, ((s[q].toNat : Nat) : Int) = x := ⟨_, rfl⟩
        have m0 : ¬ x = 123 := fun h => by rw [if_pos (by omega)] at hmt; omega
        have m1 : ¬ x = 125 := fun h => by rw [if_neg (by omega), if_pos (by omega)] at hmt; omega
        have m2 : ¬ x = 91 := fun h => by rw [if_neg (by omega), if_neg (by omega), if_pos (by omega)] at hmt; omega
        have m3 : ¬ x = 93 := fun h => by rw [if_neg (by omega), if_neg (by omega), if_neg (by omega), if_pos (by omega)] at hmt; omega
        have m4 : ¬ x = 58 := fun h => by rw [if_neg (by omega), if_neg (by omega), if_neg (by omega), if_neg (by omega), if_pos (by omega)] at hmt; omega
        have m5 : ¬ x = 44 := fun h => by rw [if_neg (by omega), if_neg (by omega), if_neg (by omega), if_neg (by omega), if_neg (by omega), if_pos (by omega)] at hmt; omega
        clear hmt hmz
        have nb0 : (x == 123) = false := by rw [beq_eq_false_iff_ne]; exact m0
        have nb1 : (x == 125) = false := by rw [beq_eq_false_iff_ne]; exact m1
        have nb2 : (x == 91) = false := by rw [beq_eq_false_iff_ne]; exact m2
        have nb3 : (x == 93) = false := by rw [beq_eq_false_iff_ne]; exact m3
        have nb4 : (x == 58) = false := by rw [beq_eq_false_iff_ne]; exact m4
        have nb5 : (x == 44) = false := by rw [beq_eq_false_iff_ne]; exact m5
        have hs34 := HQ34.out
        rw [HBE.out, hgd] at hs34
        have hlx := HLE0.out
        rw [HBE.out, hgd] at hlx
        have hqt : ¬ x = 34 := fun h => hs34 (by apply UInt8.toNat_inj.1; show s[q].toNat = 34; omega)
        have nbq : (x == 34) = false := by rw [beq_eq_false_iff_ne]; exact hqt
        have hle := fun u => w_5letter s[q] u
        rw [hlx] at hle
        have HWq := Hid.mk (fun u => HWd.out q u hlt)
        have HT : Hid (nextT l q = wordT l q) := by show _ = _; unfold nextT; rw [hgd, if_neg (by rw [hnm]; decide), if_neg hs34, if_pos hlx]
        rw [hx] at hbl hle
        have HBl := Hid.mk hbl
        have HLE := Hid.mk hle
        clear hnm hgd hs34 hle hlx hbl
        go_wp2_with fail
        refine (HBl.out _).mono ?_
        rintro e w1 ⟨rfl, rfl⟩
        go_wp2_with fail
        refine (HLE.out _).mono ?_
        rintro e w1 ⟨rfl, rfl⟩
        go_wp2_with fail
        refine (HWq.out _).mono ?_
        rintro e w1 ⟨hb1, ht⟩
        obtain ⟨k, a, z, tx, cd, rfl⟩ : ∃ k a z tx cd, e = .returned (pc5 k a z tx cd) := by
          rcases ht with ⟨_, h⟩ | ⟨_, sg, h⟩
          · exact ⟨_, _, _, _, _, h⟩
          · exact ⟨_, _, _, _, _, h⟩
        have HTT := Hid.mk ht
        clear ht
        unfold pc5
        have hbx : w1.heap[w.heap.size]? = some (.cells #[.int .u8 0, .int .i64 0, .int .i64 0, .string ⟨#[]⟩, .int .i64 0] 69 (0, 0)) := (hb1.block _ (by simp)).trans (heap_alloc_new w _)
        obtain ⟨c0, c1, c2, c3, c4, f0, f1, f2, f3, f4⟩ := vbox_cells hbx
        have HX := Hid.mk hbx
        have HB1 : Hid (Below w.heap.size w w1) := (below1 w _).trans (hb1.mono (by simp))
        clear hb1 hbx
        go_wp2_with fail
        (try simp only [Exit.inBlock, Exit.then])
        generalize hz : ((((w1.setCell ⟨w.heap.size, 0, none⟩ (.int .u8 (k : Int))).setCell ⟨w.heap.size, 1, none⟩ (.int .i64 (a : Int))).setCell ⟨w.heap.size, 2, none⟩ (.int .i64 (z : Int))).setCell ⟨w.heap.size, 3, none⟩ (.string ⟨tx.toArray⟩)).setCell ⟨w.heap.size, 4, none⟩ (.int .i64 (cd : Int)) = wz
        obtain ⟨e5, k5, s5⟩ := rbox_set5 w1 _ _ _ _ _ _ _ _ _ _ _ _ HX.out wz hz.symm
        obtain ⟨d0, d1, d2, d3, d4, _⟩ := vbox_cells e5
        have hbz : Below w.heap.size w wz := by rw [← hz]; exact ((((HB1.out.setCell (p := ⟨w.heap.size, 0, none⟩) (Nat.le_refl _) _).setCell (p := ⟨w.heap.size, 1, none⟩) (Nat.le_refl _) _).setCell (p := ⟨w.heap.size, 2, none⟩) (Nat.le_refl _) _).setCell (p := ⟨w.heap.size, 3, none⟩) (Nat.le_refl _) _).setCell (p := ⟨w.heap.size, 4, none⟩) (Nat.le_refl _) _
        refine bodyPost_ret (v := .agg #[.int .u8 (k : Int), .int .i64 (a : Int), .int .i64 (z : Int), .string ⟨tx.toArray⟩, .int .i64 (cd : Int)]) (by simp [results, Tryz.results26, go_sem, d0, d1, d2, d3, d4]) rfl ?_
        exact ⟨hbz, nx5_in HBE.out HQL.out (by rw [HT.out]; exact HTT.out)⟩
    · obtain rfl : q = s.size := by omega
      have hi1 : ¬ (s.size : Int) < (s.size : Int) := by omega
      have HBE : Hid (behL l p cBl = s.size) := by show _ = _; rw [HQ.out, beh_end (by rw [HL.out]; omega), HL.out]
      clear HQ
      exact absurd HLT.out (by have h1 := HBE.out; have h2 := HL.out; omega)

set_option maxRecDepth 100000 in
set_option maxHeartbeats 3200000 in
theorem w_5Next_byte (s : ByteArray) (p : Nat) (w : World) (hp : p ≤ s.size) (hs : s.size ≤ 1048576) (hlt0 : behL s.data.toList p cBl < s.data.toList.length) (hnm : cMk.contains (s.data.toList.getD (behL s.data.toList p cBl) 0) = false) (hq34 : ¬ (s.data.toList.getD (behL s.data.toList p cBl) 0) = 34) (hle0 : cLe.contains (s.data.toList.getD (behL s.data.toList p cBl) 0) = false) (hdm0 : cDm.contains (s.data.toList.getD (behL s.data.toList p cBl) 0) = false) :
    Calls Tryz.prog 26 #[.string s, .int .i64 (p : Int)] w fun e w' => Below w.heap.size w w' ∧ Nx5 s.data.toList p e := by
  obtain ⟨l, hl⟩ : ∃ l, l = s.data.toList := ⟨_, rfl⟩
  have HL : Hid (l.length = s.size) := by show _ = _; rw [hl]; exact size_lst s
  have HG : Hid (∀ q (h : q < s.size), l.getD q 0 = s[q]) := fun q h => by rw [hl]; exact getD_byte h
  have HLT : Hid (behL l p cBl < l.length) := by show _ < _; rw [hl]; exact hlt0
  clear hlt0
  have HNM : Hid (cMk.contains (l.getD (behL l p cBl) 0) = false) := by show _ = _; rw [hl]; exact hnm
  clear hnm
  have HQ34 : Hid (¬ (l.getD (behL l p cBl) 0) = 34) := by show ¬ _ = _; rw [hl]; exact hq34
  clear hq34
  have HLE0 : Hid (cLe.contains (l.getD (behL l p cBl) 0) = false) := by show _ = _; rw [hl]; exact hle0
  clear hle0
  have HDM0 : Hid (cDm.contains (l.getD (behL l p cBl) 0) = false) := by show _ = _; rw [hl]; exact hdm0
  clear hdm0
  rw [← hl]
  clear hl
  go_enter Tryz.func26, Tryz.ntmps26
  go_wp2_with fail
  go_loopw [1] (fun a wr => ∃ q : Nat, q ≤ s.size ∧ a = .int .i64 (q : Int) ∧ Hid (behL l p cBl = behL l q cBl) ∧ wr = w.alloc (.cells #[.int .u8 0, .int .i64 0, .int .i64 0, .string ⟨#[]⟩, .int .i64 0] 69)) (fun a _ => s.size - (intOf a).toNat)
  case atStart => exact ⟨p, hp, rfl, rfl, rfl⟩
  case round =>
    obtain ⟨q, hq, rfl, HQ, rfl⟩ := hrel
    by_cases hlt : q < s.size
    · have hi1 : (q : Int) < (s.size : Int) := by omega
      have hi0 : (0 : Int) ≤ (q : Int) := by omega
      have hi2 : ¬ (s.size : Int) ≤ (q : Int) := by omega
      have hbl := fun u => w_5blank s[q] u
      have hst := beh_step (l := l) (p := q) (cs := cBl) (by rw [HL.out]; exact hlt)
      have hsp := beh_stop (l := l) (p := q) (cs := cBl) (by rw [HL.out]; exact hlt)
      rw [HG.out q hlt] at hst hsp
      cases h1 : cBl.contains s[q] with
      | true =>
        rw [h1] at hbl hst
        have HBl := Hid.mk hbl
        have HST := Hid.mk (hst rfl)
        clear hst hsp hbl h1
        go_wp2_with fail
        refine (HBl.out _).mono ?_
        rintro e w1 ⟨rfl, rfl⟩
        go_wp2_with fail
        go_roundw
        case rel => exact ⟨q + 1, by omega, by go_num, HQ.out.trans HST.out, by first | rfl | trivial⟩
        case measure => simp [intOf]; omega
      | false =>
        rw [h1] at hbl hsp
        have HBE : Hid (behL l p cBl = q) := HQ.out.trans (hsp rfl)
        have HQL : Hid (q < l.length) := by show _ < _; rw [HL.out]; exact hlt
        have hgd := HG.out q hlt
        clear hst hsp h1 HQ
        have hnm := HNM.out
        rw [HBE.out, hgd] at hnm
        have hmt := mk_tab s[q]
        have hmz : mkN s[q] = 0 := by unfold mkN; rw [if_neg (by rw [hnm]; decide)]
        rw [hmz] at hmt
        obtain ⟨x, hx⟩ : ∃ x : Int, ((s[q].toNat : Nat) : Int) = x := ⟨_, rfl⟩
        have m0 : ¬ x = 123 := fun h => by rw [if_pos (by omega)] at hmt; omega
        have m1 : ¬ x = 125 := fun h => by rw [if_neg (by omega), if_pos (by omega)] at hmt; omega
        have m2 : ¬ x = 91 := fun h => by rw [if_neg (by omega), if_neg (by omega), if_pos (by omega)] at hmt; omega
        have m3 : ¬ x = 93 := fun h => by rw [if_neg (by omega), if_neg (by omega), if_neg (by omega), if_pos (by omega)] at hmt; omega
        have m4 : ¬ x = 58 := fun h => by rw [if_neg (by omega), if_neg (by omega), if_neg (by omega), if_neg (by omega), if_pos (by omega)] at hmt; omega
        have m5 : ¬ x = 44 := fun h => by rw [if_neg (by omega), if_neg (by omega), if_neg (by omega), if_neg (by omega), if_neg (by omega), if_pos (by omega)] at hmt; omega
        clear hmt hmz
        have nb0 : (x == 123) = false := by rw [beq_eq_false_iff_ne]; exact m0
        have nb1 : (x == 125) = false := by rw [beq_eq_false_iff_ne]; exact m1
        have nb2 : (x == 91) = false := by rw [beq_eq_false_iff_ne]; exact m2
        have nb3 : (x == 93) = false := by rw [beq_eq_false_iff_ne]; exact m3
        have nb4 : (x == 58) = false := by rw [beq_eq_false_iff_ne]; exact m4
        have nb5 : (x == 44) = false := by rw [beq_eq_false_iff_ne]; exact m5
        have hs34 := HQ34.out
        rw [HBE.out, hgd] at hs34
        have hlx := HLE0.out
        rw [HBE.out, hgd] at hlx
        have hd := HDM0.out
        rw [HBE.out, hgd] at hd
        have hds := dm_split s[q]
        rw [hd] at hds
        have hqt : ¬ x = 34 := fun h => hs34 (by apply UInt8.toNat_inj.1; show s[q].toNat = 34; omega)
        have nbq : (x == 34) = false := by rw [beq_eq_false_iff_ne]; exact hqt
        have hb : cDg.contains s[q] = false := by cases h : cDg.contains s[q] with | false => rfl | true => rw [h] at hds; cases hds
        have hx45 : ¬ x = 45 := fun h => by rw [hb, Bool.false_or, decide_eq_true (by omega)] at hds; cases hds
        have nbd : (x == 45) = false := by rw [beq_eq_false_iff_ne]; exact hx45
        have hle := fun u => w_5letter s[q] u
        rw [hlx] at hle
        have hdg := fun u => w_5digit s[q] u
        rw [hb] at hdg
        have HT : Hid (nextT l q = ⟨0, q, 0, [], 40⟩) := by show _ = _; unfold nextT; rw [hgd, if_neg (by rw [hnm]; decide), if_neg hs34, if_neg (by rw [hlx]; decide), if_neg (by rw [hd]; decide)]
        have HXx : Hid ((s[q].toNat : Int) = x) := hx
        rw [hx] at hbl hle hdg
        have HBl := Hid.mk hbl
        have HLE := Hid.mk hle
        have HD := Hid.mk hdg
        clear hnm hgd hs34 hle hlx hbl hdg hd hds hb
        go_wp2_with fail
        refine (HBl.out _).mono ?_
        rintro e w1 ⟨rfl, rfl⟩
        go_wp2_with fail
        refine (HLE.out _).mono ?_
        rintro e w1 ⟨rfl, rfl⟩
        go_wp2_with fail
        refine (HD.out _).mono ?_
        rintro e w1 ⟨rfl, rfl⟩
        go_wp2_with fail
        (try simp only [Exit.inBlock, Exit.then])
        refine bodyPost_ret (v := .agg #[.int .u8 x, .int .i64 (q : Int), .int .i64 (q : Int), .string ⟨#[]⟩, .int .i64 40]) (by simp [results, Tryz.results26, go_sem]) rfl ?_
        exact ⟨below1 w _, nx5_in HBE.out HQL.out (by rw [HT.out]; exact .inr ⟨(by show (40 : Nat) ≠ 0; decide), s[q].toNat, by unfold pc5; rw [HXx.out]; rfl⟩)⟩
    · obtain rfl : q = s.size := by omega
      have hi1 : ¬ (s.size : Int) < (s.size : Int) := by omega
      have HBE : Hid (behL l p cBl = s.size) := by show _ = _; rw [HQ.out, beh_end (by rw [HL.out]; omega), HL.out]
      clear HQ
      exact absurd HLT.out (by have h1 := HBE.out; have h2 := HL.out; omega)

end Go.Proofs.YtcbngdkekdhfeaaGreatDoor
namespace Go.Proofs.YtcbngdkekdhfeaaGreatDoor
open Go.RowKit
set_option linter.unusedVariables false
set_option linter.unusedSimpArgs false

set_option maxRecDepth 100000 in
set_option maxHeartbeats 3200000 in
theorem w_5Next_num1 (s : ByteArray) (p : Nat) (w : World) (hp : p ≤ s.size) (hs : s.size ≤ 1048576) (hlt0 : behL s.data.toList p cBl < s.data.toList.length) (hnm : cMk.contains (s.data.toList.getD (behL s.data.toList p cBl) 0) = false) (hq34 : ¬ (s.data.toList.getD (behL s.data.toList p cBl) 0) = 34) (hle0 : cLe.contains (s.data.toList.getD (behL s.data.toList p cBl) 0) = false) (hdm0 : cDm.contains (s.data.toList.getD (behL s.data.toList p cBl) 0) = true) (hdg0 : cDg.contains (s.data.toList.getD (behL s.data.toList p cBl) 0) = true) :
    Calls Tryz.prog 26 #[.string s, .int .i64 (p : Int)] w fun e w' => Below w.heap.size w w' ∧ Nx5 s.data.toList p e := by
  obtain ⟨l, hl⟩ : ∃ l, l = s.data.toList := ⟨_, rfl⟩
  have HL : Hid (l.length = s.size) := by show _ = _; rw [hl]; exact size_lst s
  have HG : Hid (∀ q (h : q < s.size), l.getD q 0 = s[q]) := fun q h => by rw [hl]; exact getD_byte h
  have HLT : Hid (behL l p cBl < l.length) := by show _ < _; rw [hl]; exact hlt0
  clear hlt0
  have HNM : Hid (cMk.contains (l.getD (behL l p cBl) 0) = false) := by show _ = _; rw [hl]; exact hnm
  clear hnm
  have HQ34 : Hid (¬ (l.getD (behL l p cBl) 0) = 34) := by show ¬ _ = _; rw [hl]; exact hq34
  clear hq34
  have HLE0 : Hid (cLe.contains (l.getD (behL l p cBl) 0) = false) := by show _ = _; rw [hl]; exact hle0
  clear hle0
  have HDM0 : Hid (cDm.contains (l.getD (behL l p cBl) 0) = true) := by show _ = _; rw [hl]; exact hdm0
  clear hdm0
  have HDG0 : Hid (cDg.contains (l.getD (behL l p cBl) 0) = true) := by show _ = _; rw [hl]; exact hdg0
  clear hdg0
  have HNu : Hid (∀ (q : Nat) (u : World) (hq : q < s.size), cDm.contains s[q] = true → Calls Tryz.prog 33 #[.string s, .int .i64 (q : Int)] u fun e w' => Below u.heap.size u w' ∧ PcT (numeralT l q) e) := fun q u hq h => by rw [hl]; exact w_5numeral s q u hq (by omega) h
  rw [← hl]
  clear hl
  go_enter Tryz.func26, Tryz.ntmps26
  go_wp2_with fail
  go_loopw [1] (fun a wr => ∃ q : Nat, q ≤ s.size ∧ a = .int .i64 (q : Int) ∧ Hid (behL l p cBl = behL l q cBl) ∧ wr = w.alloc (.cells #[.int .u8 0, .int .i64 0, .int .i64 0, .string ⟨#[]⟩, .int .i64 0] 69)) (fun a _ => s.size - (intOf a).toNat)
  case atStart => exact ⟨p, hp, rfl, rfl, rfl⟩
  case round =>
    obtain ⟨q, hq, rfl, HQ, rfl⟩ := hrel
    by_cases hlt : q < s.size
    · have hi1 : (q : Int) < (s.size : Int) := by omega
      have hi0 : (0 : Int) ≤ (q : Int) := by omega
      have hi2 : ¬ (s.size : Int) ≤ (q : Int) := by omega
      have hbl := fun u => w_5blank s[q] u
      have hst := beh_step (l := l) (p := q) (cs := cBl) (by rw [HL.out]; exact hlt)
      have hsp := beh_stop (l := l) (p := q) (cs := cBl) (by rw [HL.out]; exact hlt)
      rw [HG.out q hlt] at hst hsp
      cases h1 : cBl.contains s[q] with
      | true =>
        rw [h1] at hbl hst
        have HBl := Hid.mk hbl
        have HST := Hid.mk (hst rfl)
        clear hst hsp hbl h1
        go_wp2_with fail
        refine (HBl.out _).mono ?_
        rintro e w1 ⟨rfl, rfl⟩
        go_wp2_with fail
        go_roundw
        case rel => exact ⟨q + 1, by omega, by go_num, HQ.out.trans HST.out, by first | rfl | trivial⟩
        case measure => simp [intOf]; omega
      | false =>
        rw [h1] at hbl hsp
        have HBE : Hid (behL l p cBl = q) := HQ.out.trans (hsp rfl)
        have HQL : Hid (q < l.length) := by show _ < _; rw [HL.out]; exact hlt
        have hgd := HG.out q hlt
        clear hst hsp h1 HQ
        have hnm := HNM.out
        rw [HBE.out, hgd] at hnm
        have hmt := mk_tab s[q]
        have hmz : mkN s[q] = 0 := by unfold mkN; rw [if_neg (by rw [hnm]; decide)]
        rw [hmz] at hmt
        obtain ⟨x, hx⟩ : ∃ x : Int, ((s[q].toNat : Nat) : Int) = x := ⟨_, rfl⟩
        have m0 : ¬ x = 123 := fun h => by rw [if_pos (by omega)] at hmt; omega
        have m1 : ¬ x = 125 := fun h => by rw [if_neg (by omega), if_pos (by omega)] at hmt; omega
        have m2 : ¬ x = 91 := fun h => by rw [if_neg (by omega), if_neg (by omega), if_pos (by omega)] at hmt; omega
        have m3 : ¬ x = 93 := fun h => by rw [if_neg (by omega), if_neg (by omega), if_neg (by omega), if_pos (by omega)] at hmt; omega
        have m4 : ¬ x = 58 := fun h => by rw [if_neg (by omega), if_neg (by omega), if_neg (by omega), if_neg (by omega), if_pos (by omega)] at hmt; omega
        have m5 : ¬ x = 44 := fun h => by rw [if_neg (by omega), if_neg (by omega), if_neg (by omega), if_neg (by omega), if_neg (by omega), if_pos (by omega)] at hmt; omega
        clear hmt hmz
        have nb0 : (x == 123) = false := by rw [beq_eq_false_iff_ne]; exact m0
        have nb1 : (x == 125) = false := by rw [beq_eq_false_iff_ne]; exact m1
        have nb2 : (x == 91) = false := by rw [beq_eq_false_iff_ne]; exact m2
        have nb3 : (x == 93) = false := by rw [beq_eq_false_iff_ne]; exact m3
        have nb4 : (x == 58) = false := by rw [beq_eq_false_iff_ne]; exact m4
        have nb5 : (x == 44) = false := by rw [beq_eq_false_iff_ne]; exact m5
        have hs34 := HQ34.out
        rw [HBE.out, hgd] at hs34
        have hlx := HLE0.out
        rw [HBE.out, hgd] at hlx
        have hd := HDM0.out
        rw [HBE.out, hgd] at hd
        have hds := dm_split s[q]
        rw [hd] at hds
        have hb := HDG0.out
        rw [HBE.out, hgd] at hb
        rw [hb] at hds
        have hqt : ¬ x = 34 := fun h => hs34 (by apply UInt8.toNat_inj.1; show s[q].toNat = 34; omega)
        have nbq : (x == 34) = false := by rw [beq_eq_false_iff_ne]; exact hqt
        have hle := fun u => w_5letter s[q] u
        rw [hlx] at hle
        have hdg := fun u => w_5digit s[q] u
        rw [hb] at hdg
        have HNq := Hid.mk (fun u => HNu.out q u hlt hd)
        have HT : Hid (nextT l q = numeralT l q) := by show _ = _; unfold nextT; rw [hgd, if_neg (by rw [hnm]; decide), if_neg hs34, if_neg (by rw [hlx]; decide), if_pos hd]
        rw [hx] at hbl hle hdg
        have HBl := Hid.mk hbl
        have HLE := Hid.mk hle
        have HD := Hid.mk hdg
        clear hnm hgd hs34 hle hlx hbl hdg hd hds hb
        go_wp2_with fail
        refine (HBl.out _).mono ?_
        rintro e w1 ⟨rfl, rfl⟩
        go_wp2_with fail
        refine (HLE.out _).mono ?_
        rintro e w1 ⟨rfl, rfl⟩
        go_wp2_with fail
        refine (HD.out _).mono ?_
        rintro e w1 ⟨rfl, rfl⟩
        go_wp2_with fail
        refine (HNq.out _).mono ?_
        rintro e w1 ⟨hb1, ht⟩
        obtain ⟨k, a, z, tx, cd, rfl⟩ : ∃ k a z tx cd, e = .returned (pc5 k a z tx cd) := by
          rcases ht with ⟨_, h⟩ | ⟨_, sg, h⟩
          · exact ⟨_, _, _, _, _, h⟩
          · exact ⟨_, _, _, _, _, h⟩
        have HTT := Hid.mk ht
        clear ht
        unfold pc5
        have hbx : w1.heap[w.heap.size]? = some (.cells #[.int .u8 0, .int .i64 0, .int .i64 0, .string ⟨#[]⟩, .int .i64 0] 69 (0, 0)) := (hb1.block _ (by simp)).trans (heap_alloc_new w _)
        obtain ⟨c0, c1, c2, c3, c4, f0, f1, f2, f3, f4⟩ := vbox_cells hbx
        have HX := Hid.mk hbx
        have HB1 : Hid (Below w.heap.size w w1) := (below1 w _).trans (hb1.mono (by simp))
        clear hb1 hbx
        go_wp2_with fail
        (try simp only [Exit.inBlock, Exit.then])
        generalize hz : ((((w1.setCell ⟨w.heap.size, 0, none⟩ (.int .u8 (k : Int))).setCell ⟨w.heap.size, 1, none⟩ (.int .i64 (a : Int))).setCell ⟨w.heap.size, 2, none⟩ (.int .i64 (z : Int))).setCell ⟨w.heap.size, 3, none⟩ (.string ⟨tx.toArray⟩)).setCell ⟨w.heap.size, 4, none⟩ (.int .i64 (cd : Int)) = wz
        obtain ⟨e5, k5, s5⟩ := rbox_set5 w1 _ _ _ _ _ _ _ _ _ _ _ _ HX.out wz hz.symm
        obtain ⟨d0, d1, d2, d3, d4, _⟩ := vbox_cells e5
        have hbz : Below w.heap.size w wz := by rw [← hz]; exact ((((HB1.out.setCell (p := ⟨w.heap.size, 0, none⟩) (Nat.le_refl _) _).setCell (p := ⟨w.heap.size, 1, none⟩) (Nat.le_refl _) _).setCell (p := ⟨w.heap.size, 2, none⟩) (Nat.le_refl _) _).setCell (p := ⟨w.heap.size, 3, none⟩) (Nat.le_refl _) _).setCell (p := ⟨w.heap.size, 4, none⟩) (Nat.le_refl _) _
        refine bodyPost_ret (v := .agg #[.int .u8 (k : Int), .int .i64 (a : Int), .int .i64 (z : Int), .string ⟨tx.toArray⟩, .int .i64 (cd : Int)]) (by simp [results, Tryz.results26, go_sem, d0, d1, d2, d3, d4]) rfl ?_
        exact ⟨hbz, nx5_in HBE.out HQL.out (by rw [HT.out]; exact HTT.out)⟩
    · obtain rfl : q = s.size := by omega
      have hi1 : ¬ (s.size : Int) < (s.size : Int) := by omega
      have HBE : Hid (behL l p cBl = s.size) := by show _ = _; rw [HQ.out, beh_end (by rw [HL.out]; omega), HL.out]
      clear HQ
      exact absurd HLT.out (by have h1 := HBE.out; have h2 := HL.out; omega)

set_option maxRecDepth 100000 in
set_option maxHeartbeats 3200000 in
theorem w_5Next_num0 (s : ByteArray) (p : Nat) (w : World) (hp : p ≤ s.size) (hs : s.size ≤ 1048576) (hlt0 : behL s.data.toList p cBl < s.data.toList.length) (hnm : cMk.contains (s.data.toList.getD (behL s.data.toList p cBl) 0) = false) (hq34 : ¬ (s.data.toList.getD (behL s.data.toList p cBl) 0) = 34) (hle0 : cLe.contains (s.data.toList.getD (behL s.data.toList p cBl) 0) = false) (hdm0 : cDm.contains (s.data.toList.getD (behL s.data.toList p cBl) 0) = true) (hdg0 : cDg.contains (s.data.toList.getD (behL s.data.toList p cBl) 0) = false) :
    Calls Tryz.prog 26 #[.string s, .int .i64 (p : Int)] w fun e w' => Below w.heap.size w w' ∧ Nx5 s.data.toList p e := by
  obtain ⟨l, hl⟩ : ∃ l, l = s.data.toList := ⟨_, rfl⟩
  have HL : Hid (l.length = s.size) := by show _ = _; rw [hl]; exact size_lst s
  have HG : Hid (∀ q (h : q < s.size), l.getD q 0 = s[q]) := fun q h => by rw [hl]; exact getD_byte h
  have HLT : Hid (behL l p cBl < l.length) := by show _ < _; rw [hl]; exact hlt0
  clear hlt0
  have HNM : Hid (cMk.contains (l.getD (behL l p cBl) 0) = false) := by show _ = _; rw [hl]; exact hnm
  clear hnm
  have HQ34 : Hid (¬ (l.getD (behL l p cBl) 0) = 34) := by show ¬ _ = _; rw [hl]; exact hq34
  clear hq34
  have HLE0 : Hid (cLe.contains (l.getD (behL l p cBl) 0) = false) := by show _ = _; rw [hl]; exact hle0
  clear hle0
  have HDM0 : Hid (cDm.contains (l.getD (behL l p cBl) 0) = true) := by show _ = _; rw [hl]; exact hdm0
  clear hdm0
  have HDG0 : Hid (cDg.contains (l.getD (behL l p cBl) 0) = false) := by show _ = _; rw [hl]; exact hdg0
  clear hdg0
  have HNu : Hid (∀ (q : Nat) (u : World) (hq : q < s.size), cDm.contains s[q] = true → Calls Tryz.prog 33 #[.string s, .int .i64 (q : Int)] u fun e w' => Below u.heap.size u w' ∧ PcT (numeralT l q) e) := fun q u hq h => by rw [hl]; exact w_5numeral s q u hq (by omega) h
  rw [← hl]
  clear hl
  go_enter Tryz.func26, Tryz.ntmps26
  go_wp2_with fail
  go_loopw [1] (fun a wr => ∃ q : Nat, q ≤ s.size ∧ a = .int .i64 (q : Int) ∧ Hid (behL l p cBl = behL l q cBl) ∧ wr = w.alloc (.cells #[.int .u8 0, .int .i64 0, .int .i64 0, .string ⟨#[]⟩, .int .i64 0] 69)) (fun a _ => s.size - (intOf a).toNat)
  case atStart => exact ⟨p, hp, rfl, rfl, rfl⟩
  case round =>
    obtain ⟨q, hq, rfl, HQ, rfl⟩ := hrel
    by_cases hlt : q < s.size
    · have hi1 : (q : Int) < (s.size : Int) := by omega
      have hi0 : (0 : Int) ≤ (q : Int) := by omega
      have hi2 : ¬ (s.size : Int) ≤ (q : Int) := by omega
      have hbl := fun u => w_5blank s[q] u
      have hst := beh_step (l := l) (p := q) (cs := cBl) (by rw [HL.out]; exact hlt)
      have hsp := beh_stop (l := l) (p := q) (cs := cBl) (by rw [HL.out]; exact hlt)
      rw [HG.out q hlt] at hst hsp
      cases h1 : cBl.contains s[q] with
      | true =>
        rw [h1] at hbl hst
        have HBl := Hid.mk hbl
        have HST := Hid.mk (hst rfl)
        clear hst hsp hbl h1
        go_wp2_with fail
        refine (HBl.out _).mono ?_
        rintro e w1 ⟨rfl, rfl⟩
        go_wp2_with fail
        go_roundw
        case rel => exact ⟨q + 1, by omega, by go_num, HQ.out.trans HST.out, by first | rfl | trivial⟩
        case measure => simp [intOf]; omega
      | false =>
        rw [h1] at hbl hsp
        have HBE : Hid (behL l p cBl = q) := HQ.out.trans (hsp rfl)
        have HQL : Hid (q < l.length) := by show _ < _; rw [HL.out]; exact hlt
        have hgd := HG.out q hlt
        clear hst hsp h1 HQ
        have hnm := HNM.out
        rw [HBE.out, hgd] at hnm
        have hmt := mk_tab s[q]
        have hmz : mkN s[q] = 0 := by unfold mkN; rw [if_neg (by rw [hnm]; decide)]
        rw [hmz] at hmt
        obtain ⟨x, hx⟩ : ∃ x : Int, ((s[q].toNat : Nat) : Int) = x := ⟨_, rfl⟩
        have m0 : ¬ x = 123 := fun h => by rw [if_pos (by omega)] at hmt; omega
        have m1 : ¬ x = 125 := fun h => by rw [if_neg (by omega), if_pos (by omega)] at hmt; omega
        have m2 : ¬ x = 91 := fun h => by rw [if_neg (by omega), if_neg (by omega), if_pos (by omega)] at hmt; omega
        have m3 : ¬ x = 93 := fun h => by rw [if_neg (by omega), if_neg (by omega), if_neg (by omega), if_pos (by omega)] at hmt; omega
        have m4 : ¬ x = 58 := fun h => by rw [if_neg (by omega), if_neg (by omega), if_neg (by omega), if_neg (by omega), if_pos (by omega)] at hmt; omega
        have m5 : ¬ x = 44 := fun h => by rw [if_neg (by omega), if_neg (by omega), if_neg (by omega), if_neg (by omega), if_neg (by omega), if_pos (by omega)] at hmt; omega
        clear hmt hmz
        have nb0 : (x == 123) = false := by rw [beq_eq_false_iff_ne]; exact m0
        have nb1 : (x == 125) = false := by rw [beq_eq_false_iff_ne]; exact m1
        have nb2 : (x == 91) = false := by rw [beq_eq_false_iff_ne]; exact m2
        have nb3 : (x == 93) = false := by rw [beq_eq_false_iff_ne]; exact m3
        have nb4 : (x == 58) = false := by rw [beq_eq_false_iff_ne]; exact m4
        have nb5 : (x == 44) = false := by rw [beq_eq_false_iff_ne]; exact m5
        have hs34 := HQ34.out
        rw [HBE.out, hgd] at hs34
        have hlx := HLE0.out
        rw [HBE.out, hgd] at hlx
        have hd := HDM0.out
        rw [HBE.out, hgd] at hd
        have hds := dm_split s[q]
        rw [hd] at hds
        have hb := HDG0.out
        rw [HBE.out, hgd] at hb
        rw [hb] at hds
        have hqt : ¬ x = 34 := fun h => hs34 (by apply UInt8.toNat_inj.1; show s[q].toNat = 34; omega)
        have nbq : (x == 34) = false := by rw [beq_eq_false_iff_ne]; exact hqt
        have hle := fun u => w_5letter s[q] u
        rw [hlx] at hle
        have hdg := fun u => w_5digit s[q] u
        rw [hb] at hdg
        have HNq := Hid.mk (fun u => HNu.out q u hlt hd)
        have HT : Hid (nextT l q = numeralT l q) := by show _ = _; unfold nextT; rw [hgd, if_neg (by rw [hnm]; decide), if_neg hs34, if_neg (by rw [hlx]; decide), if_pos hd]
        have hx45 : x = 45 := by
          rw [Bool.false_or] at hds
          have := of_decide_eq_true hds.symm
          omega
        rw [hx, hx45] at hbl hle hdg
        rw [hx45] at hx
        clear hx45 m0 m1 m2 m3 m4 m5 hqt nb0 nb1 nb2 nb3 nb4 nb5 nbq
        have HBl := Hid.mk hbl
        have HLE := Hid.mk hle
        have HD := Hid.mk hdg
        clear hnm hgd hs34 hle hlx hbl hdg hd hds hb
        go_wp2_with fail
        refine (HBl.out _).mono ?_
        rintro e w1 ⟨rfl, rfl⟩
        go_wp2_with fail
        refine (HLE.out _).mono ?_
        rintro e w1 ⟨rfl, rfl⟩
        go_wp2_with fail
        refine (HD.out _).mono ?_
        rintro e w1 ⟨rfl, rfl⟩
        go_wp2_with fail
        refine (HNq.out _).mono ?_
        rintro e w1 ⟨hb1, ht⟩
        obtain ⟨k, a, z, tx, cd, rfl⟩ : ∃ k a z tx cd, e = .returned (pc5 k a z tx cd) := by
          rcases ht with ⟨_, h⟩ | ⟨_, sg, h⟩
          · exact ⟨_, _, _, _, _, h⟩
          · exact ⟨_, _, _, _, _, h⟩
        have HTT := Hid.mk ht
        clear ht
        unfold pc5
        have hbx : w1.heap[w.heap.size]? = some (.cells #[.int .u8 0, .int .i64 0, .int .i64 0, .string ⟨#[]⟩, .int .i64 0] 69 (0, 0)) := (hb1.block _ (by simp)).trans (heap_alloc_new w _)
        obtain ⟨c0, c1, c2, c3, c4, f0, f1, f2, f3, f4⟩ := vbox_cells hbx
        have HX := Hid.mk hbx
        have HB1 : Hid (Below w.heap.size w w1) := (below1 w _).trans (hb1.mono (by simp))
        clear hb1 hbx
        go_wp2_with fail
        (try simp only [Exit.inBlock, Exit.then])
        generalize hz : ((((w1.setCell ⟨w.heap.size, 0, none⟩ (.int .u8 (k : Int))).setCell ⟨w.heap.size, 1, none⟩ (.int .i64 (a : Int))).setCell ⟨w.heap.size, 2, none⟩ (.int .i64 (z : Int))).setCell ⟨w.heap.size, 3, none⟩ (.string ⟨tx.toArray⟩)).setCell ⟨w.heap.size, 4, none⟩ (.int .i64 (cd : Int)) = wz
        obtain ⟨e5, k5, s5⟩ := rbox_set5 w1 _ _ _ _ _ _ _ _ _ _ _ _ HX.out wz hz.symm
        obtain ⟨d0, d1, d2, d3, d4, _⟩ := vbox_cells e5
        have hbz : Below w.heap.size w wz := by rw [← hz]; exact ((((HB1.out.setCell (p := ⟨w.heap.size, 0, none⟩) (Nat.le_refl _) _).setCell (p := ⟨w.heap.size, 1, none⟩) (Nat.le_refl _) _).setCell (p := ⟨w.heap.size, 2, none⟩) (Nat.le_refl _) _).setCell (p := ⟨w.heap.size, 3, none⟩) (Nat.le_refl _) _).setCell (p := ⟨w.heap.size, 4, none⟩) (Nat.le_refl _) _
        refine bodyPost_ret (v := .agg #[.int .u8 (k : Int), .int .i64 (a : Int), .int .i64 (z : Int), .string ⟨tx.toArray⟩, .int .i64 (cd : Int)]) (by simp [results, Tryz.results26, go_sem, d0, d1, d2, d3, d4]) rfl ?_
        exact ⟨hbz, nx5_in HBE.out HQL.out (by rw [HT.out]; exact HTT.out)⟩
    · obtain rfl : q = s.size := by omega
      have hi1 : ¬ (s.size : Int) < (s.size : Int) := by omega
      have HBE : Hid (behL l p cBl = s.size) := by show _ = _; rw [HQ.out, beh_end (by rw [HL.out]; omega), HL.out]
      clear HQ
      exact absurd HLT.out (by have h1 := HBE.out; have h2 := HL.out; omega)

end Go.Proofs.YtcbngdkekdhfeaaGreatDoor
