import Derived.Test.YtcbngdkekdhfeaaGreatDoorM24
import Derived.Test.YtcbngdkekdhfeaaGreatDoorM17
import Derived.Test.YtcbngdkekdhfeaaGreatDoorM2
import Derived.Test.YtcbngdkekdhfeaaGreatDoorM19
import Derived.WalkMore
import Derived.Deep.LoopGhost
namespace Go.Proofs.YtcbngdkekdhfeaaGreatDoor
open Go.RowKit
set_option linter.unusedVariables false
set_option linter.unusedSimpArgs false

set_option maxRecDepth 100000 in
theorem blank_tab (c : UInt8) : cBl.contains c = decide (c.toNat = 32 ∨ c.toNat = 9 ∨ c.toNat = 10 ∨ c.toNat = 13) := by
  have : ∀ m : Fin 256, cBl.contains (UInt8.ofNat m.val) = decide (m.val = 32 ∨ m.val = 9 ∨ m.val = 10 ∨ m.val = 13) := by decide +kernel
  have h := this ⟨c.toNat, c.toNat_lt⟩
  simp only [UInt8.ofNat_toNat] at h
  exact h
set_option maxRecDepth 100000 in
theorem letter_tab (c : UInt8) : cLe.contains c = decide ((97 ≤ c.toNat ∧ c.toNat ≤ 122) ∨ (65 ≤ c.toNat ∧ c.toNat ≤ 90) ∨ c.toNat = 95) := by
  have : ∀ m : Fin 256, cLe.contains (UInt8.ofNat m.val) = decide ((97 ≤ m.val ∧ m.val ≤ 122) ∨ (65 ≤ m.val ∧ m.val ≤ 90) ∨ m.val = 95) := by decide +kernel
  have h := this ⟨c.toNat, c.toNat_lt⟩
  simp only [UInt8.ofNat_toNat] at h
  exact h
set_option maxRecDepth 100000 in
theorem digit_tab (c : UInt8) : cDg.contains c = decide (48 ≤ c.toNat ∧ c.toNat ≤ 57) := by
  have : ∀ m : Fin 256, cDg.contains (UInt8.ofNat m.val) = decide (48 ≤ m.val ∧ m.val ≤ 57) := by decide +kernel
  have h := this ⟨c.toNat, c.toNat_lt⟩
  simp only [UInt8.ofNat_toNat] at h
  exact h
theorem wd_split (c : UInt8) : cWd.contains c = (cLe.contains c || cDg.contains c) := by
  have : ∀ m : Fin 256, cWd.contains (UInt8.ofNat m.val) = (cLe.contains (UInt8.ofNat m.val) || cDg.contains (UInt8.ofNat m.val)) := by decide +kernel
  have h := this ⟨c.toNat, c.toNat_lt⟩
  simp only [UInt8.ofNat_toNat] at h
  exact h
theorem nm_split (c : UInt8) : cNm.contains c = (cLe.contains c || cDg.contains c || decide (c.toNat = 43) || decide (c.toNat = 45) || decide (c.toNat = 46)) := by
  have : ∀ m : Fin 256, cNm.contains (UInt8.ofNat m.val) = (cLe.contains (UInt8.ofNat m.val) || cDg.contains (UInt8.ofNat m.val) || decide (m.val = 43) || decide (m.val = 45) || decide (m.val = 46)) := by decide +kernel
  have h := this ⟨c.toNat, c.toNat_lt⟩
  simp only [UInt8.ofNat_toNat] at h
  exact h
theorem dm_split (c : UInt8) : cDm.contains c = (cDg.contains c || decide (c.toNat = 45)) := by
  have : ∀ m : Fin 256, cDm.contains (UInt8.ofNat m.val) = (cDg.contains (UInt8.ofNat m.val) || decide (m.val = 45)) := by decide +kernel
  have h := this ⟨c.toNat, c.toNat_lt⟩
  simp only [UInt8.ofNat_toNat] at h
  exact h
def mkN (c : UInt8) : Nat := if cMk.contains c = true then (1 + Lib.indexByte cMk c).toNat else 0
set_option maxRecDepth 100000 in
theorem mk_tab (c : UInt8) : mkN c = if c.toNat = 123 then 1 else if c.toNat = 125 then 2 else if c.toNat = 91 then 3 else if c.toNat = 93 then 4 else if c.toNat = 58 then 5 else if c.toNat = 44 then 6 else 0 := by
  have : ∀ m : Fin 256, mkN (UInt8.ofNat m.val) = if m.val = 123 then 1 else if m.val = 125 then 2 else if m.val = 91 then 3 else if m.val = 93 then 4 else if m.val = 58 then 5 else if m.val = 44 then 6 else 0 := by decide +kernel
  have h := this ⟨c.toNat, c.toNat_lt⟩
  simp only [UInt8.ofNat_toNat] at h
  exact h
theorem mk_pos (c : UInt8) : 0 < mkN c ↔ cMk.contains c = true := by
  have : ∀ m : Fin 256, (0 < mkN (UInt8.ofNat m.val)) ↔ cMk.contains (UInt8.ofNat m.val) = true := by decide +kernel
  have h := this ⟨c.toNat, c.toNat_lt⟩
  simp only [UInt8.ofNat_toNat] at h
  exact h
end Go.Proofs.YtcbngdkekdhfeaaGreatDoor
namespace Go.Proofs.YtcbngdkekdhfeaaGreatDoor
open Go.RowKit
set_option linter.unusedVariables false
set_option linter.unusedSimpArgs false

set_option maxRecDepth 100000 in
set_option maxHeartbeats 1600000 in
theorem w_5blank (c : UInt8) (w : World) :
    Calls Tryz.prog 42 #[.int .u8 ((c.toNat : Nat) : Int)] w fun e w' => e = .returned (.bool (cBl.contains c)) ∧ w' = w := by
  have ht := blank_tab c
  have hlt := c.toNat_lt
  obtain ⟨x, hx⟩ : ∃ x : Int, ((c.toNat : Nat) : Int) = x := ⟨_, rfl⟩
  rw [hx]
  by_cases h1 : x = 32
  · have HT : cBl.contains c = true := by rw [ht]; exact decide_eq_true (by omega)
    rw [HT]
    subst h1; clear HT ht hx hlt
    go_enter Tryz.func42, Tryz.ntmps42
    go_wp2_with fail
    go_ret
    exact ⟨by first | rfl | simp [*], rfl⟩
  by_cases h2 : x = 9
  · have HT : cBl.contains c = true := by rw [ht]; exact decide_eq_true (by omega)
    rw [HT]
    subst h2; clear HT ht hx hlt h1
    go_enter Tryz.func42, Tryz.ntmps42
    go_wp2_with fail
    go_ret
    exact ⟨by first | rfl | simp [*], rfl⟩
  by_cases h3 : x = 10
  · have HT : cBl.contains c = true := by rw [ht]; exact decide_eq_true (by omega)
    rw [HT]
    subst h3; clear HT ht hx hlt h1 h2
    go_enter Tryz.func42, Tryz.ntmps42
    go_wp2_with fail
    go_ret
    exact ⟨by first | rfl | simp [*], rfl⟩
  by_cases h4 : x = 13
  · have HT : cBl.contains c = true := by rw [ht]; exact decide_eq_true (by omega)
    rw [HT]
    subst h4; clear HT ht hx hlt h1 h2 h3
    go_enter Tryz.func42, Tryz.ntmps42
    go_wp2_with fail
    go_ret
    exact ⟨by first | rfl | simp [*], rfl⟩
  have HT : cBl.contains c = false := by rw [ht]; exact decide_eq_false (by omega)
  rw [HT]
  clear HT ht hx hlt
  go_enter Tryz.func42, Tryz.ntmps42
  go_wp2_with fail
  go_ret
  exact ⟨by first | rfl | simp [*], rfl⟩

set_option maxRecDepth 100000 in
set_option maxHeartbeats 1600000 in
theorem w_5digit (c : UInt8) (w : World) :
    Calls Tryz.prog 32 #[.int .u8 ((c.toNat : Nat) : Int)] w fun e w' => e = .returned (.bool (cDg.contains c)) ∧ w' = w := by
  have ht := digit_tab c
  have hlt := c.toNat_lt
  obtain ⟨x, hx⟩ : ∃ x : Int, ((c.toNat : Nat) : Int) = x := ⟨_, rfl⟩
  rw [hx]
  by_cases h1 : 48 ≤ x
  · by_cases h2 : x ≤ 57
    · have HT : cDg.contains c = true := by rw [ht]; exact decide_eq_true (by omega)
      rw [HT]
      clear HT ht hx hlt
      go_enter Tryz.func32, Tryz.ntmps32
      go_wp2_with fail
      go_ret
      exact ⟨by first | rfl | simp [*], rfl⟩
    · have HT : cDg.contains c = false := by rw [ht]; exact decide_eq_false (by omega)
      rw [HT]
      clear HT ht hx hlt
      go_enter Tryz.func32, Tryz.ntmps32
      go_wp2_with fail
      go_ret
      exact ⟨by first | rfl | simp [*], rfl⟩
  · have HT : cDg.contains c = false := by rw [ht]; exact decide_eq_false (by omega)
    rw [HT]
    clear HT ht hx hlt
    go_enter Tryz.func32, Tryz.ntmps32
    go_wp2_with fail
    go_ret
    exact ⟨by first | rfl | simp [*], rfl⟩

set_option maxRecDepth 100000 in
set_option maxHeartbeats 1600000 in
theorem w_5letter (c : UInt8) (w : World) :
    Calls Tryz.prog 44 #[.int .u8 ((c.toNat : Nat) : Int)] w fun e w' => e = .returned (.bool (cLe.contains c)) ∧ w' = w := by
  have ht := letter_tab c
  have hlt := c.toNat_lt
  obtain ⟨x, hx⟩ : ∃ x : Int, ((c.toNat : Nat) : Int) = x := ⟨_, rfl⟩
  rw [hx]
  have hcs : (97 ≤ x ∧ x ≤ 122) ∨ (97 ≤ x ∧ ¬ x ≤ 122 ∧ 65 ≤ x ∧ ¬ x ≤ 90 ∧ ¬ x = 95) ∨ (¬ 97 ≤ x ∧ 65 ≤ x ∧ x ≤ 90) ∨ (¬ 97 ≤ x ∧ 65 ≤ x ∧ ¬ x ≤ 90 ∧ x = 95) ∨ (¬ 97 ≤ x ∧ 65 ≤ x ∧ ¬ x ≤ 90 ∧ ¬ x = 95) ∨ (¬ 97 ≤ x ∧ ¬ 65 ≤ x ∧ ¬ x = 95) := by omega
  rcases hcs with ⟨a, b⟩ | ⟨a, b, d, f, g⟩ | ⟨a, b, d⟩ | ⟨a, b, d, f⟩ | ⟨a, b, d, f⟩ | ⟨a, b, d⟩
  · have HT : cLe.contains c = true := by rw [ht]; exact decide_eq_true (by omega)
    rw [HT]
    clear HT ht hx hlt
    go_enter Tryz.func44, Tryz.ntmps44
    go_wp2_with fail
    go_ret
    exact ⟨by first | rfl | simp [*], rfl⟩
  · have HT : cLe.contains c = false := by rw [ht]; exact decide_eq_false (by omega)
    rw [HT]
    clear HT ht hx hlt
    go_enter Tryz.func44, Tryz.ntmps44
    go_wp2_with fail
    go_ret
    exact ⟨by first | rfl | simp [*], rfl⟩
  · have HT : cLe.contains c = true := by rw [ht]; exact decide_eq_true (by omega)
    rw [HT]
    clear HT ht hx hlt
    go_enter Tryz.func44, Tryz.ntmps44
    go_wp2_with fail
    go_ret
    exact ⟨by first | rfl | simp [*], rfl⟩
  · have HT : cLe.contains c = true := by rw [ht]; exact decide_eq_true (by omega)
    rw [HT]
    subst f
    clear HT ht hx hlt a b d
    go_enter Tryz.func44, Tryz.ntmps44
    go_wp2_with fail
    go_ret
    exact ⟨by first | rfl | simp [*], rfl⟩
  · have HT : cLe.contains c = false := by rw [ht]; exact decide_eq_false (by omega)
    rw [HT]
    clear HT ht hx hlt
    go_enter Tryz.func44, Tryz.ntmps44
    go_wp2_with fail
    go_ret
    exact ⟨by first | rfl | simp [*], rfl⟩
  · have HT : cLe.contains c = false := by rw [ht]; exact decide_eq_false (by omega)
    rw [HT]
    clear HT ht hx hlt
    go_enter Tryz.func44, Tryz.ntmps44
    go_wp2_with fail
    go_ret
    exact ⟨by first | rfl | simp [*], rfl⟩
end Go.Proofs.YtcbngdkekdhfeaaGreatDoor
namespace Go.Proofs.YtcbngdkekdhfeaaGreatDoor
open Go.RowKit
set_option linter.unusedVariables false
set_option linter.unusedSimpArgs false

def sg5 (k : Nat) : Nat := if k = 1 then 123 else if k = 2 then 125 else if k = 3 then 91 else if k = 4 then 93 else if k = 5 then 58 else if k = 6 then 44 else if k = 7 then 110 else if k = 8 then 102 else if k = 9 then 116 else if k = 10 then 0 else 34
def pc5 (sg a z : Nat) (tx : List UInt8) (cd : Nat) : Value := .agg #[.int .u8 (sg : Int), .int .i64 (a : Int), .int .i64 (z : Int), .string ⟨tx.toArray⟩, .int .i64 (cd : Int)]
def PcT (t : Tok) (e : Ending) : Prop := (t.err = 0 ∧ e = .returned (pc5 (sg5 t.kind) t.at_ t.fin t.text 0)) ∨ (t.err ≠ 0 ∧ ∃ sg, e = .returned (pc5 sg t.at_ t.at_ [] t.err))

set_option maxRecDepth 100000 in
set_option maxHeartbeats 3200000 in
theorem w_5word (s : ByteArray) (p : Nat) (w : World) (hp : p < s.size) (hs : s.size ≤ 1099511627776) :
    Calls Tryz.prog 45 #[.string s, .int .i64 (p : Int)] w fun e w' => Below w.heap.size w w' ∧ PcT (wordT s.data.toList p) e := by
  obtain ⟨l, hl⟩ : ∃ l, l = s.data.toList := ⟨_, rfl⟩
  have HL : Hid (l.length = s.size) := by show _ = _; rw [hl]; exact size_lst s
  have HG : Hid (∀ q (h : q < s.size), l.getD q 0 = s[q]) := fun q h => by rw [hl]; exact getD_byte h
  have HX : Hid (∀ q, q ≤ s.size → (s.extract p q).data.toList = cut l p q) := fun q h => by rw [hl]; exact extract_lst s p q h
  rw [← hl]
  clear hl
  go_enter Tryz.func45, Tryz.ntmps45
  go_wp2_with fail
  go_loopw [5] (fun a wr => ∃ q : Nat, p ≤ q ∧ q ≤ s.size ∧ a = .int .i64 (q : Int) ∧ Hid (behL l p cWd = behL l q cWd) ∧ wr = w.alloc (.cells #[.int .u8 0, .int .i64 0, .int .i64 0, .string ⟨#[]⟩, .int .i64 0] 69)) (fun a _ => s.size - (intOf a).toNat)
  case atStart => exact ⟨p, Nat.le_refl _, by omega, rfl, rfl, rfl⟩
  case round =>
    obtain ⟨q, hpq, hq, rfl, HQ, rfl⟩ := hrel
    by_cases hlt : q < s.size
    · have hi1 : (q : Int) < (s.size : Int) := by omega
      have hi0 : (0 : Int) ≤ (q : Int) := by omega
      have hd := fun u => w_5digit s[q] u
      have hle := fun u => w_5letter s[q] u
      have hw := wd_split s[q]
      have hst := beh_step (l := l) (p := q) (cs := cWd) (by rw [HL.out]; exact hlt)
      have hsp := beh_stop (l := l) (p := q) (cs := cWd) (by rw [HL.out]; exact hlt)
      rw [HG.out q hlt] at hst hsp
      have HST := Hid.mk hst
      have HSP := Hid.mk hsp
      clear hst hsp
      cases h1 : cLe.contains s[q] with
      | true =>
        rw [h1] at hle hw
        have HLE := Hid.mk hle
        have HWD : Hid (cWd.contains s[q] = true) := by show _ = _; rw [hw]; simp
        clear h1 hle hd hw
        go_wp2_with fail
        refine (HLE.out _).mono ?_
        rintro e w1 ⟨rfl, rfl⟩
        go_wp2_with fail
        go_roundw
        case rel => exact ⟨q + 1, by omega, by omega, by go_num, HQ.out.trans (HST.out HWD.out), by first | rfl | trivial⟩
        case measure => simp [intOf]; omega
      | false =>
        rw [h1] at hle hw
        have HLE := Hid.mk hle
        clear h1 hle
        cases h2 : cDg.contains s[q] with
        | true =>
          rw [h2] at hd hw
          have HD := Hid.mk hd
          have HWD : Hid (cWd.contains s[q] = true) := by show _ = _; rw [hw]; simp
          clear h2 hd hw
          go_wp2_with fail
          refine (HLE.out _).mono ?_
          rintro e w1 ⟨rfl, rfl⟩
          go_wp2_with fail
          refine (HD.out _).mono ?_
          rintro e w1 ⟨rfl, rfl⟩
          go_wp2_with fail
          go_roundw
          case rel => exact ⟨q + 1, by omega, by omega, by go_num, HQ.out.trans (HST.out HWD.out), by first | rfl | trivial⟩
          case measure => simp [intOf]; omega
        | false =>
          rw [h2] at hd hw
          have HD := Hid.mk hd
          clear h2 hd
          have HWD : Hid (cWd.contains s[q] = false) := by show _ = _; rw [hw]; simp
          clear hw
          have hbe : behL l p cWd = q := HQ.out.trans (HSP.out HWD.out)
          clear HST HSP HQ HWD
          obtain ⟨x, hx⟩ : ∃ x, s.extract p q = x := ⟨_, rfl⟩
          have hxl : x.data.toList = cut l p q := by rw [← hx]; exact HX.out q (by omega)
          have h1 : (p : Int) ≤ (q : Int) := by omega
          have h2 : (q : Int) ≤ (s.size : Int) := by omega
          by_cases z0 : x = ⟨#[110, 117, 108, 108]⟩
          · subst z0
            have ht : wordT l p = ⟨7, p, q, [], 0⟩ := by unfold wordT; rw [if_pos (by rw [hbe, ← hxl]), hbe]
            have HT := Hid.mk ht
            clear ht hbe hxl
            go_wp2_with fail
            refine (HLE.out _).mono ?_
            rintro e w1 ⟨rfl, rfl⟩
            go_wp2_with fail
            refine (HD.out _).mono ?_
            rintro e w1 ⟨rfl, rfl⟩
            go_wp2_with fail
            (try simp only [Exit.inBlock, Exit.then])
            refine bodyPost_ret (v := .agg #[.int .u8 110, .int .i64 (p : Int), .int .i64 (q : Int), .string ⟨#[]⟩, .int .i64 0]) (by simp [results, Tryz.results45, go_sem]; rfl) rfl ?_
            exact ⟨below1 w _, by rw [HT.out]; exact .inl ⟨rfl, rfl⟩⟩
          have y0 : ¬ x.data.toList = [110, 117, 108, 108] := fun h => z0 (Pl.eq_of_toList h)
          have yb0 : (x.toList == [110, 117, 108, 108]) = false := by rw [Lib.toList_data, beq_eq_false_iff_ne]; exact y0
          by_cases z1 : x = ⟨#[102, 97, 108, 115, 101]⟩
          · subst z1
            have ht : wordT l p = ⟨8, p, q, [], 0⟩ := by unfold wordT; rw [if_neg (by rw [hbe, ← hxl]; exact y0)]; rw [if_pos (by rw [hbe, ← hxl]), hbe]
            have HT := Hid.mk ht
            clear ht hbe hxl z0 y0 yb0
            go_wp2_with fail
            refine (HLE.out _).mono ?_
            rintro e w1 ⟨rfl, rfl⟩
            go_wp2_with fail
            refine (HD.out _).mono ?_
            rintro e w1 ⟨rfl, rfl⟩
            go_wp2_with fail
            (try simp only [Exit.inBlock, Exit.then])
            refine bodyPost_ret (v := .agg #[.int .u8 102, .int .i64 (p : Int), .int .i64 (q : Int), .string ⟨#[]⟩, .int .i64 0]) (by simp [results, Tryz.results45, go_sem]; rfl) rfl ?_
            exact ⟨below1 w _, by rw [HT.out]; exact .inl ⟨rfl, rfl⟩⟩
          have y1 : ¬ x.data.toList = [102, 97, 108, 115, 101] := fun h => z1 (Pl.eq_of_toList h)
          have yb1 : (x.toList == [102, 97, 108, 115, 101]) = false := by rw [Lib.toList_data, beq_eq_false_iff_ne]; exact y1
          by_cases z2 : x = ⟨#[116, 114, 117, 101]⟩
          · subst z2
            have ht : wordT l p = ⟨9, p, q, [], 0⟩ := by unfold wordT; rw [if_neg (by rw [hbe, ← hxl]; exact y0)]; rw [if_neg (by rw [hbe, ← hxl]; exact y1)]; rw [if_pos (by rw [hbe, ← hxl]), hbe]
            have HT := Hid.mk ht
            clear ht hbe hxl z0 y0 yb0 z1 y1 yb1
            go_wp2_with fail
            refine (HLE.out _).mono ?_
            rintro e w1 ⟨rfl, rfl⟩
            go_wp2_with fail
            refine (HD.out _).mono ?_
            rintro e w1 ⟨rfl, rfl⟩
            go_wp2_with fail
            (try simp only [Exit.inBlock, Exit.then])
            refine bodyPost_ret (v := .agg #[.int .u8 116, .int .i64 (p : Int), .int .i64 (q : Int), .string ⟨#[]⟩, .int .i64 0]) (by simp [results, Tryz.results45, go_sem]; rfl) rfl ?_
            exact ⟨below1 w _, by rw [HT.out]; exact .inl ⟨rfl, rfl⟩⟩
          have y2 : ¬ x.data.toList = [116, 114, 117, 101] := fun h => z2 (Pl.eq_of_toList h)
          have yb2 : (x.toList == [116, 114, 117, 101]) = false := by rw [Lib.toList_data, beq_eq_false_iff_ne]; exact y2
          have ht : wordT l p = ⟨0, p, 0, [], 41⟩ := by unfold wordT; rw [if_neg (by rw [hbe, ← hxl]; exact y0), if_neg (by rw [hbe, ← hxl]; exact y1), if_neg (by rw [hbe, ← hxl]; exact y2)]
          have HT := Hid.mk ht
          clear ht hbe hxl z0 z1 z2 y0 y1 y2
          go_wp2_with fail
          refine (HLE.out _).mono ?_
          rintro e w1 ⟨rfl, rfl⟩
          go_wp2_with fail
          refine (HD.out _).mono ?_
          rintro e w1 ⟨rfl, rfl⟩
          go_wp2_with fail
          (try simp only [Exit.inBlock, Exit.then])
          refine bodyPost_ret (v := .agg #[.int .u8 119, .int .i64 (p : Int), .int .i64 (p : Int), .string ⟨#[]⟩, .int .i64 41]) (by simp [results, Tryz.results45, go_sem]) rfl ?_
          exact ⟨below1 w _, by rw [HT.out]; exact .inr ⟨(by show (41 : Nat) ≠ 0; decide), 119, rfl⟩⟩
    · obtain rfl : q = s.size := by omega
      have hi1 : ¬ (s.size : Int) < (s.size : Int) := by omega
      have hbe : behL l p cWd = s.size := by rw [HQ.out, beh_end (by rw [HL.out]; omega), HL.out]
      clear HQ
      obtain ⟨x, hx⟩ : ∃ x, s.extract p s.size = x := ⟨_, rfl⟩
      have hxl : x.data.toList = cut l p s.size := by rw [← hx]; exact HX.out s.size (by omega)
      have h1 : (p : Int) ≤ (s.size : Int) := by omega
      have h2 : (s.size : Int) ≤ (s.size : Int) := by omega
      by_cases z0 : x = ⟨#[110, 117, 108, 108]⟩
      · subst z0
        have ht : wordT l p = ⟨7, p, s.size, [], 0⟩ := by unfold wordT; rw [if_pos (by rw [hbe, ← hxl]), hbe]
        have HT := Hid.mk ht
        clear ht hbe hxl
        go_wp2_with fail
        (try simp only [Exit.inBlock, Exit.then])
        refine bodyPost_ret (v := .agg #[.int .u8 110, .int .i64 (p : Int), .int .i64 (s.size : Int), .string ⟨#[]⟩, .int .i64 0]) (by simp [results, Tryz.results45, go_sem]; rfl) rfl ?_
        exact ⟨below1 w _, by rw [HT.out]; exact .inl ⟨rfl, rfl⟩⟩
      have y0 : ¬ x.data.toList = [110, 117, 108, 108] := fun h => z0 (Pl.eq_of_toList h)
      have yb0 : (x.toList == [110, 117, 108, 108]) = false := by rw [Lib.toList_data, beq_eq_false_iff_ne]; exact y0
      by_cases z1 : x = ⟨#[102, 97, 108, 115, 101]⟩
      · subst z1
        have ht : wordT l p = ⟨8, p, s.size, [], 0⟩ := by unfold wordT; rw [if_neg (by rw [hbe, ← hxl]; exact y0)]; rw [if_pos (by rw [hbe, ← hxl]), hbe]
        have HT := Hid.mk ht
        clear ht hbe hxl z0 y0 yb0
        go_wp2_with fail
        (try simp only [Exit.inBlock, Exit.then])
        refine bodyPost_ret (v := .agg #[.int .u8 102, .int .i64 (p : Int), .int .i64 (s.size : Int), .string ⟨#[]⟩, .int .i64 0]) (by simp [results, Tryz.results45, go_sem]; rfl) rfl ?_
        exact ⟨below1 w _, by rw [HT.out]; exact .inl ⟨rfl, rfl⟩⟩
      have y1 : ¬ x.data.toList = [102, 97, 108, 115, 101] := fun h => z1 (Pl.eq_of_toList h)
      have yb1 : (x.toList == [102, 97, 108, 115, 101]) = false := by rw [Lib.toList_data, beq_eq_false_iff_ne]; exact y1
      by_cases z2 : x = ⟨#[116, 114, 117, 101]⟩
      · subst z2
        have ht : wordT l p = ⟨9, p, s.size, [], 0⟩ := by unfold wordT; rw [if_neg (by rw [hbe, ← hxl]; exact y0)]; rw [if_neg (by rw [hbe, ← hxl]; exact y1)]; rw [if_pos (by rw [hbe, ← hxl]), hbe]
        have HT := Hid.mk ht
        clear ht hbe hxl z0 y0 yb0 z1 y1 yb1
        go_wp2_with fail
        (try simp only [Exit.inBlock, Exit.then])
        refine bodyPost_ret (v := .agg #[.int .u8 116, .int .i64 (p : Int), .int .i64 (s.size : Int), .string ⟨#[]⟩, .int .i64 0]) (by simp [results, Tryz.results45, go_sem]; rfl) rfl ?_
        exact ⟨below1 w _, by rw [HT.out]; exact .inl ⟨rfl, rfl⟩⟩
      have y2 : ¬ x.data.toList = [116, 114, 117, 101] := fun h => z2 (Pl.eq_of_toList h)
      have yb2 : (x.toList == [116, 114, 117, 101]) = false := by rw [Lib.toList_data, beq_eq_false_iff_ne]; exact y2
      have ht : wordT l p = ⟨0, p, 0, [], 41⟩ := by unfold wordT; rw [if_neg (by rw [hbe, ← hxl]; exact y0), if_neg (by rw [hbe, ← hxl]; exact y1), if_neg (by rw [hbe, ← hxl]; exact y2)]
      have HT := Hid.mk ht
      clear ht hbe hxl z0 z1 z2 y0 y1 y2
      go_wp2_with fail
      (try simp only [Exit.inBlock, Exit.then])
      refine bodyPost_ret (v := .agg #[.int .u8 119, .int .i64 (p : Int), .int .i64 (p : Int), .string ⟨#[]⟩, .int .i64 41]) (by simp [results, Tryz.results45, go_sem]) rfl ?_
      exact ⟨below1 w _, by rw [HT.out]; exact .inr ⟨(by show (41 : Nat) ≠ 0; decide), 119, rfl⟩⟩
end Go.Proofs.YtcbngdkekdhfeaaGreatDoor
namespace Go.Proofs.YtcbngdkekdhfeaaGreatDoor
open Go.RowKit Go.Shelf
set_option linter.unusedVariables false
set_option linter.unusedSimpArgs false
attribute [local go_sem] Oper.semAt_some

set_option maxRecDepth 100000 in
set_option maxHeartbeats 8000000 in
theorem cut_inP (E : Nat → Prop) (n : Nat) (hn : 1 ≤ n) (l B : Nat) (s : ByteArray) (ss : s.size ≤ 4294967296)
    (w : World) (hr : rowAt w B = none) (lB : B < w.heap.size) (hE : ∀ b, E b → b < w.heap.size) (hEr : ErrIn w) (hEe : ¬ E 3) (hEl : 3 < w.heap.size)
    (J Jx : List Tok → World → Prop) (Jp : List PanicEntry → List Tok → World → Prop) (W : World) (hW : Below w.heap.size w W) (hJ : AbidesFrom W.heap.size J) (hJx : AbidesFrom W.heap.size Jx)
    (hY : ∀ pre x W1, J pre W1 → pre.length < s.size + 1 → (pre ++ [x] <+: allY s.data.toList) → YieldAt Fence.wide (n - 1) Tryz.prog l (encT x) W1 fun e W' =>
      (e = .returned (.bool true) ∧ J (pre ++ [x]) W' ∧ KpT E B W1 W') ∨ (e = .returned (.bool false) ∧ Jx (pre ++ [x]) W') ∨ (∃ ch, e = .panicked ch ∧ Jp ch (pre ++ [x]) W')) (h0 : J [] W) :
    CallsIn Fence.wide n Tryz.prog 70 #[.string s, .func (.yield l) #[] #[]] W fun e W' => (∃ v, e = .returned v ∧ ((∃ xs, xs = allY s.data.toList ∧ J xs W') ∨ (∃ pre, (pre <+: allY s.data.toList) ∧ Jx pre W'))) ∨ (∃ ch pre, e = .panicked ch ∧ (pre <+: allY s.data.toList) ∧ Jp ch pre W') := by
  have HJ := Hid.mk hJ
  have HY := Hid.mk hY
  have H0 := Hid.mk h0
  have HEr := Hid.mk (hEr.keep hW)
  have HR : Hid (rowAt W B = none) := by
    show rowAt W B = none
    rw [rowAt_below hW lB]; exact hr
  have hws := hW.size
  clear hJ hJx hY h0 hW hr hEr
  have HBl := Hid.mk (fun (p : Nat) u (hp : p ≤ s.size) => w_behind s ⟨#[32, 9, 10, 13]⟩ p u hp (by omega) (by decide) (ascii_all (by decide +kernel)))
  have ebl : (⟨#[32, 9, 10, 13]⟩ : ByteArray).data.toList = cBl := rfl
  rw [ebl] at HBl
  clear ebl
  refine callsIn_of_wp Tryz.func70 rfl trivial ?_ rfl
  simp only [Tryz.ntmps70, List.size_toArray, List.length_cons, List.length_nil, Nat.reduceAdd, Nat.reduceSub, Array.replicate_succ, Array.replicate_zero, List.push_toArray, List.append_toArray, List.nil_append, List.cons_append]
  refine wpIn_wide.2 (wp_scope_straight ((wpIn_wide (n := n)).1 ?_))
  gi_wp2_with fail
  refine ⟨trivial, (callsIn_wide.2 (w_beginnings _)).mono ?_⟩
  rintro e w1 ⟨rfl, hb1⟩
  have HB1 := Hid.mk hb1
  clear hb1
  unfold known fnV cLe cDm
  gi_wp2_with fail
  refine ⟨trivial, (callsIn_wide.2 (HBl.out 0 _ (Nat.zero_le _))).mono ?_⟩
  rintro e w2 ⟨rfl, hb2⟩
  obtain ⟨Bk, hBk⟩ : ∃ Bk, Bk = w1.heap.size := ⟨_, rfl⟩
  have HBk := Hid.mk hBk
  have HS : Hid (CuSt E B Bk w2 ∧ J [] w2) := by
    have hb1 := HB1.out
    have hx := (below1 w1 (.cells known 127))
    have hkn := heap_lowT hb2 (show w1.heap.size < _ by simp) (heap_alloc_new w1 (.cells known 127))
    have hb3 : Below W.heap.size W w2 := (hb1.trans (hx.mono hb1.size)).trans (hb2.mono (by have := hb1.size; simp; omega))
    refine ⟨⟨by rw [hBk]; exact hkn, .inl ?_, HEr.out.keep hb3, ⟨by have := hb1.size; omega, by have := hb1.size; omega, fun h => by have := hE _ h; have := hb1.size; omega, hEe, fun b h => by have := hE _ h; have := hb1.size; omega⟩⟩, ab_below HJ.out H0.out hb3⟩
    rw [rowAt_below hb3 (by omega)]; exact HR.out
  rw [← hBk]
  clear hb2 hBk HB1 H0 HR HEr
  have HAt : Hid (At s.data.toList [] (behL s.data.toList 0 cBl)) := at_start _
  generalize behL s.data.toList 0 cBl = p0 at *
  gi_wp2_with fail
  refine wpIn_label ?_
  gi_wp2_with fail
  gi_loopw [5] (fun a wr => ∃ (p : Nat) (pre : List Tok), p ≤ s.size ∧ a = .int .i64 (p : Int) ∧ Hid (At s.data.toList pre p ∧ CuSt E B Bk wr ∧ J pre wr)) (fun a _ => s.size - (intOf a).toNat)
  case atStart => exact ⟨p0, [], by have := HAt.out.1; rwa [size_lst] at this, rfl, HAt.out, HS.out.1, HS.out.2⟩
  case round =>
    clear HAt HS
    obtain ⟨p, pre, hps, rfl, HQ⟩ := hrel
    have hk0 := cell_of_row _ _ 0 _ _ _ HQ.out.2.1.kn
    have hk1 := cell_of_row _ _ 1 _ _ _ HQ.out.2.1.kn
    have hk2 := cell_of_row _ _ 2 _ _ _ HQ.out.2.1.kn
    have hk3 := cell_of_row _ _ 3 _ _ _ HQ.out.2.1.kn
    have hk4 := cell_of_row _ _ 4 _ _ _ HQ.out.2.1.kn
    have hk5 := cell_of_row _ _ 5 _ _ _ HQ.out.2.1.kn
    have hk6 := cell_of_row _ _ 6 _ _ _ HQ.out.2.1.kn
    have hk7 := cell_of_row _ _ 7 _ _ _ HQ.out.2.1.kn
    unfold known fnV cLe cDm at hk0 hk1 hk2 hk3 hk4 hk5 hk6 hk7
    simp only [List.getElem?_toArray, Array.getElem?_toList, List.getElem?_cons_zero, List.getElem?_cons_succ] at hk0 hk1 hk2 hk3 hk4 hk5 hk6 hk7
    by_cases hlt : p < s.size
    · have hl1 : (p : Int) < (s.size : Int) := by omega
      have hl0 : (0 : Int) ≤ (p : Int) := by omega
      gi_wp2_with fail
      gi_loopw [5, 18] (fun a i wr => ∃ k : Nat, k ≤ 4 ∧ a = .int .i64 (p : Int) ∧ i = .int .i64 (k : Int) ∧ Hid (CuSt E B Bk wr ∧ J pre wr ∧ Missed (s.data.toList.getD p 0) k)) (fun _ i _ => 4 - (intOf i).toNat)
      case atStart => exact ⟨0, by omega, rfl, rfl, HQ.out.2.1, HQ.out.2.2, fun j hj => absurd hj (Nat.not_lt_zero _)⟩
      case round =>
        obtain ⟨k, hk, rfl, rfl, HK⟩ := hrel
        have hmx : Tryz.prog.follows .mixedOrders = true := by kernel_rfl
        have hps2 : p < s.data.toList.length := by rw [size_lst]; exact hlt
        have hlp : pre.length < s.size + 1 := by have := HQ.out.1.2.1; omega
        have hcs : k = 0 ∨ k = 1 ∨ k = 2 ∨ k = 3 ∨ k = 4 := by omega
        rcases hcs with rfl | rfl | rfl | rfl | rfl
        · have HI : Hid (∀ u, Calls Tryz.prog 77 #[.string ⟨#[123, 125, 91, 93, 58, 44]⟩, .int .u8 ((s[p].toNat : Nat) : Int)] u fun e w' => e = .returned (.int .i64 (Lib.indexByte (clsB 0) (s.data.toList.getD p 0))) ∧ w' = u) := fun u => by
            have := Tryz.strings_IndexByte ⟨#[123, 125, 91, 93, 58, 44]⟩ ((s[p].toNat : Nat) : Int) u
            rw [byte_back] at this
            rw [getD_byte hlt]; exact this
          have hixk := ixk_0
          have hbx := Hid.mk ((below1 wr (.cells #[.string ⟨#[123, 125, 91, 93, 58, 44]⟩, .func (.func 83) #[] #[]] 126)).drew)
          have HKd : Hid (CuSt E B Bk (wr.alloc (.cells #[.string ⟨#[123, 125, 91, 93, 58, 44]⟩, .func (.func 83) #[] #[]] 126)).drew ∧ J pre (wr.alloc (.cells #[.string ⟨#[123, 125, 91, 93, 58, 44]⟩, .func (.func 83) #[] #[]] 126)).drew) := ⟨HK.out.1.keep hbx.out, ab_below HJ.out HK.out.2.1 hbx.out⟩
          clear hbx
          cases hc : (clsB 0).contains (s.data.toList.getD p 0) with
          | false =>
            have hi := ix_no hc
            have HM : Hid (Missed (s.data.toList.getD p 0) 1) := HK.out.2.2.up hc
            generalize Lib.indexByte (clsB 0) (s.data.toList.getD p 0) = ix at *
            clear hc HK
            gi_wp2_with fail
            gi_region_with_o (refine ⟨trivial, ?_⟩; gi_at_call 77; refine (callsIn_wide.2 (HI.out _)).mono ?_; rintro e w' ⟨rfl, hw⟩; obtain rfl := hw.symm)
            all_goals
              gi_wp2_with fail
              go_roundw
              case rel => exact ⟨1, by omega, rfl, by go_num, HKd.out.1, HKd.out.2, HM.out⟩
              case measure => simp [intOf]
          | true =>
            have hi : ¬ Lib.indexByte (clsB 0) (s.data.toList.getD p 0) < 0 := by have := (indexB_has _ _).1 hc; omega
            have HT : Hid (∀ u, ErrIn u → Calls Tryz.prog 83 #[.string s, .int .i64 (p : Int)] u fun e w' => TokR (nextT s.data.toList p) u w' e) := fun u hu => by rw [next_0 hc]; exact w_mark s p u hlt (by omega) hc
            generalize Lib.indexByte (clsB 0) (s.data.toList.getD p 0) = ix at *
            clear hc HK
            have HTk := Hid.mk (tok_at HQ.out.1 hps2)
            obtain ⟨t, ht⟩ : ∃ t, nextT s.data.toList p = t := ⟨_, rfl⟩
            rw [ht] at HT HTk
            clear ht
            obtain ⟨kd, pa, fi, tx, er⟩ := t
            unfold TokR tokV at HT
            dsimp only at HT
            gi_wp2_with fail
            gi_region_with_o (refine ⟨trivial, ?_⟩; gi_at_call 77; refine (callsIn_wide.2 (HI.out _)).mono ?_; rintro e w' ⟨rfl, hw⟩; obtain rfl := hw.symm)
            all_goals
              gi_wp2_with fail
              refine ⟨trivial, (callsIn_wide.2 (HT.out _ HKd.out.1.err)).mono ?_⟩
              rintro e w3 ⟨rfl, hb3⟩
              have HK3 : Hid (CuSt E B Bk w3 ∧ J pre w3) := ⟨HKd.out.1.keep hb3, ab_below HJ.out HKd.out.2 hb3⟩
              clear hb3
              have HJ3 := Hid.mk (ab_below HJ.out HK3.out.2 (below1 w3 (.cells #[.int .i64 (kd : Int), .int .i64 (pa : Int), .int .i64 (fi : Int), .string ⟨tx.toArray⟩] 90)))
              obtain ⟨fn, tmps, assign, body, hy, hR⟩ := HY.out _ ⟨kd, pa, fi, tx, er⟩ _ HJ3.out hlp HTk.out.1
              unfold encT tokV at hy
              dsimp only at hy
              have HRd := Hid.mk hR
              clear hR HJ3
              gi_wp2_with fail
              refine HRd.out.mono ?_
              rintro e W4 (⟨rfl, hJ4, hk4⟩ | ⟨rfl, hJx4⟩ | ⟨ch, rfl, hJp4⟩)
              · by_cases he : er = 0
                · subst he
                  obtain ⟨hT1, hT2, hT3⟩ := HTk.out.2.2 rfl
                  have hfs : fi ≤ s.size := by rw [size_lst] at hT1; exact hT1
                  have HC4 := Hid.mk ((HK3.out.1.keep (below1 w3 _)).round hk4)
                  have hce : W4.cell? ⟨w3.heap.size, 2, none⟩ = some (.int .i64 (fi : Int)) := HK3.out.1.fresh hk4 (cell_of_row _ _ 2 _ _ _ (heap_alloc_new w3 _))
                  have HJ4 := Hid.mk hJ4
                  have HN := Hid.mk (And.intro hT2 hT3)
                  (try dsimp only at HN)
                  clear hJ4 hk4 hy hT1 hT2 hT3
                  gi_wp2_with fail
                  refine ⟨trivial, (callsIn_wide.2 (HBl.out fi _ hfs)).mono ?_⟩
                  rintro e w5 ⟨rfl, hb5⟩
                  have HS5 : Hid (CuSt E B Bk w5 ∧ J (pre ++ [⟨kd, pa, fi, tx, 0⟩]) w5) := ⟨HC4.out.keep hb5, ab_below HJ.out HJ4.out hb5⟩
                  clear hb5 hce HC4 HJ4
                  generalize behL s.data.toList fi cBl = pn at *
                  gi_wp2_with fail
                  go_roundw
                  case rel => exact ⟨pn, _, by have := HN.out.1.1; rwa [size_lst] at this, rfl, HN.out.1, HS5.out.1, HS5.out.2⟩
                  case measure => have := HN.out.2; simp [intOf]; omega
                · have heb : (((er : Nat) : Int) == 0) = false := by rw [beq_eq_false_iff_ne]; omega
                  have HF : Hid (J (allY s.data.toList) W4) := by have := HTk.out.2.1 he; rw [this]; exact hJ4
                  clear hJ4 hk4 hy he
                  gi_wp2_with fail
                  (try rw [Exit.noGoto_ret])
                  refine bodyPost_ret (results_none rfl _ _ _) rfl ?_
                  exact .inl ⟨_, rfl, .inl ⟨_, rfl, HF.out⟩⟩
              · have HX := Hid.mk hJx4
                clear hJx4 hy
                gi_wp2_with fail
                (try rw [Exit.noGoto_ret])
                refine bodyPost_ret (results_none rfl _ _ _) rfl ?_
                exact .inl ⟨_, rfl, .inr ⟨_, HTk.out.1, HX.out⟩⟩
              · have HX := Hid.mk hJp4
                clear hJp4 hy
                first | exact ⟨rfl, .inr ⟨ch, _, rfl, HTk.out.1, HX.out⟩⟩ | exact .inr ⟨ch, _, rfl, HTk.out.1, HX.out⟩
        · have HI : Hid (∀ u, Calls Tryz.prog 77 #[.string ⟨#[34]⟩, .int .u8 ((s[p].toNat : Nat) : Int)] u fun e w' => e = .returned (.int .i64 (Lib.indexByte (clsB 1) (s.data.toList.getD p 0))) ∧ w' = u) := fun u => by
            have := Tryz.strings_IndexByte ⟨#[34]⟩ ((s[p].toNat : Nat) : Int) u
            rw [byte_back] at this
            rw [getD_byte hlt]; exact this
          have hixk := ixk_1
          have hbx := Hid.mk ((below1 wr (.cells #[.string ⟨#[34]⟩, .func (.func 84) #[] #[]] 126)).drew)
          have HKd : Hid (CuSt E B Bk (wr.alloc (.cells #[.string ⟨#[34]⟩, .func (.func 84) #[] #[]] 126)).drew ∧ J pre (wr.alloc (.cells #[.string ⟨#[34]⟩, .func (.func 84) #[] #[]] 126)).drew) := ⟨HK.out.1.keep hbx.out, ab_below HJ.out HK.out.2.1 hbx.out⟩
          clear hbx
          cases hc : (clsB 1).contains (s.data.toList.getD p 0) with
          | false =>
            have hi := ix_no hc
            have HM : Hid (Missed (s.data.toList.getD p 0) 2) := HK.out.2.2.up hc
            generalize Lib.indexByte (clsB 1) (s.data.toList.getD p 0) = ix at *
            clear hc HK
            gi_wp2_with fail
            gi_region_with_o (refine ⟨trivial, ?_⟩; gi_at_call 77; refine (callsIn_wide.2 (HI.out _)).mono ?_; rintro e w' ⟨rfl, hw⟩; obtain rfl := hw.symm)
            all_goals
              gi_wp2_with fail
              go_roundw
              case rel => exact ⟨2, by omega, rfl, by go_num, HKd.out.1, HKd.out.2, HM.out⟩
              case measure => simp [intOf]
          | true =>
            have hi : ¬ Lib.indexByte (clsB 1) (s.data.toList.getD p 0) < 0 := by have := (indexB_has _ _).1 hc; omega
            have HT : Hid (∀ u, ErrIn u → Calls Tryz.prog 84 #[.string s, .int .i64 (p : Int)] u fun e w' => TokR (nextT s.data.toList p) u w' e) := fun u hu => by obtain ⟨e1, e2⟩ := next_1 HK.out.2.2 hc; rw [e1]; exact w_literal s p u hlt (by omega) (by rw [← getD_byte hlt]; exact e2) hu
            generalize Lib.indexByte (clsB 1) (s.data.toList.getD p 0) = ix at *
            clear hc HK
            have HTk := Hid.mk (tok_at HQ.out.1 hps2)
            obtain ⟨t, ht⟩ : ∃ t, nextT s.data.toList p = t := ⟨_, rfl⟩
            rw [ht] at HT HTk
            clear ht
            obtain ⟨kd, pa, fi, tx, er⟩ := t
            unfold TokR tokV at HT
            dsimp only at HT
            gi_wp2_with fail
            gi_region_with_o (refine ⟨trivial, ?_⟩; gi_at_call 77; refine (callsIn_wide.2 (HI.out _)).mono ?_; rintro e w' ⟨rfl, hw⟩; obtain rfl := hw.symm)
            all_goals
              gi_wp2_with fail
              refine ⟨trivial, (callsIn_wide.2 (HT.out _ HKd.out.1.err)).mono ?_⟩
              rintro e w3 ⟨rfl, hb3⟩
              have HK3 : Hid (CuSt E B Bk w3 ∧ J pre w3) := ⟨HKd.out.1.keep hb3, ab_below HJ.out HKd.out.2 hb3⟩
              clear hb3
              have HJ3 := Hid.mk (ab_below HJ.out HK3.out.2 (below1 w3 (.cells #[.int .i64 (kd : Int), .int .i64 (pa : Int), .int .i64 (fi : Int), .string ⟨tx.toArray⟩] 90)))
              obtain ⟨fn, tmps, assign, body, hy, hR⟩ := HY.out _ ⟨kd, pa, fi, tx, er⟩ _ HJ3.out hlp HTk.out.1
              unfold encT tokV at hy
              dsimp only at hy
              have HRd := Hid.mk hR
              clear hR HJ3
              gi_wp2_with fail
              refine HRd.out.mono ?_
              rintro e W4 (⟨rfl, hJ4, hk4⟩ | ⟨rfl, hJx4⟩ | ⟨ch, rfl, hJp4⟩)
              · by_cases he : er = 0
                · subst he
                  obtain ⟨hT1, hT2, hT3⟩ := HTk.out.2.2 rfl
                  have hfs : fi ≤ s.size := by rw [size_lst] at hT1; exact hT1
                  have HC4 := Hid.mk ((HK3.out.1.keep (below1 w3 _)).round hk4)
                  have hce : W4.cell? ⟨w3.heap.size, 2, none⟩ = some (.int .i64 (fi : Int)) := HK3.out.1.fresh hk4 (cell_of_row _ _ 2 _ _ _ (heap_alloc_new w3 _))
                  have HJ4 := Hid.mk hJ4
                  have HN := Hid.mk (And.intro hT2 hT3)
                  (try dsimp only at HN)
                  clear hJ4 hk4 hy hT1 hT2 hT3
                  gi_wp2_with fail
                  refine ⟨trivial, (callsIn_wide.2 (HBl.out fi _ hfs)).mono ?_⟩
                  rintro e w5 ⟨rfl, hb5⟩
                  have HS5 : Hid (CuSt E B Bk w5 ∧ J (pre ++ [⟨kd, pa, fi, tx, 0⟩]) w5) := ⟨HC4.out.keep hb5, ab_below HJ.out HJ4.out hb5⟩
                  clear hb5 hce HC4 HJ4
                  generalize behL s.data.toList fi cBl = pn at *
                  gi_wp2_with fail
                  go_roundw
                  case rel => exact ⟨pn, _, by have := HN.out.1.1; rwa [size_lst] at this, rfl, HN.out.1, HS5.out.1, HS5.out.2⟩
                  case measure => have := HN.out.2; simp [intOf]; omega
                · have heb : (((er : Nat) : Int) == 0) = false := by rw [beq_eq_false_iff_ne]; omega
                  have HF : Hid (J (allY s.data.toList) W4) := by have := HTk.out.2.1 he; rw [this]; exact hJ4
                  clear hJ4 hk4 hy he
                  gi_wp2_with fail
                  (try rw [Exit.noGoto_ret])
                  refine bodyPost_ret (results_none rfl _ _ _) rfl ?_
                  exact .inl ⟨_, rfl, .inl ⟨_, rfl, HF.out⟩⟩
              · have HX := Hid.mk hJx4
                clear hJx4 hy
                gi_wp2_with fail
                (try rw [Exit.noGoto_ret])
                refine bodyPost_ret (results_none rfl _ _ _) rfl ?_
                exact .inl ⟨_, rfl, .inr ⟨_, HTk.out.1, HX.out⟩⟩
              · have HX := Hid.mk hJp4
                clear hJp4 hy
                first | exact ⟨rfl, .inr ⟨ch, _, rfl, HTk.out.1, HX.out⟩⟩ | exact .inr ⟨ch, _, rfl, HTk.out.1, HX.out⟩
        · have HI : Hid (∀ u, Calls Tryz.prog 77 #[.string ⟨#[97, 98, 99, 100, 101, 102, 103, 104, 105, 106, 107, 108, 109, 110, 111, 112, 113, 114, 115, 116, 117, 118, 119, 120, 121, 122, 65, 66, 67, 68, 69, 70, 71, 72, 73, 74, 75, 76, 77, 78, 79, 80, 81, 82, 83, 84, 85, 86, 87, 88, 89, 90, 95]⟩, .int .u8 ((s[p].toNat : Nat) : Int)] u fun e w' => e = .returned (.int .i64 (Lib.indexByte (clsB 2) (s.data.toList.getD p 0))) ∧ w' = u) := fun u => by
            have := Tryz.strings_IndexByte ⟨#[97, 98, 99, 100, 101, 102, 103, 104, 105, 106, 107, 108, 109, 110, 111, 112, 113, 114, 115, 116, 117, 118, 119, 120, 121, 122, 65, 66, 67, 68, 69, 70, 71, 72, 73, 74, 75, 76, 77, 78, 79, 80, 81, 82, 83, 84, 85, 86, 87, 88, 89, 90, 95]⟩ ((s[p].toNat : Nat) : Int) u
            rw [byte_back] at this
            rw [getD_byte hlt]; exact this
          have hixk := ixk_2
          have hbx := Hid.mk ((below1 wr (.cells #[.string ⟨#[97, 98, 99, 100, 101, 102, 103, 104, 105, 106, 107, 108, 109, 110, 111, 112, 113, 114, 115, 116, 117, 118, 119, 120, 121, 122, 65, 66, 67, 68, 69, 70, 71, 72, 73, 74, 75, 76, 77, 78, 79, 80, 81, 82, 83, 84, 85, 86, 87, 88, 89, 90, 95]⟩, .func (.func 85) #[] #[]] 126)).drew)
          have HKd : Hid (CuSt E B Bk (wr.alloc (.cells #[.string ⟨#[97, 98, 99, 100, 101, 102, 103, 104, 105, 106, 107, 108, 109, 110, 111, 112, 113, 114, 115, 116, 117, 118, 119, 120, 121, 122, 65, 66, 67, 68, 69, 70, 71, 72, 73, 74, 75, 76, 77, 78, 79, 80, 81, 82, 83, 84, 85, 86, 87, 88, 89, 90, 95]⟩, .func (.func 85) #[] #[]] 126)).drew ∧ J pre (wr.alloc (.cells #[.string ⟨#[97, 98, 99, 100, 101, 102, 103, 104, 105, 106, 107, 108, 109, 110, 111, 112, 113, 114, 115, 116, 117, 118, 119, 120, 121, 122, 65, 66, 67, 68, 69, 70, 71, 72, 73, 74, 75, 76, 77, 78, 79, 80, 81, 82, 83, 84, 85, 86, 87, 88, 89, 90, 95]⟩, .func (.func 85) #[] #[]] 126)).drew) := ⟨HK.out.1.keep hbx.out, ab_below HJ.out HK.out.2.1 hbx.out⟩
          clear hbx
          cases hc : (clsB 2).contains (s.data.toList.getD p 0) with
          | false =>
            have hi := ix_no hc
            have HM : Hid (Missed (s.data.toList.getD p 0) 3) := HK.out.2.2.up hc
            generalize Lib.indexByte (clsB 2) (s.data.toList.getD p 0) = ix at *
            clear hc HK
            gi_wp2_with fail
            gi_region_with_o (refine ⟨trivial, ?_⟩; gi_at_call 77; refine (callsIn_wide.2 (HI.out _)).mono ?_; rintro e w' ⟨rfl, hw⟩; obtain rfl := hw.symm)
            all_goals
              gi_wp2_with fail
              go_roundw
              case rel => exact ⟨3, by omega, rfl, by go_num, HKd.out.1, HKd.out.2, HM.out⟩
              case measure => simp [intOf]
          | true =>
            have hi : ¬ Lib.indexByte (clsB 2) (s.data.toList.getD p 0) < 0 := by have := (indexB_has _ _).1 hc; omega
            have HT : Hid (∀ u, ErrIn u → Calls Tryz.prog 85 #[.string s, .int .i64 (p : Int)] u fun e w' => TokR (nextT s.data.toList p) u w' e) := fun u hu => by rw [next_2 HK.out.2.2 hc]; exact w_word s p u hlt (by omega)
            generalize Lib.indexByte (clsB 2) (s.data.toList.getD p 0) = ix at *
            clear hc HK
            have HTk := Hid.mk (tok_at HQ.out.1 hps2)
            obtain ⟨t, ht⟩ : ∃ t, nextT s.data.toList p = t := ⟨_, rfl⟩
            rw [ht] at HT HTk
            clear ht
            obtain ⟨kd, pa, fi, tx, er⟩ := t
            unfold TokR tokV at HT
            dsimp only at HT
            gi_wp2_with fail
            gi_region_with_o (refine ⟨trivial, ?_⟩; gi_at_call 77; refine (callsIn_wide.2 (HI.out _)).mono ?_; rintro e w' ⟨rfl, hw⟩; obtain rfl := hw.symm)
            all_goals
              gi_wp2_with fail
              refine ⟨trivial, (callsIn_wide.2 (HT.out _ HKd.out.1.err)).mono ?_⟩
              rintro e w3 ⟨rfl, hb3⟩
              have HK3 : Hid (CuSt E B Bk w3 ∧ J pre w3) := ⟨HKd.out.1.keep hb3, ab_below HJ.out HKd.out.2 hb3⟩
              clear hb3
              have HJ3 := Hid.mk (ab_below HJ.out HK3.out.2 (below1 w3 (.cells #[.int .i64 (kd : Int), .int .i64 (pa : Int), .int .i64 (fi : Int), .string ⟨tx.toArray⟩] 90)))
              obtain ⟨fn, tmps, assign, body, hy, hR⟩ := HY.out _ ⟨kd, pa, fi, tx, er⟩ _ HJ3.out hlp HTk.out.1
              unfold encT tokV at hy
              dsimp only at hy
              have HRd := Hid.mk hR
              clear hR HJ3
              gi_wp2_with fail
              refine HRd.out.mono ?_
              rintro e W4 (⟨rfl, hJ4, hk4⟩ | ⟨rfl, hJx4⟩ | ⟨ch, rfl, hJp4⟩)
              · by_cases he : er = 0
                · subst he
                  obtain ⟨hT1, hT2, hT3⟩ := HTk.out.2.2 rfl
                  have hfs : fi ≤ s.size := by rw [size_lst] at hT1; exact hT1
                  have HC4 := Hid.mk ((HK3.out.1.keep (below1 w3 _)).round hk4)
                  have hce : W4.cell? ⟨w3.heap.size, 2, none⟩ = some (.int .i64 (fi : Int)) := HK3.out.1.fresh hk4 (cell_of_row _ _ 2 _ _ _ (heap_alloc_new w3 _))
                  have HJ4 := Hid.mk hJ4
                  have HN := Hid.mk (And.intro hT2 hT3)
                  (try dsimp only at HN)
                  clear hJ4 hk4 hy hT1 hT2 hT3
                  gi_wp2_with fail
                  refine ⟨trivial, (callsIn_wide.2 (HBl.out fi _ hfs)).mono ?_⟩
                  rintro e w5 ⟨rfl, hb5⟩
                  have HS5 : Hid (CuSt E B Bk w5 ∧ J (pre ++ [⟨kd, pa, fi, tx, 0⟩]) w5) := ⟨HC4.out.keep hb5, ab_below HJ.out HJ4.out hb5⟩
                  clear hb5 hce HC4 HJ4
                  generalize behL s.data.toList fi cBl = pn at *
                  gi_wp2_with fail
                  go_roundw
                  case rel => exact ⟨pn, _, by have := HN.out.1.1; rwa [size_lst] at this, rfl, HN.out.1, HS5.out.1, HS5.out.2⟩
                  case measure => have := HN.out.2; simp [intOf]; omega
                · have heb : (((er : Nat) : Int) == 0) = false := by rw [beq_eq_false_iff_ne]; omega
                  have HF : Hid (J (allY s.data.toList) W4) := by have := HTk.out.2.1 he; rw [this]; exact hJ4
                  clear hJ4 hk4 hy he
                  gi_wp2_with fail
                  (try rw [Exit.noGoto_ret])
                  refine bodyPost_ret (results_none rfl _ _ _) rfl ?_
                  exact .inl ⟨_, rfl, .inl ⟨_, rfl, HF.out⟩⟩
              · have HX := Hid.mk hJx4
                clear hJx4 hy
                gi_wp2_with fail
                (try rw [Exit.noGoto_ret])
                refine bodyPost_ret (results_none rfl _ _ _) rfl ?_
                exact .inl ⟨_, rfl, .inr ⟨_, HTk.out.1, HX.out⟩⟩
              · have HX := Hid.mk hJp4
                clear hJp4 hy
                first | exact ⟨rfl, .inr ⟨ch, _, rfl, HTk.out.1, HX.out⟩⟩ | exact .inr ⟨ch, _, rfl, HTk.out.1, HX.out⟩
        · have HI : Hid (∀ u, Calls Tryz.prog 77 #[.string ⟨#[48, 49, 50, 51, 52, 53, 54, 55, 56, 57, 45]⟩, .int .u8 ((s[p].toNat : Nat) : Int)] u fun e w' => e = .returned (.int .i64 (Lib.indexByte (clsB 3) (s.data.toList.getD p 0))) ∧ w' = u) := fun u => by
            have := Tryz.strings_IndexByte ⟨#[48, 49, 50, 51, 52, 53, 54, 55, 56, 57, 45]⟩ ((s[p].toNat : Nat) : Int) u
            rw [byte_back] at this
            rw [getD_byte hlt]; exact this
          have hixk := ixk_3
          have hbx := Hid.mk ((below1 wr (.cells #[.string ⟨#[48, 49, 50, 51, 52, 53, 54, 55, 56, 57, 45]⟩, .func (.func 86) #[] #[]] 126)).drew)
          have HKd : Hid (CuSt E B Bk (wr.alloc (.cells #[.string ⟨#[48, 49, 50, 51, 52, 53, 54, 55, 56, 57, 45]⟩, .func (.func 86) #[] #[]] 126)).drew ∧ J pre (wr.alloc (.cells #[.string ⟨#[48, 49, 50, 51, 52, 53, 54, 55, 56, 57, 45]⟩, .func (.func 86) #[] #[]] 126)).drew) := ⟨HK.out.1.keep hbx.out, ab_below HJ.out HK.out.2.1 hbx.out⟩
          clear hbx
          cases hc : (clsB 3).contains (s.data.toList.getD p 0) with
          | false =>
            have hi := ix_no hc
            have HM : Hid (Missed (s.data.toList.getD p 0) 4) := HK.out.2.2.up hc
            generalize Lib.indexByte (clsB 3) (s.data.toList.getD p 0) = ix at *
            clear hc HK
            gi_wp2_with fail
            gi_region_with_o (refine ⟨trivial, ?_⟩; gi_at_call 77; refine (callsIn_wide.2 (HI.out _)).mono ?_; rintro e w' ⟨rfl, hw⟩; obtain rfl := hw.symm)
            all_goals
              gi_wp2_with fail
              go_roundw
              case rel => exact ⟨4, by omega, rfl, by go_num, HKd.out.1, HKd.out.2, HM.out⟩
              case measure => simp [intOf]
          | true =>
            have hi : ¬ Lib.indexByte (clsB 3) (s.data.toList.getD p 0) < 0 := by have := (indexB_has _ _).1 hc; omega
            have HT : Hid (∀ u, ErrIn u → Calls Tryz.prog 86 #[.string s, .int .i64 (p : Int)] u fun e w' => TokR (nextT s.data.toList p) u w' e) := fun u hu => by rw [next_3 HK.out.2.2 hc]; exact w_numeral s p u hlt (by omega)
            generalize Lib.indexByte (clsB 3) (s.data.toList.getD p 0) = ix at *
            clear hc HK
            have HTk := Hid.mk (tok_at HQ.out.1 hps2)
            obtain ⟨t, ht⟩ : ∃ t, nextT s.data.toList p = t := ⟨_, rfl⟩
            rw [ht] at HT HTk
            clear ht
            obtain ⟨kd, pa, fi, tx, er⟩ := t
            unfold TokR tokV at HT
            dsimp only at HT
            gi_wp2_with fail
            gi_region_with_o (refine ⟨trivial, ?_⟩; gi_at_call 77; refine (callsIn_wide.2 (HI.out _)).mono ?_; rintro e w' ⟨rfl, hw⟩; obtain rfl := hw.symm)
            all_goals
              gi_wp2_with fail
              refine ⟨trivial, (callsIn_wide.2 (HT.out _ HKd.out.1.err)).mono ?_⟩
              rintro e w3 ⟨rfl, hb3⟩
              have HK3 : Hid (CuSt E B Bk w3 ∧ J pre w3) := ⟨HKd.out.1.keep hb3, ab_below HJ.out HKd.out.2 hb3⟩
              clear hb3
              have HJ3 := Hid.mk (ab_below HJ.out HK3.out.2 (below1 w3 (.cells #[.int .i64 (kd : Int), .int .i64 (pa : Int), .int .i64 (fi : Int), .string ⟨tx.toArray⟩] 90)))
              obtain ⟨fn, tmps, assign, body, hy, hR⟩ := HY.out _ ⟨kd, pa, fi, tx, er⟩ _ HJ3.out hlp HTk.out.1
              unfold encT tokV at hy
              dsimp only at hy
              have HRd := Hid.mk hR
              clear hR HJ3
              gi_wp2_with fail
              refine HRd.out.mono ?_
              rintro e W4 (⟨rfl, hJ4, hk4⟩ | ⟨rfl, hJx4⟩ | ⟨ch, rfl, hJp4⟩)
              · by_cases he : er = 0
                · subst he
                  obtain ⟨hT1, hT2, hT3⟩ := HTk.out.2.2 rfl
                  have hfs : fi ≤ s.size := by rw [size_lst] at hT1; exact hT1
                  have HC4 := Hid.mk ((HK3.out.1.keep (below1 w3 _)).round hk4)
                  have hce : W4.cell? ⟨w3.heap.size, 2, none⟩ = some (.int .i64 (fi : Int)) := HK3.out.1.fresh hk4 (cell_of_row _ _ 2 _ _ _ (heap_alloc_new w3 _))
                  have HJ4 := Hid.mk hJ4
                  have HN := Hid.mk (And.intro hT2 hT3)
                  (try dsimp only at HN)
                  clear hJ4 hk4 hy hT1 hT2 hT3
                  gi_wp2_with fail
                  refine ⟨trivial, (callsIn_wide.2 (HBl.out fi _ hfs)).mono ?_⟩
                  rintro e w5 ⟨rfl, hb5⟩
                  have HS5 : Hid (CuSt E B Bk w5 ∧ J (pre ++ [⟨kd, pa, fi, tx, 0⟩]) w5) := ⟨HC4.out.keep hb5, ab_below HJ.out HJ4.out hb5⟩
                  clear hb5 hce HC4 HJ4
                  generalize behL s.data.toList fi cBl = pn at *
                  gi_wp2_with fail
                  go_roundw
                  case rel => exact ⟨pn, _, by have := HN.out.1.1; rwa [size_lst] at this, rfl, HN.out.1, HS5.out.1, HS5.out.2⟩
                  case measure => have := HN.out.2; simp [intOf]; omega
                · have heb : (((er : Nat) : Int) == 0) = false := by rw [beq_eq_false_iff_ne]; omega
                  have HF : Hid (J (allY s.data.toList) W4) := by have := HTk.out.2.1 he; rw [this]; exact hJ4
                  clear hJ4 hk4 hy he
                  gi_wp2_with fail
                  (try rw [Exit.noGoto_ret])
                  refine bodyPost_ret (results_none rfl _ _ _) rfl ?_
                  exact .inl ⟨_, rfl, .inl ⟨_, rfl, HF.out⟩⟩
              · have HX := Hid.mk hJx4
                clear hJx4 hy
                gi_wp2_with fail
                (try rw [Exit.noGoto_ret])
                refine bodyPost_ret (results_none rfl _ _ _) rfl ?_
                exact .inl ⟨_, rfl, .inr ⟨_, HTk.out.1, HX.out⟩⟩
              · have HX := Hid.mk hJp4
                clear hJp4 hy
                first | exact ⟨rfl, .inr ⟨ch, _, rfl, HTk.out.1, HX.out⟩⟩ | exact .inr ⟨ch, _, rfl, HTk.out.1, HX.out⟩
        · have HM := Hid.mk HK.out.2.2
          have HTk := Hid.mk (tok_at HQ.out.1 hps2)
          rw [next_4 HM.out] at HTk
          gi_wp2_with fail
          refine ⟨trivial, (callsIn_wide.2 (w_fault _ _ _)).mono ?_⟩
          rintro e w3 ⟨rfl, hb3⟩
          have HJ3 := Hid.mk (ab_below HJ.out HK.out.2.1 hb3)
          clear hb3
          obtain ⟨fn, tmps, assign, body, hy, hR⟩ := HY.out _ ⟨0, p, 0, [], 40⟩ _ HJ3.out hlp HTk.out.1
          replace hy : (Instr.yield l #[.agg #[.int .i64 0, .int .i64 (p : Int), .int .i64 0, .string ⟨#[]⟩], .int .i64 40]).run Tryz.prog w3 = .ok (.round l fn tmps assign body) w3 := hy
          have HRd := Hid.mk hR
          clear hR HJ3
          gi_wp2_with fail
          refine HRd.out.mono ?_
          rintro e W4 (⟨rfl, hJ4, hk4⟩ | ⟨rfl, hJx4⟩ | ⟨ch, rfl, hJp4⟩)
          · have HF : Hid (J (allY s.data.toList) W4) := by have := HTk.out.2.1 (by decide); rw [this]; exact hJ4
            clear hJ4 hk4 hy
            gi_wp2_with fail
            (try rw [Exit.noGoto_ret])
            refine bodyPost_ret (results_none rfl _ _ _) rfl ?_
            exact .inl ⟨_, rfl, .inl ⟨_, rfl, HF.out⟩⟩
          · have HX := Hid.mk hJx4
            clear hJx4 hy
            gi_wp2_with fail
            (try rw [Exit.noGoto_ret])
            refine bodyPost_ret (results_none rfl _ _ _) rfl ?_
            exact .inl ⟨_, rfl, .inr ⟨_, HTk.out.1, HX.out⟩⟩
          · have HX := Hid.mk hJp4
            clear hJp4 hy
            first | exact ⟨rfl, .inr ⟨ch, _, rfl, HTk.out.1, HX.out⟩⟩ | exact .inr ⟨ch, _, rfl, HTk.out.1, HX.out⟩
    · have hl1 : ¬ (p : Int) < (s.size : Int) := by omega
      have HF : Hid (J (allY s.data.toList) wr) := by rw [HQ.out.1.done (by rw [size_lst]; exact hlt)]; exact HQ.out.2.2
      gi_wp2_with fail
      go_end0
      first | exact .inl ⟨_, rfl, .inl HF.out⟩ | exact .inl ⟨_, rfl, .inl ⟨_, rfl, HF.out⟩⟩ | exact .inl (.inl HF.out) | (simp; exact .inl HF.out)

end Go.Proofs.YtcbngdkekdhfeaaGreatDoor
namespace Go.Proofs.YtcbngdkekdhfeaaGreatDoor
open Go.RowKit
set_option linter.unusedVariables false
set_option linter.unusedSimpArgs false

def rgtB (d : List UInt8) : Bool := match d with | [] => false | c :: r => !(decide (c.toNat = 48)) || decide (r.length = 0)
theorem rgt0 {d : ByteArray} (h : d.size = 0) : rgtB d.data.toList = false := by
  have := size_lst d
  rw [h] at this
  rw [List.eq_nil_of_length_eq_zero this]; rfl
theorem rgt_cons {d : ByteArray} (h : 0 < d.size) : rgtB d.data.toList = (!(decide (d[0].toNat = 48)) || decide (d.size = 1)) := by
  have := size_lst d
  rw [Pl.toList_cons d h] at this ⊢
  unfold rgtB
  dsimp only
  rw [List.length_cons] at this
  congr 1
  rw [decide_eq_decide]
  omega
theorem rgt1 {d : ByteArray} (h : d.size = 1) : rgtB d.data.toList = true := by rw [rgt_cons (by omega)]; simp [h]
theorem rgt2 {d : ByteArray} (h : 0 < d.size) (h0 : d[0].toNat = 48) (h1 : ¬ d.size = 1) : rgtB d.data.toList = false := by rw [rgt_cons h]; simp [h0, h1]
theorem rgt3 {d : ByteArray} (h : 0 < d.size) (h0 : ¬ d[0].toNat = 48) : rgtB d.data.toList = true := by rw [rgt_cons h]; simp [h0]
theorem body_48 {n : List UInt8} (h : Pl.body n = [48]) : n = [48] ∨ n = [45, 48] := by
  unfold Pl.body at h
  cases n with
  | nil => cases h
  | cons c r =>
    rw [Pl.neg_cons] at h
    split at h
    · next hc =>
      right
      rw [List.tail_cons] at h
      rw [h]
      have : c = 45 := by apply UInt8.toNat_inj.1; simpa using hc
      rw [this]
    · exact .inl h
theorem numT_48 {n : List UInt8} (h : Pl.body n = [48]) : numT n = [48] := by
  rcases body_48 h with rfl | rfl <;> decide
theorem numT_not {n : List UInt8} (h : ¬ Pl.body n = [48]) : numT n = n := by
  unfold numT
  rw [if_neg (fun e => h (by rw [e]; decide))]
theorem all_dig (d : List UInt8) : d.all Pl.isDig = d.all (cDg.contains ·) := by
  congr 1
  funext c
  rw [digit_tab]
  unfold Pl.isDig
  rw [Bool.decide_and]
theorem formed_numT (n : List UInt8) : Pl.formed (numT n) = (rgtB (Pl.body n) && (Pl.body n).all (cDg.contains ·)) := by
  by_cases hb : Pl.body n = [48]
  · rw [numT_48 hb, hb]; decide
  · rw [numT_not hb, Pl.formed_not n (fun e => hb (by rw [e]; decide)), ← all_dig]
    cases hd : Pl.body n with
    | nil => rfl
    | cons c r =>
      unfold Pl.plainB rgtB
      dsimp only
      by_cases hc : c.toNat = 48
      · by_cases hr : r.length = 0
        · exfalso
          apply hb
          rw [hd, List.eq_nil_of_length_eq_zero hr, show c = 48 from UInt8.toNat_inj.1 hc]
        · simp [hc, hr]
      · simp [hc]
set_option maxRecDepth 100000 in
theorem dm_nm (c : UInt8) (h : cDm.contains c = true) : cNm.contains c = true := by
  have : ∀ m : Fin 256, cDm.contains (UInt8.ofNat m.val) = true → cNm.contains (UInt8.ofNat m.val) = true := by decide +kernel
  have h2 := this ⟨c.toNat, c.toNat_lt⟩
  simp only [UInt8.ofNat_toNat] at h2
  exact h2 h
end Go.Proofs.YtcbngdkekdhfeaaGreatDoor
namespace Go.Proofs.YtcbngdkekdhfeaaGreatDoor
open Go.RowKit
set_option linter.unusedVariables false
set_option linter.unusedSimpArgs false

set_option maxRecDepth 100000 in
set_option maxHeartbeats 6400000 in
theorem w_5numeral (s : ByteArray) (p : Nat) (w : World) (hp : p < s.size) (hs : s.size ≤ 1099511627776) (hc : cDm.contains s[p] = true) :
    Calls Tryz.prog 33 #[.string s, .int .i64 (p : Int)] w fun e w' => Below w.heap.size w w' ∧ PcT (numeralT s.data.toList p) e := by
  obtain ⟨l, hl⟩ : ∃ l, l = s.data.toList := ⟨_, rfl⟩
  have HL : Hid (l.length = s.size) := by show _ = _; rw [hl]; exact size_lst s
  have HG : Hid (∀ q (h : q < s.size), l.getD q 0 = s[q]) := fun q h => by rw [hl]; exact getD_byte h
  have HX : Hid (∀ q, q ≤ s.size → (s.extract p q).data.toList = cut l p q) := fun q h => by rw [hl]; exact extract_lst s p q h
  have HGT : Hid (p < behL l p cNm) := behL_gt (by rw [HL.out]; exact hp) (by rw [HG.out p hp]; exact dm_nm _ hc)
  rw [← hl]
  clear hl
  go_enter Tryz.func33, Tryz.ntmps33
  go_wp2_with fail
  go_loopw [5] (fun a wr => ∃ q : Nat, p ≤ q ∧ q ≤ s.size ∧ a = .int .i64 (q : Int) ∧ Hid (behL l p cNm = behL l q cNm) ∧ wr = w.alloc (.cells #[.int .u8 0, .int .i64 0, .int .i64 0, .string ⟨#[]⟩, .int .i64 0] 69)) (fun a _ => s.size - (intOf a).toNat)
  case atStart => exact ⟨p, Nat.le_refl _, by omega, rfl, rfl, rfl⟩
  case round =>
    obtain ⟨q, hpq, hq, rfl, HQ, rfl⟩ := hrel
    by_cases hlt : q < s.size
    · have hi1 : (q : Int) < (s.size : Int) := by omega
      have hi0 : (0 : Int) ≤ (q : Int) := by omega
      have hd := fun u => w_5digit s[q] u
      have hle := fun u => w_5letter s[q] u
      have hw := nm_split s[q]
      have hst := beh_step (l := l) (p := q) (cs := cNm) (by rw [HL.out]; exact hlt)
      have hsp := beh_stop (l := l) (p := q) (cs := cNm) (by rw [HL.out]; exact hlt)
      rw [HG.out q hlt] at hst hsp
      have HST := Hid.mk hst
      have HSP := Hid.mk hsp
      clear hst hsp
      cases h1 : cLe.contains s[q] with
      | true =>
        rw [h1] at hle hw
        have HLE := Hid.mk hle
        have HWD : Hid (cNm.contains s[q] = true) := by show _ = _; rw [hw]; simp
        clear h1 hle hd hw
        go_wp2_with fail
        refine (HLE.out _).mono ?_
        rintro e w1 ⟨rfl, rfl⟩
        go_wp2_with fail
        go_roundw
        case rel => exact ⟨q + 1, by omega, by omega, by go_num, HQ.out.trans (HST.out HWD.out), by first | rfl | trivial⟩
        case measure => simp [intOf]; omega
      | false =>
        rw [h1] at hle hw
        have HLE := Hid.mk hle
        clear h1 hle
        cases h2 : cDg.contains s[q] with
        | true =>
          rw [h2] at hd hw
          have HD := Hid.mk hd
          have HWD : Hid (cNm.contains s[q] = true) := by show _ = _; rw [hw]; simp
          clear h2 hd hw
          go_wp2_with fail
          refine (HLE.out _).mono ?_
          rintro e w1 ⟨rfl, rfl⟩
          go_wp2_with fail
          refine (HD.out _).mono ?_
          rintro e w1 ⟨rfl, rfl⟩
          go_wp2_with fail
          go_roundw
          case rel => exact ⟨q + 1, by omega, by omega, by go_num, HQ.out.trans (HST.out HWD.out), by first | rfl | trivial⟩
          case measure => simp [intOf]; omega
        | false =>
          rw [h2] at hd hw
          have HD := Hid.mk hd
          clear h2 hd
          by_cases g0 : ((s[q].toNat : Nat) : Int) = 43
          · have HWD : Hid (cNm.contains s[q] = true) := by show _ = _; rw [hw, show s[q].toNat = 43 by omega]; rfl
            clear hw
            rw [g0] at HLE HD
            go_wp2_with fail
            refine (HLE.out _).mono ?_
            rintro e w1 ⟨rfl, rfl⟩
            go_wp2_with fail
            refine (HD.out _).mono ?_
            rintro e w1 ⟨rfl, rfl⟩
            go_wp2_with fail
            go_roundw
            case rel => exact ⟨q + 1, by omega, by omega, by go_num, HQ.out.trans (HST.out HWD.out), by first | rfl | trivial⟩
            case measure => simp [intOf]; omega
          by_cases g1 : ((s[q].toNat : Nat) : Int) = 45
          · have HWD : Hid (cNm.contains s[q] = true) := by show _ = _; rw [hw, show s[q].toNat = 45 by omega]; rfl
            clear hw
            rw [g1] at HLE HD
            go_wp2_with fail
            refine (HLE.out _).mono ?_
            rintro e w1 ⟨rfl, rfl⟩
            go_wp2_with fail
            refine (HD.out _).mono ?_
            rintro e w1 ⟨rfl, rfl⟩
            go_wp2_with fail
            go_roundw
            case rel => exact ⟨q + 1, by omega, by omega, by go_num, HQ.out.trans (HST.out HWD.out), by first | rfl | trivial⟩
            case measure => simp [intOf]; omega
          by_cases g2 : ((s[q].toNat : Nat) : Int) = 46
          · have HWD : Hid (cNm.contains s[q] = true) := by show _ = _; rw [hw, show s[q].toNat = 46 by omega]; rfl
            clear hw
            rw [g2] at HLE HD
            go_wp2_with fail
            refine (HLE.out _).mono ?_
            rintro e w1 ⟨rfl, rfl⟩
            go_wp2_with fail
            refine (HD.out _).mono ?_
            rintro e w1 ⟨rfl, rfl⟩
            go_wp2_with fail
            go_roundw
            case rel => exact ⟨q + 1, by omega, by omega, by go_num, HQ.out.trans (HST.out HWD.out), by first | rfl | trivial⟩
            case measure => simp [intOf]; omega
          have gb0 : (((s[q].toNat : Nat) : Int) == 43) = false := by rw [beq_eq_false_iff_ne]; exact g0
          have gb1 : (((s[q].toNat : Nat) : Int) == 45) = false := by rw [beq_eq_false_iff_ne]; exact g1
          have gb2 : (((s[q].toNat : Nat) : Int) == 46) = false := by rw [beq_eq_false_iff_ne]; exact g2
          have HWD : Hid (cNm.contains s[q] = false) := by show _ = _; rw [hw]; simp only [Bool.false_or]; rw [decide_eq_false (by omega : ¬ s[q].toNat = 43)]; rw [decide_eq_false (by omega : ¬ s[q].toNat = 45)]; rw [decide_eq_false (by omega : ¬ s[q].toNat = 46)]; rfl
          clear hw
          have hbe : behL l p cNm = q := HQ.out.trans (HSP.out HWD.out)
          clear HST HSP HQ HWD
          have HBE := Hid.mk hbe
          obtain ⟨x, hx⟩ : ∃ x, s.extract p q = x := ⟨_, rfl⟩
          have hxl : x.data.toList = cut l p q := by rw [← hx]; exact HX.out q (by omega)
          have hpq2 : p < q := by rw [← hbe]; exact HGT.out
          have hxs : 0 < x.size := by rw [← size_lst, hxl]; unfold cut; have := HL.out; simp; omega
          have hxm : x.size ≤ 1099511627776 := by rw [← size_lst, hxl]; unfold cut; have := HL.out; simp; omega
          have hxz : (0 : Int) < (x.size : Int) := by omega
          have h1 : (p : Int) ≤ (q : Int) := by omega
          have h2 : (q : Int) ≤ (s.size : Int) := by omega
          have HXL := Hid.mk hxl
          clear hbe
          by_cases hn : ((x[0].toNat : Nat) : Int) = 45
          · obtain ⟨dd, hdd⟩ : ∃ dd, x.extract 1 x.size = dd := ⟨_, rfl⟩
            have HDL : Hid (dd.data.toList = Pl.body (cut l p q)) := by show _ = _; rw [← hdd, Pl.extract_tail, ← hxl]; unfold Pl.body; rw [Pl.neg_of x hxs, if_pos (by rw [decide_eq_true_eq]; omega)]
            have hdm : dd.size ≤ 1099511627776 := by
              have h1 : dd.size ≤ x.size := by rw [← size_lst dd, ← size_lst x, ← hdd, Pl.extract_tail]; simp
              omega
            have hx1 : (1 : Int) ≤ (x.size : Int) := by omega
            clear hxl
            by_cases hd0 : dd.size = 0
            · have hr0 : rgtB dd.data.toList = false := rgt0 hd0
              have hdz : ¬ (0 : Int) < (dd.size : Int) := by omega
              have HR0 : Hid (rgtB dd.data.toList = false) := by show _ = _; exact hr0
              clear hr0
              go_wp2_with fail
              refine (HLE.out _).mono ?_
              rintro e w1 ⟨rfl, rfl⟩
              go_wp2_with fail
              refine (HD.out _).mono ?_
              rintro e w1 ⟨rfl, rfl⟩
              go_wp2_with fail
              go_loopw [8, 9] (fun r i wr => ∃ (k : Nat) (b : Bool), k ≤ dd.size ∧ r = .bool b ∧ i = .int .i64 (k : Int) ∧ Hid (b = (false && (dd.data.toList.take k).all (cDg.contains ·))) ∧ wr = w.alloc (.cells #[.int .u8 0, .int .i64 0, .int .i64 0, .string ⟨#[]⟩, .int .i64 0] 69)) (fun _ i _ => dd.size - (intOf i).toNat)
              case atStart => exact ⟨0, false, Nat.zero_le _, by first | rfl | simp [*], rfl, (by show _ = _; simp), rfl⟩
              case round =>
                obtain ⟨k, b, hk, rfl, rfl, HB, rfl⟩ := hrel
                by_cases hkl : k < dd.size
                · exact absurd hkl (by omega)
                · obtain rfl : k = dd.size := by omega
                  have hj1 : ¬ (dd.size : Int) < (dd.size : Int) := by omega
                  have hB : Pl.formed (numT (cut l p q)) = b := by rw [formed_numT, ← HDL.out, HR0.out, HB.out, List.take_of_length_le (by rw [size_lst]; omega)]
                  cases b with
                  | false =>
                    have HT : Hid (numeralT l p = ⟨0, p, 0, [], 42⟩) := by show _ = _; unfold numeralT; rw [HBE.out, if_neg (by rw [hB]; decide)]
                    clear hB
                    go_wp2_with fail
                    (try simp only [Exit.inBlock, Exit.then])
                    refine bodyPost_ret (v := .agg #[.int .u8 0, .int .i64 (p : Int), .int .i64 (p : Int), .string ⟨#[]⟩, .int .i64 42]) (by simp [results, Tryz.results33, go_sem]) rfl ?_
                    exact ⟨below1 w _, by rw [HT.out]; exact .inr ⟨(by show (42 : Nat) ≠ 0; decide), 0, rfl⟩⟩
                  | true =>
                    have h := HB.out
                    rw [Bool.false_and] at h
                    cases h
            have hdp : 0 < dd.size := by omega
            have hdz : (0 : Int) < (dd.size : Int) := by omega
            by_cases hc : ((dd[0].toNat : Nat) : Int) = 48
            · by_cases h1s : dd.size = 1
              · have hr0 : rgtB dd.data.toList = true := rgt1 h1s
                have hds : (dd.size : Int) = 1 := by omega
                have hdsb : ((dd.size : Int) == 1) = true := by rw [hds]; rfl
                have HR0 : Hid (rgtB dd.data.toList = true) := by show _ = _; exact hr0
                clear hr0
                go_wp2_with fail
                refine (HLE.out _).mono ?_
                rintro e w1 ⟨rfl, rfl⟩
                go_wp2_with fail
                refine (HD.out _).mono ?_
                rintro e w1 ⟨rfl, rfl⟩
                go_wp2_with fail
                go_loopw [8, 9] (fun r i wr => ∃ (k : Nat) (b : Bool), k ≤ dd.size ∧ r = .bool b ∧ i = .int .i64 (k : Int) ∧ Hid (b = (true && (dd.data.toList.take k).all (cDg.contains ·))) ∧ wr = w.alloc (.cells #[.int .u8 0, .int .i64 0, .int .i64 0, .string ⟨#[]⟩, .int .i64 0] 69)) (fun _ i _ => dd.size - (intOf i).toNat)
                case atStart => exact ⟨0, true, Nat.zero_le _, by first | rfl | simp [*], rfl, (by show _ = _; simp), rfl⟩
                case round =>
                  obtain ⟨k, b, hk, rfl, rfl, HB, rfl⟩ := hrel
                  by_cases hkl : k < dd.size
                  · have hj1 : (k : Int) < (dd.size : Int) := by omega
                    have hj0 : (0 : Int) ≤ (k : Int) := by omega
                    have HTk := Hid.mk (Pl.take_snoc dd k hkl)
                    cases b with
                    | true =>
                      have hd := fun u => w_5digit dd[k] u
                      cases h2 : cDg.contains dd[k] with
                      | true =>
                        rw [h2] at hd
                        have HD := Hid.mk hd
                        have HBn : Hid (true = (true && (dd.data.toList.take (k + 1)).all (cDg.contains ·))) := by show _ = _; rw [HTk.out, List.all_append, ← Bool.and_assoc, ← HB.out]; show true = (true && (cDg.contains dd[k] && true)); rw [h2]; rfl
                        clear h2 hd
                        go_wp2_with fail
                        refine (HD.out _).mono ?_
                        rintro e w1 ⟨rfl, rfl⟩
                        go_wp2_with fail
                        go_roundw
                        case rel => exact ⟨k + 1, true, by omega, rfl, by go_num, HBn, by first | rfl | trivial⟩
                        case measure => simp [intOf]; omega
                      | false =>
                        rw [h2] at hd
                        have HD := Hid.mk hd
                        have HBn : Hid (false = (true && (dd.data.toList.take (k + 1)).all (cDg.contains ·))) := by show _ = _; rw [HTk.out, List.all_append, ← Bool.and_assoc, ← HB.out]; show false = (true && (cDg.contains dd[k] && true)); rw [h2]; rfl
                        clear h2 hd
                        go_wp2_with fail
                        refine (HD.out _).mono ?_
                        rintro e w1 ⟨rfl, rfl⟩
                        go_wp2_with fail
                        go_roundw
                        case rel => exact ⟨k + 1, false, by omega, rfl, by go_num, HBn, by first | rfl | trivial⟩
                        case measure => simp [intOf]; omega
                    | false =>
                      have HBn : Hid (false = (true && (dd.data.toList.take (k + 1)).all (cDg.contains ·))) := by show _ = _; rw [HTk.out, List.all_append, ← Bool.and_assoc, ← HB.out]; rfl
                      go_wp2_with fail
                      go_roundw
                      case rel => exact ⟨k + 1, false, by omega, rfl, by go_num, HBn, by first | rfl | trivial⟩
                      case measure => simp [intOf]; omega
                  · obtain rfl : k = dd.size := by omega
                    have hj1 : ¬ (dd.size : Int) < (dd.size : Int) := by omega
                    have hB : Pl.formed (numT (cut l p q)) = b := by rw [formed_numT, ← HDL.out, HR0.out, HB.out, List.take_of_length_le (by rw [size_lst]; omega)]
                    cases b with
                    | false =>
                      have HT : Hid (numeralT l p = ⟨0, p, 0, [], 42⟩) := by show _ = _; unfold numeralT; rw [HBE.out, if_neg (by rw [hB]; decide)]
                      clear hB
                      go_wp2_with fail
                      (try simp only [Exit.inBlock, Exit.then])
                      refine bodyPost_ret (v := .agg #[.int .u8 0, .int .i64 (p : Int), .int .i64 (p : Int), .string ⟨#[]⟩, .int .i64 42]) (by simp [results, Tryz.results33, go_sem]) rfl ?_
                      exact ⟨below1 w _, by rw [HT.out]; exact .inr ⟨(by show (42 : Nat) ≠ 0; decide), 0, rfl⟩⟩
                    | true =>
                      by_cases hz : dd.data.toList = [48]
                      · have HT : Hid (numeralT l p = ⟨10, p, q, [48], 0⟩) := by show _ = _; unfold numeralT; rw [HBE.out, if_pos hB, numT_48 (by rw [← HDL.out]; exact hz)]
                        have hzb : (dd.toList == [48]) = true := by rw [Lib.toList_data, hz]; rfl
                        clear hB hz
                        go_wp2_with fail
                        (try simp only [Exit.inBlock, Exit.then])
                        refine bodyPost_ret (v := .agg #[.int .u8 0, .int .i64 (p : Int), .int .i64 (q : Int), .string ⟨#[48]⟩, .int .i64 0]) (by simp [results, Tryz.results33, go_sem]) rfl ?_
                        exact ⟨below1 w _, by rw [HT.out]; exact .inl ⟨rfl, rfl⟩⟩
                      · have HT : Hid (numeralT l p = ⟨10, p, q, x.data.toList, 0⟩) := by show _ = _; unfold numeralT; rw [HBE.out, if_pos hB, numT_not (by rw [← HDL.out]; exact hz), HXL.out]
                        have hzb : (dd.toList == [48]) = false := by rw [Lib.toList_data, beq_eq_false_iff_ne]; exact hz
                        clear hB hz
                        go_wp2_with fail
                        (try simp only [Exit.inBlock, Exit.then])
                        refine bodyPost_ret (v := .agg #[.int .u8 0, .int .i64 (p : Int), .int .i64 (q : Int), .string x, .int .i64 0]) (by simp [results, Tryz.results33, go_sem]) rfl ?_
                        exact ⟨below1 w _, by rw [HT.out]; exact .inl ⟨rfl, rfl⟩⟩
              have hr0 : rgtB dd.data.toList = false := rgt2 hdp (by omega) h1s
              have hds : ¬ (dd.size : Int) = 1 := by omega
              have hdsb : ((dd.size : Int) == 1) = false := by rw [beq_eq_false_iff_ne]; exact hds
              have HR0 : Hid (rgtB dd.data.toList = false) := by show _ = _; exact hr0
              clear hr0
              go_wp2_with fail
              refine (HLE.out _).mono ?_
              rintro e w1 ⟨rfl, rfl⟩
              go_wp2_with fail
              refine (HD.out _).mono ?_
              rintro e w1 ⟨rfl, rfl⟩
              go_wp2_with fail
              go_loopw [8, 9] (fun r i wr => ∃ (k : Nat) (b : Bool), k ≤ dd.size ∧ r = .bool b ∧ i = .int .i64 (k : Int) ∧ Hid (b = (false && (dd.data.toList.take k).all (cDg.contains ·))) ∧ wr = w.alloc (.cells #[.int .u8 0, .int .i64 0, .int .i64 0, .string ⟨#[]⟩, .int .i64 0] 69)) (fun _ i _ => dd.size - (intOf i).toNat)
              case atStart => exact ⟨0, false, Nat.zero_le _, by first | rfl | simp [*], rfl, (by show _ = _; simp), rfl⟩
              case round =>
                obtain ⟨k, b, hk, rfl, rfl, HB, rfl⟩ := hrel
                by_cases hkl : k < dd.size
                · have hj1 : (k : Int) < (dd.size : Int) := by omega
                  have hj0 : (0 : Int) ≤ (k : Int) := by omega
                  have HTk := Hid.mk (Pl.take_snoc dd k hkl)
                  cases b with
                  | true =>
                    have h := HB.out
                    rw [Bool.false_and] at h
                    cases h
                  | false =>
                    have HBn : Hid (false = (false && (dd.data.toList.take (k + 1)).all (cDg.contains ·))) := by show _ = _; rw [HTk.out, List.all_append, ← Bool.and_assoc, ← HB.out]; rfl
                    go_wp2_with fail
                    go_roundw
                    case rel => exact ⟨k + 1, false, by omega, rfl, by go_num, HBn, by first | rfl | trivial⟩
                    case measure => simp [intOf]; omega
                · obtain rfl : k = dd.size := by omega
                  have hj1 : ¬ (dd.size : Int) < (dd.size : Int) := by omega
                  have hB : Pl.formed (numT (cut l p q)) = b := by rw [formed_numT, ← HDL.out, HR0.out, HB.out, List.take_of_length_le (by rw [size_lst]; omega)]
                  cases b with
                  | false =>
                    have HT : Hid (numeralT l p = ⟨0, p, 0, [], 42⟩) := by show _ = _; unfold numeralT; rw [HBE.out, if_neg (by rw [hB]; decide)]
                    clear hB
                    go_wp2_with fail
                    (try simp only [Exit.inBlock, Exit.then])
                    refine bodyPost_ret (v := .agg #[.int .u8 0, .int .i64 (p : Int), .int .i64 (p : Int), .string ⟨#[]⟩, .int .i64 42]) (by simp [results, Tryz.results33, go_sem]) rfl ?_
                    exact ⟨below1 w _, by rw [HT.out]; exact .inr ⟨(by show (42 : Nat) ≠ 0; decide), 0, rfl⟩⟩
                  | true =>
                    have h := HB.out
                    rw [Bool.false_and] at h
                    cases h
            have hr0 : rgtB dd.data.toList = true := rgt3 hdp (by omega)
            have hcb : (((dd[0].toNat : Nat) : Int) == 48) = false := by rw [beq_eq_false_iff_ne]; exact hc
            have HR0 : Hid (rgtB dd.data.toList = true) := by show _ = _; exact hr0
            clear hr0
            go_wp2_with fail
            refine (HLE.out _).mono ?_
            rintro e w1 ⟨rfl, rfl⟩
            go_wp2_with fail
            refine (HD.out _).mono ?_
            rintro e w1 ⟨rfl, rfl⟩
            go_wp2_with fail
            go_loopw [8, 9] (fun r i wr => ∃ (k : Nat) (b : Bool), k ≤ dd.size ∧ r = .bool b ∧ i = .int .i64 (k : Int) ∧ Hid (b = (true && (dd.data.toList.take k).all (cDg.contains ·))) ∧ wr = w.alloc (.cells #[.int .u8 0, .int .i64 0, .int .i64 0, .string ⟨#[]⟩, .int .i64 0] 69)) (fun _ i _ => dd.size - (intOf i).toNat)
            case atStart => exact ⟨0, true, Nat.zero_le _, by first | rfl | simp [*], rfl, (by show _ = _; simp), rfl⟩
            case round =>
              obtain ⟨k, b, hk, rfl, rfl, HB, rfl⟩ := hrel
              by_cases hkl : k < dd.size
              · have hj1 : (k : Int) < (dd.size : Int) := by omega
                have hj0 : (0 : Int) ≤ (k : Int) := by omega
                have HTk := Hid.mk (Pl.take_snoc dd k hkl)
                cases b with
                | true =>
                  have hd := fun u => w_5digit dd[k] u
                  cases h2 : cDg.contains dd[k] with
                  | true =>
                    rw [h2] at hd
                    have HD := Hid.mk hd
                    have HBn : Hid (true = (true && (dd.data.toList.take (k + 1)).all (cDg.contains ·))) := by show _ = _; rw [HTk.out, List.all_append, ← Bool.and_assoc, ← HB.out]; show true = (true && (cDg.contains dd[k] && true)); rw [h2]; rfl
                    clear h2 hd
                    go_wp2_with fail
                    refine (HD.out _).mono ?_
                    rintro e w1 ⟨rfl, rfl⟩
                    go_wp2_with fail
                    go_roundw
                    case rel => exact ⟨k + 1, true, by omega, rfl, by go_num, HBn, by first | rfl | trivial⟩
                    case measure => simp [intOf]; omega
                  | false =>
                    rw [h2] at hd
                    have HD := Hid.mk hd
                    have HBn : Hid (false = (true && (dd.data.toList.take (k + 1)).all (cDg.contains ·))) := by show _ = _; rw [HTk.out, List.all_append, ← Bool.and_assoc, ← HB.out]; show false = (true && (cDg.contains dd[k] && true)); rw [h2]; rfl
                    clear h2 hd
                    go_wp2_with fail
                    refine (HD.out _).mono ?_
                    rintro e w1 ⟨rfl, rfl⟩
                    go_wp2_with fail
                    go_roundw
                    case rel => exact ⟨k + 1, false, by omega, rfl, by go_num, HBn, by first | rfl | trivial⟩
                    case measure => simp [intOf]; omega
                | false =>
                  have HBn : Hid (false = (true && (dd.data.toList.take (k + 1)).all (cDg.contains ·))) := by show _ = _; rw [HTk.out, List.all_append, ← Bool.and_assoc, ← HB.out]; rfl
                  go_wp2_with fail
                  go_roundw
                  case rel => exact ⟨k + 1, false, by omega, rfl, by go_num, HBn, by first | rfl | trivial⟩
                  case measure => simp [intOf]; omega
              · obtain rfl : k = dd.size := by omega
                have hj1 : ¬ (dd.size : Int) < (dd.size : Int) := by omega
                have hB : Pl.formed (numT (cut l p q)) = b := by rw [formed_numT, ← HDL.out, HR0.out, HB.out, List.take_of_length_le (by rw [size_lst]; omega)]
                cases b with
                | false =>
                  have HT : Hid (numeralT l p = ⟨0, p, 0, [], 42⟩) := by show _ = _; unfold numeralT; rw [HBE.out, if_neg (by rw [hB]; decide)]
                  clear hB
                  go_wp2_with fail
                  (try simp only [Exit.inBlock, Exit.then])
                  refine bodyPost_ret (v := .agg #[.int .u8 0, .int .i64 (p : Int), .int .i64 (p : Int), .string ⟨#[]⟩, .int .i64 42]) (by simp [results, Tryz.results33, go_sem]) rfl ?_
                  exact ⟨below1 w _, by rw [HT.out]; exact .inr ⟨(by show (42 : Nat) ≠ 0; decide), 0, rfl⟩⟩
                | true =>
                  by_cases hz : dd.data.toList = [48]
                  · have HT : Hid (numeralT l p = ⟨10, p, q, [48], 0⟩) := by show _ = _; unfold numeralT; rw [HBE.out, if_pos hB, numT_48 (by rw [← HDL.out]; exact hz)]
                    have hzb : (dd.toList == [48]) = true := by rw [Lib.toList_data, hz]; rfl
                    clear hB hz
                    go_wp2_with fail
                    (try simp only [Exit.inBlock, Exit.then])
                    refine bodyPost_ret (v := .agg #[.int .u8 0, .int .i64 (p : Int), .int .i64 (q : Int), .string ⟨#[48]⟩, .int .i64 0]) (by simp [results, Tryz.results33, go_sem]) rfl ?_
                    exact ⟨below1 w _, by rw [HT.out]; exact .inl ⟨rfl, rfl⟩⟩
                  · have HT : Hid (numeralT l p = ⟨10, p, q, x.data.toList, 0⟩) := by show _ = _; unfold numeralT; rw [HBE.out, if_pos hB, numT_not (by rw [← HDL.out]; exact hz), HXL.out]
                    have hzb : (dd.toList == [48]) = false := by rw [Lib.toList_data, beq_eq_false_iff_ne]; exact hz
                    clear hB hz
                    go_wp2_with fail
                    (try simp only [Exit.inBlock, Exit.then])
                    refine bodyPost_ret (v := .agg #[.int .u8 0, .int .i64 (p : Int), .int .i64 (q : Int), .string x, .int .i64 0]) (by simp [results, Tryz.results33, go_sem]) rfl ?_
                    exact ⟨below1 w _, by rw [HT.out]; exact .inl ⟨rfl, rfl⟩⟩
          obtain ⟨dd, hdd⟩ : ∃ dd, x = dd := ⟨_, rfl⟩
          have HDL : Hid (dd.data.toList = Pl.body (cut l p q)) := by show _ = _; rw [← hdd, ← hxl]; unfold Pl.body; rw [Pl.neg_of x hxs, if_neg (by rw [decide_eq_true_eq]; omega)]
          subst hdd
          clear hxl
          by_cases hd0 : x.size = 0
          · exact absurd hd0 (by omega)
          have hdp : 0 < x.size := by omega
          have hdz : (0 : Int) < (x.size : Int) := by omega
          by_cases hc : ((x[0].toNat : Nat) : Int) = 48
          · by_cases h1s : x.size = 1
            · have hr0 : rgtB x.data.toList = true := rgt1 h1s
              have hds : (x.size : Int) = 1 := by omega
              have hdsb : ((x.size : Int) == 1) = true := by rw [hds]; rfl
              have HR0 : Hid (rgtB x.data.toList = true) := by show _ = _; exact hr0
              clear hr0
              go_wp2_with fail
              refine (HLE.out _).mono ?_
              rintro e w1 ⟨rfl, rfl⟩
              go_wp2_with fail
              refine (HD.out _).mono ?_
              rintro e w1 ⟨rfl, rfl⟩
              go_wp2_with fail
              go_loopw [8, 9] (fun r i wr => ∃ (k : Nat) (b : Bool), k ≤ x.size ∧ r = .bool b ∧ i = .int .i64 (k : Int) ∧ Hid (b = (true && (x.data.toList.take k).all (cDg.contains ·))) ∧ wr = w.alloc (.cells #[.int .u8 0, .int .i64 0, .int .i64 0, .string ⟨#[]⟩, .int .i64 0] 69)) (fun _ i _ => x.size - (intOf i).toNat)
              case atStart => exact ⟨0, true, Nat.zero_le _, by first | rfl | simp [*], rfl, (by show _ = _; simp), rfl⟩
              case round =>
                obtain ⟨k, b, hk, rfl, rfl, HB, rfl⟩ := hrel
                by_cases hkl : k < x.size
                · have hj1 : (k : Int) < (x.size : Int) := by omega
                  have hj0 : (0 : Int) ≤ (k : Int) := by omega
                  have HTk := Hid.mk (Pl.take_snoc x k hkl)
                  cases b with
                  | true =>
                    have hd := fun u => w_5digit x[k] u
                    cases h2 : cDg.contains x[k] with
                    | true =>
                      rw [h2] at hd
                      have HD := Hid.mk hd
                      have HBn : Hid (true = (true && (x.data.toList.take (k + 1)).all (cDg.contains ·))) := by show _ = _; rw [HTk.out, List.all_append, ← Bool.and_assoc, ← HB.out]; show true = (true && (cDg.contains x[k] && true)); rw [h2]; rfl
                      clear h2 hd
                      go_wp2_with fail
                      refine (HD.out _).mono ?_
                      rintro e w1 ⟨rfl, rfl⟩
                      go_wp2_with fail
                      go_roundw
                      case rel => exact ⟨k + 1, true, by omega, rfl, by go_num, HBn, by first | rfl | trivial⟩
                      case measure => simp [intOf]; omega
                    | false =>
                      rw [h2] at hd
                      have HD := Hid.mk hd
                      have HBn : Hid (false = (true && (x.data.toList.take (k + 1)).all (cDg.contains ·))) := by show _ = _; rw [HTk.out, List.all_append, ← Bool.and_assoc, ← HB.out]; show false = (true && (cDg.contains x[k] && true)); rw [h2]; rfl
                      clear h2 hd
                      go_wp2_with fail
                      refine (HD.out _).mono ?_
                      rintro e w1 ⟨rfl, rfl⟩
                      go_wp2_with fail
                      go_roundw
                      case rel => exact ⟨k + 1, false, by omega, rfl, by go_num, HBn, by first | rfl | trivial⟩
                      case measure => simp [intOf]; omega
                  | false =>
                    have HBn : Hid (false = (true && (x.data.toList.take (k + 1)).all (cDg.contains ·))) := by show _ = _; rw [HTk.out, List.all_append, ← Bool.and_assoc, ← HB.out]; rfl
                    go_wp2_with fail
                    go_roundw
                    case rel => exact ⟨k + 1, false, by omega, rfl, by go_num, HBn, by first | rfl | trivial⟩
                    case measure => simp [intOf]; omega
                · obtain rfl : k = x.size := by omega
                  have hj1 : ¬ (x.size : Int) < (x.size : Int) := by omega
                  have hB : Pl.formed (numT (cut l p q)) = b := by rw [formed_numT, ← HDL.out, HR0.out, HB.out, List.take_of_length_le (by rw [size_lst]; omega)]
                  cases b with
                  | false =>
                    have HT : Hid (numeralT l p = ⟨0, p, 0, [], 42⟩) := by show _ = _; unfold numeralT; rw [HBE.out, if_neg (by rw [hB]; decide)]
                    clear hB
                    go_wp2_with fail
                    (try simp only [Exit.inBlock, Exit.then])
                    refine bodyPost_ret (v := .agg #[.int .u8 0, .int .i64 (p : Int), .int .i64 (p : Int), .string ⟨#[]⟩, .int .i64 42]) (by simp [results, Tryz.results33, go_sem]) rfl ?_
                    exact ⟨below1 w _, by rw [HT.out]; exact .inr ⟨(by show (42 : Nat) ≠ 0; decide), 0, rfl⟩⟩
                  | true =>
                    by_cases hz : x.data.toList = [48]
                    · have HT : Hid (numeralT l p = ⟨10, p, q, [48], 0⟩) := by show _ = _; unfold numeralT; rw [HBE.out, if_pos hB, numT_48 (by rw [← HDL.out]; exact hz)]
                      have hzb : (x.toList == [48]) = true := by rw [Lib.toList_data, hz]; rfl
                      clear hB hz
                      go_wp2_with fail
                      (try simp only [Exit.inBlock, Exit.then])
                      refine bodyPost_ret (v := .agg #[.int .u8 0, .int .i64 (p : Int), .int .i64 (q : Int), .string ⟨#[48]⟩, .int .i64 0]) (by simp [results, Tryz.results33, go_sem]) rfl ?_
                      exact ⟨below1 w _, by rw [HT.out]; exact .inl ⟨rfl, rfl⟩⟩
                    · have HT : Hid (numeralT l p = ⟨10, p, q, x.data.toList, 0⟩) := by show _ = _; unfold numeralT; rw [HBE.out, if_pos hB, numT_not (by rw [← HDL.out]; exact hz), HXL.out]
                      have hzb : (x.toList == [48]) = false := by rw [Lib.toList_data, beq_eq_false_iff_ne]; exact hz
                      clear hB hz
                      go_wp2_with fail
                      (try simp only [Exit.inBlock, Exit.then])
                      refine bodyPost_ret (v := .agg #[.int .u8 0, .int .i64 (p : Int), .int .i64 (q : Int), .string x, .int .i64 0]) (by simp [results, Tryz.results33, go_sem]) rfl ?_
                      exact ⟨below1 w _, by rw [HT.out]; exact .inl ⟨rfl, rfl⟩⟩
            have hr0 : rgtB x.data.toList = false := rgt2 hdp (by omega) h1s
            have hds : ¬ (x.size : Int) = 1 := by omega
            have hdsb : ((x.size : Int) == 1) = false := by rw [beq_eq_false_iff_ne]; exact hds
            have HR0 : Hid (rgtB x.data.toList = false) := by show _ = _; exact hr0
            clear hr0
            go_wp2_with fail
            refine (HLE.out _).mono ?_
            rintro e w1 ⟨rfl, rfl⟩
            go_wp2_with fail
            refine (HD.out _).mono ?_
            rintro e w1 ⟨rfl, rfl⟩
            go_wp2_with fail
            go_loopw [8, 9] (fun r i wr => ∃ (k : Nat) (b : Bool), k ≤ x.size ∧ r = .bool b ∧ i = .int .i64 (k : Int) ∧ Hid (b = (false && (x.data.toList.take k).all (cDg.contains ·))) ∧ wr = w.alloc (.cells #[.int .u8 0, .int .i64 0, .int .i64 0, .string ⟨#[]⟩, .int .i64 0] 69)) (fun _ i _ => x.size - (intOf i).toNat)
            case atStart => exact ⟨0, false, Nat.zero_le _, by first | rfl | simp [*], rfl, (by show _ = _; simp), rfl⟩
            case round =>
              obtain ⟨k, b, hk, rfl, rfl, HB, rfl⟩ := hrel
              by_cases hkl : k < x.size
              · have hj1 : (k : Int) < (x.size : Int) := by omega
                have hj0 : (0 : Int) ≤ (k : Int) := by omega
                have HTk := Hid.mk (Pl.take_snoc x k hkl)
                cases b with
                | true =>
                  have h := HB.out
                  rw [Bool.false_and] at h
                  cases h
                | false =>
                  have HBn : Hid (false = (false && (x.data.toList.take (k + 1)).all (cDg.contains ·))) := by show _ = _; rw [HTk.out, List.all_append, ← Bool.and_assoc, ← HB.out]; rfl
                  go_wp2_with fail
                  go_roundw
                  case rel => exact ⟨k + 1, false, by omega, rfl, by go_num, HBn, by first | rfl | trivial⟩
                  case measure => simp [intOf]; omega
              · obtain rfl : k = x.size := by omega
                have hj1 : ¬ (x.size : Int) < (x.size : Int) := by omega
                have hB : Pl.formed (numT (cut l p q)) = b := by rw [formed_numT, ← HDL.out, HR0.out, HB.out, List.take_of_length_le (by rw [size_lst]; omega)]
                cases b with
                | false =>
                  have HT : Hid (numeralT l p = ⟨0, p, 0, [], 42⟩) := by show _ = _; unfold numeralT; rw [HBE.out, if_neg (by rw [hB]; decide)]
                  clear hB
                  go_wp2_with fail
                  (try simp only [Exit.inBlock, Exit.then])
                  refine bodyPost_ret (v := .agg #[.int .u8 0, .int .i64 (p : Int), .int .i64 (p : Int), .string ⟨#[]⟩, .int .i64 42]) (by simp [results, Tryz.results33, go_sem]) rfl ?_
                  exact ⟨below1 w _, by rw [HT.out]; exact .inr ⟨(by show (42 : Nat) ≠ 0; decide), 0, rfl⟩⟩
                | true =>
                  have h := HB.out
                  rw [Bool.false_and] at h
                  cases h
          have hr0 : rgtB x.data.toList = true := rgt3 hdp (by omega)
          have hcb : (((x[0].toNat : Nat) : Int) == 48) = false := by rw [beq_eq_false_iff_ne]; exact hc
          have HR0 : Hid (rgtB x.data.toList = true) := by show _ = _; exact hr0
          clear hr0
          go_wp2_with fail
          refine (HLE.out _).mono ?_
          rintro e w1 ⟨rfl, rfl⟩
          go_wp2_with fail
          refine (HD.out _).mono ?_
          rintro e w1 ⟨rfl, rfl⟩
          go_wp2_with fail
          go_loopw [8, 9] (fun r i wr => ∃ (k : Nat) (b : Bool), k ≤ x.size ∧ r = .bool b ∧ i = .int .i64 (k : Int) ∧ Hid (b = (true && (x.data.toList.take k).all (cDg.contains ·))) ∧ wr = w.alloc (.cells #[.int .u8 0, .int .i64 0, .int .i64 0, .string ⟨#[]⟩, .int .i64 0] 69)) (fun _ i _ => x.size - (intOf i).toNat)
          case atStart => exact ⟨0, true, Nat.zero_le _, by first | rfl | simp [*], rfl, (by show _ = _; simp), rfl⟩
          case round =>
            obtain ⟨k, b, hk, rfl, rfl, HB, rfl⟩ := hrel
            by_cases hkl : k < x.size
            · have hj1 : (k : Int) < (x.size : Int) := by omega
              have hj0 : (0 : Int) ≤ (k : Int) := by omega
              have HTk := Hid.mk (Pl.take_snoc x k hkl)
              cases b with
              | true =>
                have hd := fun u => w_5digit x[k] u
                cases h2 : cDg.contains x[k] with
                | true =>
                  rw [h2] at hd
                  have HD := Hid.mk hd
                  have HBn : Hid (true = (true && (x.data.toList.take (k + 1)).all (cDg.contains ·))) := by show _ = _; rw [HTk.out, List.all_append, ← Bool.and_assoc, ← HB.out]; show true = (true && (cDg.contains x[k] && true)); rw [h2]; rfl
                  clear h2 hd
                  go_wp2_with fail
                  refine (HD.out _).mono ?_
                  rintro e w1 ⟨rfl, rfl⟩
                  go_wp2_with fail
                  go_roundw
                  case rel => exact ⟨k + 1, true, by omega, rfl, by go_num, HBn, by first | rfl | trivial⟩
                  case measure => simp [intOf]; omega
                | false =>
                  rw [h2] at hd
                  have HD := Hid.mk hd
                  have HBn : Hid (false = (true && (x.data.toList.take (k + 1)).all (cDg.contains ·))) := by show _ = _; rw [HTk.out, List.all_append, ← Bool.and_assoc, ← HB.out]; show false = (true && (cDg.contains x[k] && true)); rw [h2]; rfl
                  clear h2 hd
                  go_wp2_with fail
                  refine (HD.out _).mono ?_
                  rintro e w1 ⟨rfl, rfl⟩
                  go_wp2_with fail
                  go_roundw
                  case rel => exact ⟨k + 1, false, by omega, rfl, by go_num, HBn, by first | rfl | trivial⟩
                  case measure => simp [intOf]; omega
              | false =>
                have HBn : Hid (false = (true && (x.data.toList.take (k + 1)).all (cDg.contains ·))) := by show _ = _; rw [HTk.out, List.all_append, ← Bool.and_assoc, ← HB.out]; rfl
                go_wp2_with fail
                go_roundw
                case rel => exact ⟨k + 1, false, by omega, rfl, by go_num, HBn, by first | rfl | trivial⟩
                case measure => simp [intOf]; omega
            · obtain rfl : k = x.size := by omega
              have hj1 : ¬ (x.size : Int) < (x.size : Int) := by omega
              have hB : Pl.formed (numT (cut l p q)) = b := by rw [formed_numT, ← HDL.out, HR0.out, HB.out, List.take_of_length_le (by rw [size_lst]; omega)]
              cases b with
              | false =>
                have HT : Hid (numeralT l p = ⟨0, p, 0, [], 42⟩) := by show _ = _; unfold numeralT; rw [HBE.out, if_neg (by rw [hB]; decide)]
                clear hB
                go_wp2_with fail
                (try simp only [Exit.inBlock, Exit.then])
                refine bodyPost_ret (v := .agg #[.int .u8 0, .int .i64 (p : Int), .int .i64 (p : Int), .string ⟨#[]⟩, .int .i64 42]) (by simp [results, Tryz.results33, go_sem]) rfl ?_
                exact ⟨below1 w _, by rw [HT.out]; exact .inr ⟨(by show (42 : Nat) ≠ 0; decide), 0, rfl⟩⟩
              | true =>
                by_cases hz : x.data.toList = [48]
                · have HT : Hid (numeralT l p = ⟨10, p, q, [48], 0⟩) := by show _ = _; unfold numeralT; rw [HBE.out, if_pos hB, numT_48 (by rw [← HDL.out]; exact hz)]
                  have hzb : (x.toList == [48]) = true := by rw [Lib.toList_data, hz]; rfl
                  clear hB hz
                  go_wp2_with fail
                  (try simp only [Exit.inBlock, Exit.then])
                  refine bodyPost_ret (v := .agg #[.int .u8 0, .int .i64 (p : Int), .int .i64 (q : Int), .string ⟨#[48]⟩, .int .i64 0]) (by simp [results, Tryz.results33, go_sem]) rfl ?_
                  exact ⟨below1 w _, by rw [HT.out]; exact .inl ⟨rfl, rfl⟩⟩
                · have HT : Hid (numeralT l p = ⟨10, p, q, x.data.toList, 0⟩) := by show _ = _; unfold numeralT; rw [HBE.out, if_pos hB, numT_not (by rw [← HDL.out]; exact hz), HXL.out]
                  have hzb : (x.toList == [48]) = false := by rw [Lib.toList_data, beq_eq_false_iff_ne]; exact hz
                  clear hB hz
                  go_wp2_with fail
                  (try simp only [Exit.inBlock, Exit.then])
                  refine bodyPost_ret (v := .agg #[.int .u8 0, .int .i64 (p : Int), .int .i64 (q : Int), .string x, .int .i64 0]) (by simp [results, Tryz.results33, go_sem]) rfl ?_
                  exact ⟨below1 w _, by rw [HT.out]; exact .inl ⟨rfl, rfl⟩⟩
    · obtain rfl : q = s.size := by omega
      have hi1 : ¬ (s.size : Int) < (s.size : Int) := by omega
      have hbe : behL l p cNm = s.size := by rw [HQ.out, beh_end (by rw [HL.out]; omega), HL.out]
      clear HQ
      have HBE := Hid.mk hbe
      obtain ⟨x, hx⟩ : ∃ x, s.extract p s.size = x := ⟨_, rfl⟩
      have hxl : x.data.toList = cut l p s.size := by rw [← hx]; exact HX.out s.size (by omega)
      have hpq2 : p < s.size := by rw [← hbe]; exact HGT.out
      have hxs : 0 < x.size := by rw [← size_lst, hxl]; unfold cut; have := HL.out; simp; omega
      have hxm : x.size ≤ 1099511627776 := by rw [← size_lst, hxl]; unfold cut; have := HL.out; simp; omega
      have hxz : (0 : Int) < (x.size : Int) := by omega
      have h1 : (p : Int) ≤ (s.size : Int) := by omega
      have h2 : (s.size : Int) ≤ (s.size : Int) := by omega
      have HXL := Hid.mk hxl
      clear hbe
      by_cases hn : ((x[0].toNat : Nat) : Int) = 45
      · obtain ⟨dd, hdd⟩ : ∃ dd, x.extract 1 x.size = dd := ⟨_, rfl⟩
        have HDL : Hid (dd.data.toList = Pl.body (cut l p s.size)) := by show _ = _; rw [← hdd, Pl.extract_tail, ← hxl]; unfold Pl.body; rw [Pl.neg_of x hxs, if_pos (by rw [decide_eq_true_eq]; omega)]
        have hdm : dd.size ≤ 1099511627776 := by
          have h1 : dd.size ≤ x.size := by rw [← size_lst dd, ← size_lst x, ← hdd, Pl.extract_tail]; simp
          omega
        have hx1 : (1 : Int) ≤ (x.size : Int) := by omega
        clear hxl
        by_cases hd0 : dd.size = 0
        · have hr0 : rgtB dd.data.toList = false := rgt0 hd0
          have hdz : ¬ (0 : Int) < (dd.size : Int) := by omega
          have HR0 : Hid (rgtB dd.data.toList = false) := by show _ = _; exact hr0
          clear hr0
          go_wp2_with fail
          go_loopw [8, 9] (fun r i wr => ∃ (k : Nat) (b : Bool), k ≤ dd.size ∧ r = .bool b ∧ i = .int .i64 (k : Int) ∧ Hid (b = (false && (dd.data.toList.take k).all (cDg.contains ·))) ∧ wr = w.alloc (.cells #[.int .u8 0, .int .i64 0, .int .i64 0, .string ⟨#[]⟩, .int .i64 0] 69)) (fun _ i _ => dd.size - (intOf i).toNat)
          case atStart => exact ⟨0, false, Nat.zero_le _, by first | rfl | simp [*], rfl, (by show _ = _; simp), rfl⟩
          case round =>
            obtain ⟨k, b, hk, rfl, rfl, HB, rfl⟩ := hrel
            by_cases hkl : k < dd.size
            · exact absurd hkl (by omega)
            · obtain rfl : k = dd.size := by omega
              have hj1 : ¬ (dd.size : Int) < (dd.size : Int) := by omega
              have hB : Pl.formed (numT (cut l p s.size)) = b := by rw [formed_numT, ← HDL.out, HR0.out, HB.out, List.take_of_length_le (by rw [size_lst]; omega)]
              cases b with
              | false =>
                have HT : Hid (numeralT l p = ⟨0, p, 0, [], 42⟩) := by show _ = _; unfold numeralT; rw [HBE.out, if_neg (by rw [hB]; decide)]
                clear hB
                go_wp2_with fail
                (try simp only [Exit.inBlock, Exit.then])
                refine bodyPost_ret (v := .agg #[.int .u8 0, .int .i64 (p : Int), .int .i64 (p : Int), .string ⟨#[]⟩, .int .i64 42]) (by simp [results, Tryz.results33, go_sem]) rfl ?_
                exact ⟨below1 w _, by rw [HT.out]; exact .inr ⟨(by show (42 : Nat) ≠ 0; decide), 0, rfl⟩⟩
              | true =>
                have h := HB.out
                rw [Bool.false_and] at h
                cases h
        have hdp : 0 < dd.size := by omega
        have hdz : (0 : Int) < (dd.size : Int) := by omega
        by_cases hc : ((dd[0].toNat : Nat) : Int) = 48
        · by_cases h1s : dd.size = 1
          · have hr0 : rgtB dd.data.toList = true := rgt1 h1s
            have hds : (dd.size : Int) = 1 := by omega
            have hdsb : ((dd.size : Int) == 1) = true := by rw [hds]; rfl
            have HR0 : Hid (rgtB dd.data.toList = true) := by show _ = _; exact hr0
            clear hr0
            go_wp2_with fail
            go_loopw [8, 9] (fun r i wr => ∃ (k : Nat) (b : Bool), k ≤ dd.size ∧ r = .bool b ∧ i = .int .i64 (k : Int) ∧ Hid (b = (true && (dd.data.toList.take k).all (cDg.contains ·))) ∧ wr = w.alloc (.cells #[.int .u8 0, .int .i64 0, .int .i64 0, .string ⟨#[]⟩, .int .i64 0] 69)) (fun _ i _ => dd.size - (intOf i).toNat)
            case atStart => exact ⟨0, true, Nat.zero_le _, by first | rfl | simp [*], rfl, (by show _ = _; simp), rfl⟩
            case round =>
              obtain ⟨k, b, hk, rfl, rfl, HB, rfl⟩ := hrel
              by_cases hkl : k < dd.size
              · have hj1 : (k : Int) < (dd.size : Int) := by omega
                have hj0 : (0 : Int) ≤ (k : Int) := by omega
                have HTk := Hid.mk (Pl.take_snoc dd k hkl)
                cases b with
                | true =>
                  have hd := fun u => w_5digit dd[k] u
                  cases h2 : cDg.contains dd[k] with
                  | true =>
                    rw [h2] at hd
                    have HD := Hid.mk hd
                    have HBn : Hid (true = (true && (dd.data.toList.take (k + 1)).all (cDg.contains ·))) := by show _ = _; rw [HTk.out, List.all_append, ← Bool.and_assoc, ← HB.out]; show true = (true && (cDg.contains dd[k] && true)); rw [h2]; rfl
                    clear h2 hd
                    go_wp2_with fail
                    refine (HD.out _).mono ?_
                    rintro e w1 ⟨rfl, rfl⟩
                    go_wp2_with fail
                    go_roundw
                    case rel => exact ⟨k + 1, true, by omega, rfl, by go_num, HBn, by first | rfl | trivial⟩
                    case measure => simp [intOf]; omega
                  | false =>
                    rw [h2] at hd
                    have HD := Hid.mk hd
                    have HBn : Hid (false = (true && (dd.data.toList.take (k + 1)).all (cDg.contains ·))) := by show _ = _; rw [HTk.out, List.all_append, ← Bool.and_assoc, ← HB.out]; show false = (true && (cDg.contains dd[k] && true)); rw [h2]; rfl
                    clear h2 hd
                    go_wp2_with fail
                    refine (HD.out _).mono ?_
                    rintro e w1 ⟨rfl, rfl⟩
                    go_wp2_with fail
                    go_roundw
                    case rel => exact ⟨k + 1, false, by omega, rfl, by go_num, HBn, by first | rfl | trivial⟩
                    case measure => simp [intOf]; omega
                | false =>
                  have HBn : Hid (false = (true && (dd.data.toList.take (k + 1)).all (cDg.contains ·))) := by show _ = _; rw [HTk.out, List.all_append, ← Bool.and_assoc, ← HB.out]; rfl
                  go_wp2_with fail
                  go_roundw
                  case rel => exact ⟨k + 1, false, by omega, rfl, by go_num, HBn, by first | rfl | trivial⟩
                  case measure => simp [intOf]; omega
              · obtain rfl : k = dd.size := by omega
                have hj1 : ¬ (dd.size : Int) < (dd.size : Int) := by omega
                have hB : Pl.formed (numT (cut l p s.size)) = b := by rw [formed_numT, ← HDL.out, HR0.out, HB.out, List.take_of_length_le (by rw [size_lst]; omega)]
                cases b with
                | false =>
                  have HT : Hid (numeralT l p = ⟨0, p, 0, [], 42⟩) := by show _ = _; unfold numeralT; rw [HBE.out, if_neg (by rw [hB]; decide)]
                  clear hB
                  go_wp2_with fail
                  (try simp only [Exit.inBlock, Exit.then])
                  refine bodyPost_ret (v := .agg #[.int .u8 0, .int .i64 (p : Int), .int .i64 (p : Int), .string ⟨#[]⟩, .int .i64 42]) (by simp [results, Tryz.results33, go_sem]) rfl ?_
                  exact ⟨below1 w _, by rw [HT.out]; exact .inr ⟨(by show (42 : Nat) ≠ 0; decide), 0, rfl⟩⟩
                | true =>
                  by_cases hz : dd.data.toList = [48]
                  · have HT : Hid (numeralT l p = ⟨10, p, s.size, [48], 0⟩) := by show _ = _; unfold numeralT; rw [HBE.out, if_pos hB, numT_48 (by rw [← HDL.out]; exact hz)]
                    have hzb : (dd.toList == [48]) = true := by rw [Lib.toList_data, hz]; rfl
                    clear hB hz
                    go_wp2_with fail
                    (try simp only [Exit.inBlock, Exit.then])
                    refine bodyPost_ret (v := .agg #[.int .u8 0, .int .i64 (p : Int), .int .i64 (s.size : Int), .string ⟨#[48]⟩, .int .i64 0]) (by simp [results, Tryz.results33, go_sem]) rfl ?_
                    exact ⟨below1 w _, by rw [HT.out]; exact .inl ⟨rfl, rfl⟩⟩
                  · have HT : Hid (numeralT l p = ⟨10, p, s.size, x.data.toList, 0⟩) := by show _ = _; unfold numeralT; rw [HBE.out, if_pos hB, numT_not (by rw [← HDL.out]; exact hz), HXL.out]
                    have hzb : (dd.toList == [48]) = false := by rw [Lib.toList_data, beq_eq_false_iff_ne]; exact hz
                    clear hB hz
                    go_wp2_with fail
                    (try simp only [Exit.inBlock, Exit.then])
                    refine bodyPost_ret (v := .agg #[.int .u8 0, .int .i64 (p : Int), .int .i64 (s.size : Int), .string x, .int .i64 0]) (by simp [results, Tryz.results33, go_sem]) rfl ?_
                    exact ⟨below1 w _, by rw [HT.out]; exact .inl ⟨rfl, rfl⟩⟩
          have hr0 : rgtB dd.data.toList = false := rgt2 hdp (by omega) h1s
          have hds : ¬ (dd.size : Int) = 1 := by omega
          have hdsb : ((dd.size : Int) == 1) = false := by rw [beq_eq_false_iff_ne]; exact hds
          have HR0 : Hid (rgtB dd.data.toList = false) := by show _ = _; exact hr0
          clear hr0
          go_wp2_with fail
          go_loopw [8, 9] (fun r i wr => ∃ (k : Nat) (b : Bool), k ≤ dd.size ∧ r = .bool b ∧ i = .int .i64 (k : Int) ∧ Hid (b = (false && (dd.data.toList.take k).all (cDg.contains ·))) ∧ wr = w.alloc (.cells #[.int .u8 0, .int .i64 0, .int .i64 0, .string ⟨#[]⟩, .int .i64 0] 69)) (fun _ i _ => dd.size - (intOf i).toNat)
          case atStart => exact ⟨0, false, Nat.zero_le _, by first | rfl | simp [*], rfl, (by show _ = _; simp), rfl⟩
          case round =>
            obtain ⟨k, b, hk, rfl, rfl, HB, rfl⟩ := hrel
            by_cases hkl : k < dd.size
            · have hj1 : (k : Int) < (dd.size : Int) := by omega
              have hj0 : (0 : Int) ≤ (k : Int) := by omega
              have HTk := Hid.mk (Pl.take_snoc dd k hkl)
              cases b with
              | true =>
                have h := HB.out
                rw [Bool.false_and] at h
                cases h
              | false =>
                have HBn : Hid (false = (false && (dd.data.toList.take (k + 1)).all (cDg.contains ·))) := by show _ = _; rw [HTk.out, List.all_append, ← Bool.and_assoc, ← HB.out]; rfl
                go_wp2_with fail
                go_roundw
                case rel => exact ⟨k + 1, false, by omega, rfl, by go_num, HBn, by first | rfl | trivial⟩
                case measure => simp [intOf]; omega
            · obtain rfl : k = dd.size := by omega
              have hj1 : ¬ (dd.size : Int) < (dd.size : Int) := by omega
              have hB : Pl.formed (numT (cut l p s.size)) = b := by rw [formed_numT, ← HDL.out, HR0.out, HB.out, List.take_of_length_le (by rw [size_lst]; omega)]
              cases b with
              | false =>
                have HT : Hid (numeralT l p = ⟨0, p, 0, [], 42⟩) := by show _ = _; unfold numeralT; rw [HBE.out, if_neg (by rw [hB]; decide)]
                clear hB
                go_wp2_with fail
                (try simp only [Exit.inBlock, Exit.then])
                refine bodyPost_ret (v := .agg #[.int .u8 0, .int .i64 (p : Int), .int .i64 (p : Int), .string ⟨#[]⟩, .int .i64 42]) (by simp [results, Tryz.results33, go_sem]) rfl ?_
                exact ⟨below1 w _, by rw [HT.out]; exact .inr ⟨(by show (42 : Nat) ≠ 0; decide), 0, rfl⟩⟩
              | true =>
                have h := HB.out
                rw [Bool.false_and] at h
                cases h
        have hr0 : rgtB dd.data.toList = true := rgt3 hdp (by omega)
        have hcb : (((dd[0].toNat : Nat) : Int) == 48) = false := by rw [beq_eq_false_iff_ne]; exact hc
        have HR0 : Hid (rgtB dd.data.toList = true) := by show _ = _; exact hr0
        clear hr0
        go_wp2_with fail
        go_loopw [8, 9] (fun r i wr => ∃ (k : Nat) (b : Bool), k ≤ dd.size ∧ r = .bool b ∧ i = .int .i64 (k : Int) ∧ Hid (b = (true && (dd.data.toList.take k).all (cDg.contains ·))) ∧ wr = w.alloc (.cells #[.int .u8 0, .int .i64 0, .int .i64 0, .string ⟨#[]⟩, .int .i64 0] 69)) (fun _ i _ => dd.size - (intOf i).toNat)
        case atStart => exact ⟨0, true, Nat.zero_le _, by first | rfl | simp [*], rfl, (by show _ = _; simp), rfl⟩
        case round =>
          obtain ⟨k, b, hk, rfl, rfl, HB, rfl⟩ := hrel
          by_cases hkl : k < dd.size
          · have hj1 : (k : Int) < (dd.size : Int) := by omega
            have hj0 : (0 : Int) ≤ (k : Int) := by omega
            have HTk := Hid.mk (Pl.take_snoc dd k hkl)
            cases b with
            | true =>
              have hd := fun u => w_5digit dd[k] u
              cases h2 : cDg.contains dd[k] with
              | true =>
                rw [h2] at hd
                have HD := Hid.mk hd
                have HBn : Hid (true = (true && (dd.data.toList.take (k + 1)).all (cDg.contains ·))) := by show _ = _; rw [HTk.out, List.all_append, ← Bool.and_assoc, ← HB.out]; show true = (true && (cDg.contains dd[k] && true)); rw [h2]; rfl
                clear h2 hd
                go_wp2_with fail
                refine (HD.out _).mono ?_
                rintro e w1 ⟨rfl, rfl⟩
                go_wp2_with fail
                go_roundw
                case rel => exact ⟨k + 1, true, by omega, rfl, by go_num, HBn, by first | rfl | trivial⟩
                case measure => simp [intOf]; omega
              | false =>
                rw [h2] at hd
                have HD := Hid.mk hd
                have HBn : Hid (false = (true && (dd.data.toList.take (k + 1)).all (cDg.contains ·))) := by show _ = _; rw [HTk.out, List.all_append, ← Bool.and_assoc, ← HB.out]; show false = (true && (cDg.contains dd[k] && true)); rw [h2]; rfl
                clear h2 hd
                go_wp2_with fail
                refine (HD.out _).mono ?_
                rintro e w1 ⟨rfl, rfl⟩
                go_wp2_with fail
                go_roundw
                case rel => exact ⟨k + 1, false, by omega, rfl, by go_num, HBn, by first | rfl | trivial⟩
                case measure => simp [intOf]; omega
            | false =>
              have HBn : Hid (false = (true && (dd.data.toList.take (k + 1)).all (cDg.contains ·))) := by show _ = _; rw [HTk.out, List.all_append, ← Bool.and_assoc, ← HB.out]; rfl
              go_wp2_with fail
              go_roundw
              case rel => exact ⟨k + 1, false, by omega, rfl, by go_num, HBn, by first | rfl | trivial⟩
              case measure => simp [intOf]; omega
          · obtain rfl : k = dd.size := by omega
            have hj1 : ¬ (dd.size : Int) < (dd.size : Int) := by omega
            have hB : Pl.formed (numT (cut l p s.size)) = b := by rw [formed_numT, ← HDL.out, HR0.out, HB.out, List.take_of_length_le (by rw [size_lst]; omega)]
            cases b with
            | false =>
              have HT : Hid (numeralT l p = ⟨0, p, 0, [], 42⟩) := by show _ = _; unfold numeralT; rw [HBE.out, if_neg (by rw [hB]; decide)]
              clear hB
              go_wp2_with fail
              (try simp only [Exit.inBlock, Exit.then])
              refine bodyPost_ret (v := .agg #[.int .u8 0, .int .i64 (p : Int), .int .i64 (p : Int), .string ⟨#[]⟩, .int .i64 42]) (by simp [results, Tryz.results33, go_sem]) rfl ?_
              exact ⟨below1 w _, by rw [HT.out]; exact .inr ⟨(by show (42 : Nat) ≠ 0; decide), 0, rfl⟩⟩
            | true =>
              by_cases hz : dd.data.toList = [48]
              · have HT : Hid (numeralT l p = ⟨10, p, s.size, [48], 0⟩) := by show _ = _; unfold numeralT; rw [HBE.out, if_pos hB, numT_48 (by rw [← HDL.out]; exact hz)]
                have hzb : (dd.toList == [48]) = true := by rw [Lib.toList_data, hz]; rfl
                clear hB hz
                go_wp2_with fail
                (try simp only [Exit.inBlock, Exit.then])
                refine bodyPost_ret (v := .agg #[.int .u8 0, .int .i64 (p : Int), .int .i64 (s.size : Int), .string ⟨#[48]⟩, .int .i64 0]) (by simp [results, Tryz.results33, go_sem]) rfl ?_
                exact ⟨below1 w _, by rw [HT.out]; exact .inl ⟨rfl, rfl⟩⟩
              · have HT : Hid (numeralT l p = ⟨10, p, s.size, x.data.toList, 0⟩) := by show _ = _; unfold numeralT; rw [HBE.out, if_pos hB, numT_not (by rw [← HDL.out]; exact hz), HXL.out]
                have hzb : (dd.toList == [48]) = false := by rw [Lib.toList_data, beq_eq_false_iff_ne]; exact hz
                clear hB hz
                go_wp2_with fail
                (try simp only [Exit.inBlock, Exit.then])
                refine bodyPost_ret (v := .agg #[.int .u8 0, .int .i64 (p : Int), .int .i64 (s.size : Int), .string x, .int .i64 0]) (by simp [results, Tryz.results33, go_sem]) rfl ?_
                exact ⟨below1 w _, by rw [HT.out]; exact .inl ⟨rfl, rfl⟩⟩
      obtain ⟨dd, hdd⟩ : ∃ dd, x = dd := ⟨_, rfl⟩
      have HDL : Hid (dd.data.toList = Pl.body (cut l p s.size)) := by show _ = _; rw [← hdd, ← hxl]; unfold Pl.body; rw [Pl.neg_of x hxs, if_neg (by rw [decide_eq_true_eq]; omega)]
      subst hdd
      clear hxl
      by_cases hd0 : x.size = 0
      · exact absurd hd0 (by omega)
      have hdp : 0 < x.size := by omega
      have hdz : (0 : Int) < (x.size : Int) := by omega
      by_cases hc : ((x[0].toNat : Nat) : Int) = 48
      · by_cases h1s : x.size = 1
        · have hr0 : rgtB x.data.toList = true := rgt1 h1s
          have hds : (x.size : Int) = 1 := by omega
          have hdsb : ((x.size : Int) == 1) = true := by rw [hds]; rfl
          have HR0 : Hid (rgtB x.data.toList = true) := by show _ = _; exact hr0
          clear hr0
          go_wp2_with fail
          go_loopw [8, 9] (fun r i wr => ∃ (k : Nat) (b : Bool), k ≤ x.size ∧ r = .bool b ∧ i = .int .i64 (k : Int) ∧ Hid (b = (true && (x.data.toList.take k).all (cDg.contains ·))) ∧ wr = w.alloc (.cells #[.int .u8 0, .int .i64 0, .int .i64 0, .string ⟨#[]⟩, .int .i64 0] 69)) (fun _ i _ => x.size - (intOf i).toNat)
          case atStart => exact ⟨0, true, Nat.zero_le _, by first | rfl | simp [*], rfl, (by show _ = _; simp), rfl⟩
          case round =>
            obtain ⟨k, b, hk, rfl, rfl, HB, rfl⟩ := hrel
            by_cases hkl : k < x.size
            · have hj1 : (k : Int) < (x.size : Int) := by omega
              have hj0 : (0 : Int) ≤ (k : Int) := by omega
              have HTk := Hid.mk (Pl.take_snoc x k hkl)
              cases b with
              | true =>
                have hd := fun u => w_5digit x[k] u
                cases h2 : cDg.contains x[k] with
                | true =>
                  rw [h2] at hd
                  have HD := Hid.mk hd
                  have HBn : Hid (true = (true && (x.data.toList.take (k + 1)).all (cDg.contains ·))) := by show _ = _; rw [HTk.out, List.all_append, ← Bool.and_assoc, ← HB.out]; show true = (true && (cDg.contains x[k] && true)); rw [h2]; rfl
                  clear h2 hd
                  go_wp2_with fail
                  refine (HD.out _).mono ?_
                  rintro e w1 ⟨rfl, rfl⟩
                  go_wp2_with fail
                  go_roundw
                  case rel => exact ⟨k + 1, true, by omega, rfl, by go_num, HBn, by first | rfl | trivial⟩
                  case measure => simp [intOf]; omega
                | false =>
                  rw [h2] at hd
                  have HD := Hid.mk hd
                  have HBn : Hid (false = (true && (x.data.toList.take (k + 1)).all (cDg.contains ·))) := by show _ = _; rw [HTk.out, List.all_append, ← Bool.and_assoc, ← HB.out]; show false = (true && (cDg.contains x[k] && true)); rw [h2]; rfl
                  clear h2 hd
                  go_wp2_with fail
                  refine (HD.out _).mono ?_
                  rintro e w1 ⟨rfl, rfl⟩
                  go_wp2_with fail
                  go_roundw
                  case rel => exact ⟨k + 1, false, by omega, rfl, by go_num, HBn, by first | rfl | trivial⟩
                  case measure => simp [intOf]; omega
              | false =>
                have HBn : Hid (false = (true && (x.data.toList.take (k + 1)).all (cDg.contains ·))) := by show _ = _; rw [HTk.out, List.all_append, ← Bool.and_assoc, ← HB.out]; rfl
                go_wp2_with fail
                go_roundw
                case rel => exact ⟨k + 1, false, by omega, rfl, by go_num, HBn, by first | rfl | trivial⟩
                case measure => simp [intOf]; omega
            · obtain rfl : k = x.size := by omega
              have hj1 : ¬ (x.size : Int) < (x.size : Int) := by omega
              have hB : Pl.formed (numT (cut l p s.size)) = b := by rw [formed_numT, ← HDL.out, HR0.out, HB.out, List.take_of_length_le (by rw [size_lst]; omega)]
              cases b with
              | false =>
                have HT : Hid (numeralT l p = ⟨0, p, 0, [], 42⟩) := by show _ = _; unfold numeralT; rw [HBE.out, if_neg (by rw [hB]; decide)]
                clear hB
                go_wp2_with fail
                (try simp only [Exit.inBlock, Exit.then])
                refine bodyPost_ret (v := .agg #[.int .u8 0, .int .i64 (p : Int), .int .i64 (p : Int), .string ⟨#[]⟩, .int .i64 42]) (by simp [results, Tryz.results33, go_sem]) rfl ?_
                exact ⟨below1 w _, by rw [HT.out]; exact .inr ⟨(by show (42 : Nat) ≠ 0; decide), 0, rfl⟩⟩
              | true =>
                by_cases hz : x.data.toList = [48]
                · have HT : Hid (numeralT l p = ⟨10, p, s.size, [48], 0⟩) := by show _ = _; unfold numeralT; rw [HBE.out, if_pos hB, numT_48 (by rw [← HDL.out]; exact hz)]
                  have hzb : (x.toList == [48]) = true := by rw [Lib.toList_data, hz]; rfl
                  clear hB hz
                  go_wp2_with fail
                  (try simp only [Exit.inBlock, Exit.then])
                  refine bodyPost_ret (v := .agg #[.int .u8 0, .int .i64 (p : Int), .int .i64 (s.size : Int), .string ⟨#[48]⟩, .int .i64 0]) (by simp [results, Tryz.results33, go_sem]) rfl ?_
                  exact ⟨below1 w _, by rw [HT.out]; exact .inl ⟨rfl, rfl⟩⟩
                · have HT : Hid (numeralT l p = ⟨10, p, s.size, x.data.toList, 0⟩) := by show _ = _; unfold numeralT; rw [HBE.out, if_pos hB, numT_not (by rw [← HDL.out]; exact hz), HXL.out]
                  have hzb : (x.toList == [48]) = false := by rw [Lib.toList_data, beq_eq_false_iff_ne]; exact hz
                  clear hB hz
                  go_wp2_with fail
                  (try simp only [Exit.inBlock, Exit.then])
                  refine bodyPost_ret (v := .agg #[.int .u8 0, .int .i64 (p : Int), .int .i64 (s.size : Int), .string x, .int .i64 0]) (by simp [results, Tryz.results33, go_sem]) rfl ?_
                  exact ⟨below1 w _, by rw [HT.out]; exact .inl ⟨rfl, rfl⟩⟩
        have hr0 : rgtB x.data.toList = false := rgt2 hdp (by omega) h1s
        have hds : ¬ (x.size : Int) = 1 := by omega
        have hdsb : ((x.size : Int) == 1) = false := by rw [beq_eq_false_iff_ne]; exact hds
        have HR0 : Hid (rgtB x.data.toList = false) := by show _ = _; exact hr0
        clear hr0
        go_wp2_with fail
        go_loopw [8, 9] (fun r i wr => ∃ (k : Nat) (b : Bool), k ≤ x.size ∧ r = .bool b ∧ i = .int .i64 (k : Int) ∧ Hid (b = (false && (x.data.toList.take k).all (cDg.contains ·))) ∧ wr = w.alloc (.cells #[.int .u8 0, .int .i64 0, .int .i64 0, .string ⟨#[]⟩, .int .i64 0] 69)) (fun _ i _ => x.size - (intOf i).toNat)
        case atStart => exact ⟨0, false, Nat.zero_le _, by first | rfl | simp [*], rfl, (by show _ = _; simp), rfl⟩
        case round =>
          obtain ⟨k, b, hk, rfl, rfl, HB, rfl⟩ := hrel
          by_cases hkl : k < x.size
          · have hj1 : (k : Int) < (x.size : Int) := by omega
            have hj0 : (0 : Int) ≤ (k : Int) := by omega
            have HTk := Hid.mk (Pl.take_snoc x k hkl)
            cases b with
            | true =>
              have h := HB.out
              rw [Bool.false_and] at h
              cases h
            | false =>
              have HBn : Hid (false = (false && (x.data.toList.take (k + 1)).all (cDg.contains ·))) := by show _ = _; rw [HTk.out, List.all_append, ← Bool.and_assoc, ← HB.out]; rfl
              go_wp2_with fail
              go_roundw
              case rel => exact ⟨k + 1, false, by omega, rfl, by go_num, HBn, by first | rfl | trivial⟩
              case measure => simp [intOf]; omega
          · obtain rfl : k = x.size := by omega
            have hj1 : ¬ (x.size : Int) < (x.size : Int) := by omega
            have hB : Pl.formed (numT (cut l p s.size)) = b := by rw [formed_numT, ← HDL.out, HR0.out, HB.out, List.take_of_length_le (by rw [size_lst]; omega)]
            cases b with
            | false =>
              have HT : Hid (numeralT l p = ⟨0, p, 0, [], 42⟩) := by show _ = _; unfold numeralT; rw [HBE.out, if_neg (by rw [hB]; decide)]
              clear hB
              go_wp2_with fail
              (try simp only [Exit.inBlock, Exit.then])
              refine bodyPost_ret (v := .agg #[.int .u8 0, .int .i64 (p : Int), .int .i64 (p : Int), .string ⟨#[]⟩, .int .i64 42]) (by simp [results, Tryz.results33, go_sem]) rfl ?_
              exact ⟨below1 w _, by rw [HT.out]; exact .inr ⟨(by show (42 : Nat) ≠ 0; decide), 0, rfl⟩⟩
            | true =>
              have h := HB.out
              rw [Bool.false_and] at h
              cases h
      have hr0 : rgtB x.data.toList = true := rgt3 hdp (by omega)
      have hcb : (((x[0].toNat : Nat) : Int) == 48) = false := by rw [beq_eq_false_iff_ne]; exact hc
      have HR0 : Hid (rgtB x.data.toList = true) := by show _ = _; exact hr0
      clear hr0
      go_wp2_with fail
      go_loopw [8, 9] (fun r i wr => ∃ (k : Nat) (b : Bool), k ≤ x.size ∧ r = .bool b ∧ i = .int .i64 (k : Int) ∧ Hid (b = (true && (x.data.toList.take k).all (cDg.contains ·))) ∧ wr = w.alloc (.cells #[.int .u8 0, .int .i64 0, .int .i64 0, .string ⟨#[]⟩, .int .i64 0] 69)) (fun _ i _ => x.size - (intOf i).toNat)
      case atStart => exact ⟨0, true, Nat.zero_le _, by first | rfl | simp [*], rfl, (by show _ = _; simp), rfl⟩
      case round =>
        obtain ⟨k, b, hk, rfl, rfl, HB, rfl⟩ := hrel
        by_cases hkl : k < x.size
        · have hj1 : (k : Int) < (x.size : Int) := by omega
          have hj0 : (0 : Int) ≤ (k : Int) := by omega
          have HTk := Hid.mk (Pl.take_snoc x k hkl)
          cases b with
          | true =>
            have hd := fun u => w_5digit x[k] u
            cases h2 : cDg.contains x[k] with
            | true =>
              rw [h2] at hd
              have HD := Hid.mk hd
              have HBn : Hid (true = (true && (x.data.toList.take (k + 1)).all (cDg.contains ·))) := by show _ = _; rw [HTk.out, List.all_append, ← Bool.and_assoc, ← HB.out]; show true = (true && (cDg.contains x[k] && true)); rw [h2]; rfl
              clear h2 hd
              go_wp2_with fail
              refine (HD.out _).mono ?_
              rintro e w1 ⟨rfl, rfl⟩
              go_wp2_with fail
              go_roundw
              case rel => exact ⟨k + 1, true, by omega, rfl, by go_num, HBn, by first | rfl | trivial⟩
              case measure => simp [intOf]; omega
            | false =>
              rw [h2] at hd
              have HD := Hid.mk hd
              have HBn : Hid (false = (true && (x.data.toList.take (k + 1)).all (cDg.contains ·))) := by show _ = _; rw [HTk.out, List.all_append, ← Bool.and_assoc, ← HB.out]; show false = (true && (cDg.contains x[k] && true)); rw [h2]; rfl
              clear h2 hd
              go_wp2_with fail
              refine (HD.out _).mono ?_
              rintro e w1 ⟨rfl, rfl⟩
              go_wp2_with fail
              go_roundw
              case rel => exact ⟨k + 1, false, by omega, rfl, by go_num, HBn, by first | rfl | trivial⟩
              case measure => simp [intOf]; omega
          | false =>
            have HBn : Hid (false = (true && (x.data.toList.take (k + 1)).all (cDg.contains ·))) := by show _ = _; rw [HTk.out, List.all_append, ← Bool.and_assoc, ← HB.out]; rfl
            go_wp2_with fail
            go_roundw
            case rel => exact ⟨k + 1, false, by omega, rfl, by go_num, HBn, by first | rfl | trivial⟩
            case measure => simp [intOf]; omega
        · obtain rfl : k = x.size := by omega
          have hj1 : ¬ (x.size : Int) < (x.size : Int) := by omega
          have hB : Pl.formed (numT (cut l p s.size)) = b := by rw [formed_numT, ← HDL.out, HR0.out, HB.out, List.take_of_length_le (by rw [size_lst]; omega)]
          cases b with
          | false =>
            have HT : Hid (numeralT l p = ⟨0, p, 0, [], 42⟩) := by show _ = _; unfold numeralT; rw [HBE.out, if_neg (by rw [hB]; decide)]
            clear hB
            go_wp2_with fail
            (try simp only [Exit.inBlock, Exit.then])
            refine bodyPost_ret (v := .agg #[.int .u8 0, .int .i64 (p : Int), .int .i64 (p : Int), .string ⟨#[]⟩, .int .i64 42]) (by simp [results, Tryz.results33, go_sem]) rfl ?_
            exact ⟨below1 w _, by rw [HT.out]; exact .inr ⟨(by show (42 : Nat) ≠ 0; decide), 0, rfl⟩⟩
          | true =>
            by_cases hz : x.data.toList = [48]
            · have HT : Hid (numeralT l p = ⟨10, p, s.size, [48], 0⟩) := by show _ = _; unfold numeralT; rw [HBE.out, if_pos hB, numT_48 (by rw [← HDL.out]; exact hz)]
              have hzb : (x.toList == [48]) = true := by rw [Lib.toList_data, hz]; rfl
              clear hB hz
              go_wp2_with fail
              (try simp only [Exit.inBlock, Exit.then])
              refine bodyPost_ret (v := .agg #[.int .u8 0, .int .i64 (p : Int), .int .i64 (s.size : Int), .string ⟨#[48]⟩, .int .i64 0]) (by simp [results, Tryz.results33, go_sem]) rfl ?_
              exact ⟨below1 w _, by rw [HT.out]; exact .inl ⟨rfl, rfl⟩⟩
            · have HT : Hid (numeralT l p = ⟨10, p, s.size, x.data.toList, 0⟩) := by show _ = _; unfold numeralT; rw [HBE.out, if_pos hB, numT_not (by rw [← HDL.out]; exact hz), HXL.out]
              have hzb : (x.toList == [48]) = false := by rw [Lib.toList_data, beq_eq_false_iff_ne]; exact hz
              clear hB hz
              go_wp2_with fail
              (try simp only [Exit.inBlock, Exit.then])
              refine bodyPost_ret (v := .agg #[.int .u8 0, .int .i64 (p : Int), .int .i64 (s.size : Int), .string x, .int .i64 0]) (by simp [results, Tryz.results33, go_sem]) rfl ?_
              exact ⟨below1 w _, by rw [HT.out]; exact .inl ⟨rfl, rfl⟩⟩
end Go.Proofs.YtcbngdkekdhfeaaGreatDoor
