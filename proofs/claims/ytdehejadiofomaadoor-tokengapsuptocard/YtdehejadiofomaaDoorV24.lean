import Derived.Test.YtdehejadiofomaaDoorV23
import Derived.Test.YtdehejadiofomaaDoorV21
namespace Go.Proofs.YtdehejadiofomaaDoor
open Go.RowKit
set_option linter.unusedVariables false
set_option linter.unusedSimpArgs false

set_option maxRecDepth 100000 in
set_option maxHeartbeats 1600000 in
theorem s_47 (s : ByteArray) (k : Nat) (post : List UInt8) (w : World) (hd : s.data.toList.drop k = 92 :: 47 :: post) (hs : s.size ≤ 4611686018427387904) :
    Calls Tryd.prog 63 #[.string s, .int .i64 (k : Int)] w fun e w' => e = .returned (.tuple #[.int .i32 47, .bool true]) ∧ w' = w := by
  have hlt : k + 2 ≤ s.size := by
    have := congrArg List.length hd
    rw [List.length_drop, Array.length_toList] at this
    have e2 : s.data.size = s.size := rfl
    simp only [List.length_cons] at this
    omega
  have hk0 : k < s.size := by omega
  have hk1 : k + 1 < s.size := by omega
  have g0 : s[k] = 92 := get_of hd hk0
  have g1 : s[k + 1] = 47 := get_of (drop_next hd) hk1
  have hi0 : (k : Int) < (s.size : Int) := by omega
  have hi1 : (k : Int) + 1 < (s.size : Int) := by omega
  have hne : ((k : Int) + 1 == (s.size : Int)) = false := by rw [beq_eq_false_iff_ne]; omega
  have HI := Hid.mk (fun u => Tryd.strings_IndexByte ⟨#[34, 92, 47, 98, 102, 110, 114, 116]⟩ 47 u)
  rw [show Lib.indexByte (ByteArray.mk #[34, 92, 47, 98, 102, 110, 114, 116]).data.toList (47 : Int).toNat.toUInt8 = 2 by decide] at HI
  clear hd
  go_enter Tryd.func63, Tryd.ntmps63
  go_wp2_with fail
  refine (HI.out _).mono ?_
  rintro e w1 ⟨rfl, hw⟩
  obtain rfl := hw.symm
  go_wp2_with fail
  go_ret2
  have hw : wrap32 47 = 47 := by first | decide | rfl | simp [wrap32]
  exact ⟨by show Ending.returned (.tuple #[.int .i32 (wrap32 47), .bool true]) = _; rw [hw], rfl⟩


/-- what a call that answers a rune and a word may answer -/
def RuneB (w w' : World) (e : Ending) (P : Int → Bool → Prop) : Prop := ∃ r b, e = .returned (.tuple #[.int .i32 r, .bool b]) ∧ P r b ∧ Below w.heap.size w w'

set_option maxRecDepth 100000 in
theorem sign_none (c : UInt8) (h : c ≠ 34 ∧ c ≠ 92 ∧ c ≠ 47 ∧ c ≠ 98 ∧ c ≠ 102 ∧ c ≠ 110 ∧ c ≠ 114 ∧ c ≠ 116) : Lib.indexByte (ByteArray.mk #[34, 92, 47, 98, 102, 110, 114, 116]).data.toList ((c.toNat : Nat) : Int).toNat.toUInt8 = -1 := by
  have : ∀ m : Fin 256, (m.val ≠ 34 ∧ m.val ≠ 92 ∧ m.val ≠ 47 ∧ m.val ≠ 98 ∧ m.val ≠ 102 ∧ m.val ≠ 110 ∧ m.val ≠ 114 ∧ m.val ≠ 116) → Lib.indexByte (ByteArray.mk #[34, 92, 47, 98, 102, 110, 114, 116]).data.toList ((m.val : Nat) : Int).toNat.toUInt8 = -1 := by decide
  have hn : ∀ k : UInt8, c ≠ k → c.toNat ≠ k.toNat := fun k hk e => hk (UInt8.toNat_inj.1 e)
  exact this ⟨c.toNat, c.toNat_lt⟩ ⟨hn 34 h.1, hn 92 h.2.1, hn 47 h.2.2.1, hn 98 h.2.2.2.1, hn 102 h.2.2.2.2.1, hn 110 h.2.2.2.2.2.1, hn 114 h.2.2.2.2.2.2.1, hn 116 h.2.2.2.2.2.2.2⟩

set_option maxRecDepth 100000 in
set_option maxHeartbeats 3200000 in
theorem w_shortAt_any (s : ByteArray) (k : Nat) (w : World) (hk : k < s.size) (hs : s.size ≤ 4611686018427387904) :
    Calls Tryd.prog 63 #[.string s, .int .i64 (k : Int)] w fun e w' => RuneB w w' e fun r b => 0 ≤ r ∧ r ≤ 255 := by
  have hi0 : (k : Int) < (s.size : Int) := by omega
  by_cases h92 : s[k] = 92
  · by_cases hend : k + 1 = s.size
    · have hne : ((k : Int) + 1 == (s.size : Int)) = true := by rw [beq_iff_eq]; omega
      clear hend
      go_enter Tryd.func63, Tryd.ntmps63
      go_wp2_with fail
      go_ret2
      exact ⟨_, _, rfl, by omega, Below.refl _ _⟩
    · have hk1 : k + 1 < s.size := by omega
      have hd : s.data.toList.drop k = 92 :: s[k + 1] :: s.data.toList.drop (k + 2) := by
        have l0 : k < s.data.toList.length := by rw [Array.length_toList]; exact hk
        have l1 : k + 1 < s.data.toList.length := by rw [Array.length_toList]; exact hk1
        rw [List.drop_eq_getElem_cons l0, List.drop_eq_getElem_cons l1]
        have e0 : s.data.toList[k]'l0 = s[k] := rfl
        have e1 : s.data.toList[k + 1]'l1 = s[k + 1] := rfl
        rw [e0, e1, h92]
      obtain ⟨c, hc⟩ : ∃ c, c = s[k + 1] := ⟨_, rfl⟩
      rw [← hc] at hd
      have fin : ∀ z : Int, 0 ≤ z → z ≤ 255 → (Calls Tryd.prog 63 #[.string s, .int .i64 (k : Int)] w fun e w' => e = .returned (.tuple #[.int .i32 z, .bool true]) ∧ w' = w) → Calls Tryd.prog 63 #[.string s, .int .i64 (k : Int)] w fun e w' => RuneB w w' e fun r b => 0 ≤ r ∧ r ≤ 255 := by
        intro z h0 h1 h
        refine h.mono ?_
        rintro e w1 ⟨rfl, hw⟩
        obtain rfl := hw.symm
        exact ⟨z, true, rfl, ⟨h0, h1⟩, Below.refl _ _⟩
      by_cases a1 : c = 34
      · rw [a1] at hd; exact fin 34 (by omega) (by omega) (s_34 s k _ w hd hs)
      by_cases a2 : c = 92
      · rw [a2] at hd; exact fin 92 (by omega) (by omega) (s_92 s k _ w hd hs)
      by_cases a3 : c = 47
      · rw [a3] at hd; exact fin 47 (by omega) (by omega) (s_47 s k _ w hd hs)
      by_cases a4 : c = 98
      · rw [a4] at hd; exact fin 8 (by omega) (by omega) (s_8 s k _ w hd hs)
      by_cases a5 : c = 102
      · rw [a5] at hd; exact fin 12 (by omega) (by omega) (s_12 s k _ w hd hs)
      by_cases a6 : c = 110
      · rw [a6] at hd; exact fin 10 (by omega) (by omega) (s_10 s k _ w hd hs)
      by_cases a7 : c = 114
      · rw [a7] at hd; exact fin 13 (by omega) (by omega) (s_13 s k _ w hd hs)
      by_cases a8 : c = 116
      · rw [a8] at hd; exact fin 9 (by omega) (by omega) (s_9 s k _ w hd hs)
      have hno := sign_none c ⟨a1, a2, a3, a4, a5, a6, a7, a8⟩
      have HI := Hid.mk (fun u => Tryd.strings_IndexByte ⟨#[34, 92, 47, 98, 102, 110, 114, 116]⟩ ((c.toNat : Nat) : Int) u)
      rw [hno] at HI
      have g1 : s[k + 1] = c := hc.symm
      have hi1 : (k : Int) + 1 < (s.size : Int) := by omega
      have hne : ((k : Int) + 1 == (s.size : Int)) = false := by rw [beq_eq_false_iff_ne]; omega
      clear a1 a2 a3 a4 a5 a6 a7 a8 hno fin hd hend hc
      go_enter Tryd.func63, Tryd.ntmps63
      go_wp2_with fail
      refine (HI.out _).mono ?_
      rintro e w1 ⟨rfl, hw⟩
      obtain rfl := hw.symm
      go_wp2_with fail
      go_ret2
      exact ⟨_, _, rfl, by omega, Below.refl _ _⟩
  · have h92' : ((((s[k]).toNat : Nat) : Int) != 92) = true := by
      rw [bne_iff_ne]
      intro e
      apply h92
      apply UInt8.toNat_inj.1
      have : (92 : UInt8).toNat = 92 := rfl
      omega
    clear h92
    go_enter Tryd.func63, Tryd.ntmps63
    go_wp2_with fail
    go_ret2
    exact ⟨_, _, rfl, by omega, Below.refl _ _⟩

/-- the library's error stands where it is laid -/
def ErrIn (w : World) : Prop := ∃ ev, w.cell? ⟨3, 0, none⟩ = some ev ∧ (ev = .nilIface ∨ ∃ te pe, ev = .iface te pe)
theorem ErrIn.keep {w w' : World} (h : ErrIn w) (hb : Below w.heap.size w w') : ErrIn w' := by
  obtain ⟨ev, h1, h2⟩ := h
  refine ⟨ev, (hb.cell (p := ⟨3, 0, none⟩) ?_).trans h1, h2⟩
  show 3 < w.heap.size
  rcases Nat.lt_or_ge 3 w.heap.size with h | h
  · exact h
  · simp [World.cell?, Array.getElem?_eq_none h] at h1

set_option maxRecDepth 100000 in
set_option maxHeartbeats 800000 in
theorem w_parse16_bad (t : ByteArray) (w : World) (ht : t.size = 4) (hh : t.data.toList.all isHex = false) (hE : ErrIn w) :
    Calls Tryd.prog 70 #[.string t, .int .i64 16, .int .i64 16] w fun e w' => ∃ T v, e = .returned (.tuple #[.int .u64 0, .iface T v]) ∧ Below w.heap.size w w' := by
  have HC := Hid.mk (w_iparse16_bad t w ht hh)
  have HE := Hid.mk hE
  have hts : t.size ≤ 281474976710656 := by omega
  clear ht hh hE
  go_enter Tryd.func70, Tryd.ntmps70
  go_wp2_with fail
  refine HC.out.mono ?_
  rintro e w1 ⟨rfl, hb1⟩
  have HB := Hid.mk hb1
  obtain ⟨ev, hv, hev⟩ := HE.out.keep hb1
  have HT := Hid.mk (Tryd.strconv_toError_syntax ⟨#[80, 97, 114, 115, 101, 85, 105, 110, 116]⟩ t 16 16 ev w1 hts hv hev)
  clear hb1 HC hv hev HE
  go_wp2_with fail
  refine HT.out.mono ?_
  rintro e w2 ⟨N, rfl, _, _, hb2⟩
  have HB2 := Hid.mk (below_more HB.out hb2)
  clear hb2 HT
  go_wp2_with fail
  go_ret2
  exact ⟨_, _, rfl, HB2.out⟩
end Go.Proofs.YtdehejadiofomaaDoor
