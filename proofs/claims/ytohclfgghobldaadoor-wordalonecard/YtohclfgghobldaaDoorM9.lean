import Derived.Test.YtohclfgghobldaaDoorM2
import Derived.Test.YtohclfgghobldaaDoorM8
namespace Go.Proofs.YtohclfgghobldaaDoor
open Go.RowKit
set_option linter.unusedVariables false
set_option linter.unusedSimpArgs false

set_option maxRecDepth 100000 in
set_option maxHeartbeats 1600000 in
theorem s_47 (s : ByteArray) (k : Nat) (post : List UInt8) (w : World) (hd : s.data.toList.drop k = 92 :: 47 :: post) (hs : s.size ≤ 4611686018427387904) :
    Calls Tryd.prog 49 #[.string s, .int .i64 (k : Int)] w fun e w' => e = .returned (.tuple #[.int .i32 47, .bool true]) ∧ w' = w := by
  have hlt : k + 2 ≤ s.size := by
    have := congrArg List.length hd
    rw [List.length_drop, Array.length_toList] at this
    have e2 : s.data.size = s.size := rfl
    simp only [List.length_cons] at this
    omega
  have hk0 : k < s.size := by omega
  have hk1 : k + 1 < s.size := by omega
  have g0 : s[k] = 92 := get_of hd hk0
  have g1 : s[k + 1] = 47 := get_of (drop_next hd) hk1
  have hi0 : (k : Int) < (s.size : Int) := by omega
  have hi1 : (k : Int) + 1 < (s.size : Int) := by omega
  have hne : ((k : Int) + 1 == (s.size : Int)) = false := by rw [beq_eq_false_iff_ne]; omega
  have HI := Hid.mk (fun u => Tryd.strings_IndexByte ⟨#[34, 92, 47, 98, 102, 110, 114, 116]⟩ 47 u)
  rw [show Lib.indexByte (ByteArray.mk #[34, 92, 47, 98, 102, 110, 114, 116]).data.toList (47 : Int).toNat.toUInt8 = 2 by decide] at HI
  clear hd
  go_enter Tryd.func49, Tryd.ntmps49
  go_wp2_with fail
  refine (HI.out _).mono ?_
  rintro e w1 ⟨rfl, hw⟩
  obtain rfl := hw.symm
  go_wp2_with fail
  go_ret2
  have hw : wrap32 47 = 47 := by first | decide | rfl | simp [wrap32]
  exact ⟨by show Ending.returned (.tuple #[.int .i32 (wrap32 47), .bool true]) = _; rw [hw], rfl⟩


/-- what a call that answers a rune and a word may answer -/
def RuneB (w w' : World) (e : Ending) (P : Int → Bool → Prop) : Prop := ∃ r b, e = .returned (.tuple #[.int .i32 r, .bool b]) ∧ P r b ∧ Below w.heap.size w w'

set_option maxRecDepth 100000 in
theorem sign_none (c : UInt8) (h : c ≠ 34 ∧ c ≠ 92 ∧ c ≠ 47 ∧ c ≠ 98 ∧ c ≠ 102 ∧ c ≠ 110 ∧ c ≠ 114 ∧ c ≠ 116) : Lib.indexByte (ByteArray.mk #[34, 92, 47, 98, 102, 110, 114, 116]).data.toList ((c.toNat : Nat) : Int).toNat.toUInt8 = -1 := by
  have : ∀ m : Fin 256, (m.val ≠ 34 ∧ m.val ≠ 92 ∧ m.val ≠ 47 ∧ m.val ≠ 98 ∧ m.val ≠ 102 ∧ m.val ≠ 110 ∧ m.val ≠ 114 ∧ m.val ≠ 116) → Lib.indexByte (ByteArray.mk #[34, 92, 47, 98, 102, 110, 114, 116]).data.toList ((m.val : Nat) : Int).toNat.toUInt8 = -1 := by decide
  have hn : ∀ k : UInt8, c ≠ k → c.toNat ≠ k.toNat := fun k hk e => hk (UInt8.toNat_inj.1 e)
  exact this ⟨c.toNat, c.toNat_lt⟩ ⟨hn 34 h.1, hn 92 h.2.1, hn 47 h.2.2.1, hn 98 h.2.2.2.1, hn 102 h.2.2.2.2.1, hn 110 h.2.2.2.2.2.1, hn 114 h.2.2.2.2.2.2.1, hn 116 h.2.2.2.2.2.2.2⟩

set_option maxRecDepth 100000 in
set_option maxHeartbeats 3200000 in
theorem w_shortAt_any (s : ByteArray) (k : Nat) (w : World) (hk : k < s.size) (hs : s.size ≤ 4611686018427387904) :
    Calls Tryd.prog 49 #[.string s, .int .i64 (k : Int)] w fun e w' => RuneB w w' e fun r b => 0 ≤ r ∧ r ≤ 255 := by
  have hi0 : (k : Int) < (s.size : Int) := by omega
  by_cases h92 : s[k] = 92
  · by_cases hend : k + 1 = s.size
    · have hne : ((k : Int) + 1 == (s.size : Int)) = true := by rw [beq_iff_eq]; omega
      clear hend
      go_enter Tryd.func49, Tryd.ntmps49
      go_wp2_with fail
      go_ret2
      exact ⟨_, _, rfl, by omega, Below.refl _ _⟩
    · have hk1 : k + 1 < s.size := by omega
      have hd : s.data.toList.drop k = 92 :: s[k + 1] :: s.data.toList.drop (k + 2) := by
        have l0 : k < s.data.toList.length := by rw [Array.length_toList]; exact hk
        have l1 : k + 1 < s.data.toList.length := by rw [Array.length_toList]; exact hk1
        rw [List.drop_eq_getElem_cons l0, List.drop_eq_getElem_cons l1]
        have e0 : s.data.toList[k]'l0 = s[k] := rfl
        have e1 : s.data.toList[k + 1]'l1 = s[k + 1] := rfl
        rw [e0, e1, h92]
      obtain ⟨c, hc⟩ : ∃ c, c = s[k + 1] := ⟨_, rfl⟩
      rw [← hc] at hd
      have fin : ∀ z : Int, 0 ≤ z → z ≤ 255 → (Calls Tryd.prog 49 #[.string s, .int .i64 (k : Int)] w fun e w' => e = .returned (.tuple #[.int .i32 z, .bool true]) ∧ w' = w) → Calls Tryd.prog 49 #[.string s, .int .i64 (k : Int)] w fun e w' => RuneB w w' e fun r b => 0 ≤ r ∧ r ≤ 255 := by
        intro z h0 h1 h
        refine h.mono ?_
        rintro e w1 ⟨rfl, hw⟩
        obtain rfl := hw.symm
        exact ⟨z, true, rfl, ⟨h0, h1⟩, Below.refl _ _⟩
      by_cases a1 : c = 34
      · rw [a1] at hd; exact fin 34 (by omega) (by omega) (s_34 s k _ w hd hs)
      by_cases a2 : c = 92
      · rw [a2] at hd; exact fin 92 (by omega) (by omega) (s_92 s k _ w hd hs)
      by_cases a3 : c = 47
      · rw [a3] at hd; exact fin 47 (by omega) (by omega) (s_47 s k _ w hd hs)
      by_cases a4 : c = 98
      · rw [a4] at hd; exact fin 8 (by omega) (by omega) (s_8 s k _ w hd hs)
      by_cases a5 : c = 102
      · rw [a5] at hd; exact fin 12 (by omega) (by omega) (s_12 s k _ w hd hs)
      by_cases a6 : c = 110
      · rw [a6] at hd; exact fin 10 (by omega) (by omega) (s_10 s k _ w hd hs)
      by_cases a7 : c = 114
      · rw [a7] at hd; exact fin 13 (by omega) (by omega) (s_13 s k _ w hd hs)
      by_cases a8 : c = 116
      · rw [a8] at hd; exact fin 9 (by omega) (by omega) (s_9 s k _ w hd hs)
      have hno := sign_none c ⟨a1, a2, a3, a4, a5, a6, a7, a8⟩
      have HI := Hid.mk (fun u => Tryd.strings_IndexByte ⟨#[34, 92, 47, 98, 102, 110, 114, 116]⟩ ((c.toNat : Nat) : Int) u)
      rw [hno] at HI
      have g1 : s[k + 1] = c := hc.symm
      have hi1 : (k : Int) + 1 < (s.size : Int) := by omega
      have hne : ((k : Int) + 1 == (s.size : Int)) = false := by rw [beq_eq_false_iff_ne]; omega
      clear a1 a2 a3 a4 a5 a6 a7 a8 hno fin hd hend hc
      go_enter Tryd.func49, Tryd.ntmps49
      go_wp2_with fail
      refine (HI.out _).mono ?_
      rintro e w1 ⟨rfl, hw⟩
      obtain rfl := hw.symm
      go_wp2_with fail
      go_ret2
      exact ⟨_, _, rfl, by omega, Below.refl _ _⟩
  · have h92' : ((((s[k]).toNat : Nat) : Int) != 92) = true := by
      rw [bne_iff_ne]
      intro e
      apply h92
      apply UInt8.toNat_inj.1
      have : (92 : UInt8).toNat = 92 := rfl
      omega
    clear h92
    go_enter Tryd.func49, Tryd.ntmps49
    go_wp2_with fail
    go_ret2
    exact ⟨_, _, rfl, by omega, Below.refl _ _⟩

/-- the library's error stands where it is laid -/
def ErrIn (w : World) : Prop := ∃ ev, w.cell? ⟨1, 0, none⟩ = some ev ∧ (ev = .nilIface ∨ ∃ te pe, ev = .iface te pe)
theorem ErrIn.keep {w w' : World} (h : ErrIn w) (hb : Below w.heap.size w w') : ErrIn w' := by
  obtain ⟨ev, h1, h2⟩ := h
  refine ⟨ev, (hb.cell (p := ⟨1, 0, none⟩) ?_).trans h1, h2⟩
  show 1 < w.heap.size
  rcases Nat.lt_or_ge 1 w.heap.size with h | h
  · exact h
  · simp [World.cell?, Array.getElem?_eq_none h] at h1

set_option maxRecDepth 100000 in
set_option maxHeartbeats 800000 in
theorem w_parse16_bad (t : ByteArray) (w : World) (ht : t.size = 4) (hh : t.data.toList.all isHex = false) (hE : ErrIn w) :
    Calls Tryd.prog 54 #[.string t, .int .i64 16, .int .i64 16] w fun e w' => ∃ T v, e = .returned (.tuple #[.int .u64 0, .iface T v]) ∧ Below w.heap.size w w' := by
  have HC := Hid.mk (w_iparse16_bad t w ht hh)
  have HE := Hid.mk hE
  have hts : t.size ≤ 281474976710656 := by omega
  clear ht hh hE
  go_enter Tryd.func54, Tryd.ntmps54
  go_wp2_with fail
  refine HC.out.mono ?_
  rintro e w1 ⟨rfl, hb1⟩
  have HB := Hid.mk hb1
  obtain ⟨ev, hv, hev⟩ := HE.out.keep hb1
  have HT := Hid.mk (Tryd.strconv_toError_syntax ⟨#[80, 97, 114, 115, 101, 85, 105, 110, 116]⟩ t 16 16 ev w1 hts hv hev)
  clear hb1 HC hv hev HE
  go_wp2_with fail
  refine HT.out.mono ?_
  rintro e w2 ⟨N, rfl, _, _, hb2⟩
  have HB2 := Hid.mk (below_more HB.out hb2)
  clear hb2 HT
  go_wp2_with fail
  go_ret2
  exact ⟨_, _, rfl, HB2.out⟩
end Go.Proofs.YtohclfgghobldaaDoor
namespace Go.Proofs.YtohclfgghobldaaDoor
open Go.RowKit
set_option linter.unusedVariables false
set_option linter.unusedSimpArgs false

theorem w_numberAt_good (s : ByteArray) (k : Nat) (ds post : List UInt8) (w : World) (hd : s.data.toList.drop k = 92 :: 117 :: (ds ++ post)) (hl : ds.length = 4) (hh : ds.all isHex = true) (hk : k ≤ s.size) (hs : s.size ≤ 9223372036854775807) :
    Calls Tryd.prog 50 #[.string s, .int .i64 (k : Int)] w fun e w' => RuneB w w' e fun r b => 0 ≤ r ∧ r ≤ 65535 ∧ (b = true → k + 6 ≤ s.size) := by
  have hlt : (s.data.toList.take k).length = k := by
    rw [List.length_take, Array.length_toList]
    have e2 : s.data.size = s.size := rfl
    omega
  have hN : NumAt s k ds := ⟨hl, hh, s.data.toList.take k, post, by rw [List.append_assoc]; show _ = _ ++ (92 :: 117 :: (ds ++ post)); rw [← hd, List.take_append_drop], hlt⟩
  have h6 := hN.lt
  have hn : hexN ds < 65536 := hexN_lt ds hh 4 (by rw [hl]; exact Nat.le_refl _)
  refine (w_numberAt s k ds w hN hs).mono ?_
  rintro e w1 ⟨rfl, hb⟩
  exact ⟨_, _, rfl, ⟨by omega, by omega, fun _ => h6⟩, hb⟩

set_option maxRecDepth 100000 in
set_option maxHeartbeats 3200000 in
theorem w_numberAt_any (s : ByteArray) (k : Nat) (w : World) (hk : k ≤ s.size) (hs : s.size ≤ 4611686018427387904) (hE : ErrIn w) :
    Calls Tryd.prog 50 #[.string s, .int .i64 (k : Int)] w fun e w' => RuneB w w' e fun r b => 0 ≤ r ∧ r ≤ 65535 ∧ (b = true → k + 6 ≤ s.size) := by
  have hk1 : (k : Int) ≤ (s.size : Int) := by omega
  obtain ⟨t, ht⟩ : ∃ t, t = s.extract k s.size := ⟨_, rfl⟩
  have htl : t.data.toList = s.data.toList.drop k := by rw [ht, extract_drop]
  have hcut := fun u => Tryd.strings_CutPrefix t ⟨#[92, 117]⟩ u
  cases hp : Lib.hasPrefix t.data.toList (ByteArray.mk #[92, 117]).data.toList with
  | false =>
    rw [hp] at hcut
    have HC := Hid.mk hcut
    clear hcut hp htl
    go_enter Tryd.func50, Tryd.ntmps50
    go_wp2_with fail
    rw [← ht]
    refine (HC.out _).mono ?_
    rintro e w1 ⟨rfl, hw⟩
    obtain rfl := hw.symm
    go_wp2_with fail
    go_ret2
    exact ⟨_, _, rfl, ⟨by omega, by omega, fun h => by cases h⟩, Below.refl _ _⟩
  | true =>
    have hpp : ([92, 117] : List UInt8).isPrefixOf t.data.toList = true := hp
    rw [List.isPrefixOf_iff_prefix] at hpp
    obtain ⟨rl, hrl⟩ := hpp
    have hrl' : t.data.toList = 92 :: 117 :: rl := hrl.symm
    have htrim : Lib.trimPrefix t.data.toList (ByteArray.mk #[92, 117]).data.toList = rl := by rw [hrl']; rfl
    rw [hp, htrim] at hcut
    have HC := Hid.mk hcut
    obtain ⟨r, hr⟩ : ∃ r : ByteArray, r = ⟨rl.toArray⟩ := ⟨_, rfl⟩
    rw [← hr] at HC
    have hrs : r.size = rl.length := by rw [hr]; simp [ByteArray.size]
    clear hcut htrim
    by_cases h4 : 4 ≤ rl.length
    · cases hh : (rl.take 4).all isHex with
      | true =>
        exact w_numberAt_good s k (rl.take 4) (rl.drop 4) w (by rw [List.take_append_drop, ← htl, hrl']) (by rw [List.length_take]; omega) hh hk (by omega)
      | false =>
        have hx : (r.extract 0 4).data.toList = rl.take 4 := by rw [extract_take, hr]
        have HP : Hid (∀ u, ErrIn u → Calls Tryd.prog 54 #[.string (r.extract 0 4), .int .i64 16, .int .i64 16] u fun e w' => ∃ T v, e = .returned (.tuple #[.int .u64 0, .iface T v]) ∧ Below u.heap.size u w') := by
          intro u hu
          exact w_parse16_bad (r.extract 0 4) u (by have := congrArg List.length hx; rw [List.length_take, Array.length_toList] at this; have e2 : (r.extract 0 4).data.size = (r.extract 0 4).size := rfl; omega) (by rw [hx]; exact hh) hu
        have hr4 : (4 : Int) ≤ (r.size : Int) := by omega
        have HE := Hid.mk hE
        clear hE hh hx hrs hr hrl hrl' h4 hp htl
        go_enter Tryd.func50, Tryd.ntmps50
        go_wp2_with fail
        rw [← ht]
        refine (HC.out _).mono ?_
        rintro e w1 ⟨rfl, hw⟩
        obtain rfl := hw.symm
        go_wp2_with fail
        refine (HP.out _ HE.out).mono ?_
        rintro e w2 ⟨T, v, rfl, hb2⟩
        have HB := Hid.mk hb2
        clear hb2 HP HC ht
        have hw32 : IntKind.i32.wrap 0 = 0 := by rw [IntKind.wrap_i32]; omega
        go_wp2_with fail
        go_region
        all_goals go_wp2
        all_goals go_ret2
        all_goals exact ⟨0, false, rfl, ⟨by omega, by omega, fun h => by cases h⟩, HB.out.drew⟩
    · have hr4 : (r.size : Int) < 4 := by omega
      clear hE hrs hr hrl hrl' h4 hp htl
      go_enter Tryd.func50, Tryd.ntmps50
      go_wp2_with fail
      rw [← ht]
      refine (HC.out _).mono ?_
      rintro e w1 ⟨rfl, hw⟩
      obtain rfl := hw.symm
      go_wp2_with fail
      go_ret2
      exact ⟨_, _, rfl, ⟨by omega, by omega, fun h => by cases h⟩, Below.refl _ _⟩

/-- what Escape may answer -/
def EscR (w w' : World) (e : Ending) : Prop := ∃ r p c, e = .returned (.tuple #[.int .i32 r, .int .i64 p, .int .i64 c]) ∧ (c = 0 ∨ c = 23 ∨ c = 24) ∧ 0 ≤ r ∧ r ≤ 2147483647 ∧ 0 ≤ p ∧ p ≤ 9223372036854775807 ∧ Below w.heap.size w w'

set_option maxRecDepth 100000 in
set_option maxHeartbeats 6400000 in
theorem w_Escape_any (s : ByteArray) (k : Nat) (w : World) (hk : k < s.size) (hs : s.size ≤ 4611686018427387904) (hE : ErrIn w) :
    Calls Tryd.prog 45 #[.string s, .int .i64 (k : Int)] w fun e w' => EscR w w' e := by
  have HP := Hid.mk (fun u => w_isPlace s k u hk)
  have HS := Hid.mk (fun u => w_shortAt_any s k u hk hs)
  have HN := Hid.mk (fun u (h : ErrIn u) => w_numberAt_any s k u (by omega) hs h)
  have HN2 : Hid (∀ u, k + 6 ≤ s.size → ErrIn u → Calls Tryd.prog 50 #[.string s, .int .i64 ((k : Int) + 6)] u fun e w' => RuneB u w' e fun r b => 0 ≤ r ∧ r ≤ 65535 ∧ (b = true → k + 6 + 6 ≤ s.size)) := by
    intro u h h2
    have := w_numberAt_any s (k + 6) u h hs h2
    rw [show ((k + 6 : Nat) : Int) = (k : Int) + 6 by omega] at this
    exact this
  have HE := Hid.mk hE
  have hk62 : (k : Int) ≤ 4611686018427387904 := by omega
  clear hE
  go_enter Tryd.func45, Tryd.ntmps45
  go_wp2_with fail
  refine (HP.out _).mono ?_
  rintro e w1 ⟨rfl, hw⟩
  obtain rfl := hw.symm
  go_wp2_with fail
  refine (HS.out _).mono ?_
  rintro e w2 ⟨r, b, rfl, ⟨hr0, hr1⟩, hb2⟩
  have HB2 := Hid.mk hb2
  have HE2 := Hid.mk (HE.out.keep hb2)
  clear hb2
  cases b with
  | true =>
    go_wp2_with fail
    refine bodyPost_ret (v := .tuple #[.int .i32 r, .int .i64 ((k : Int) + 2), .int .i64 0]) (by simp [results, Tryd.results45, go_sem]) rfl ?_
    exact ⟨_, _, _, rfl, by omega, by omega, by omega, by omega, by omega, HB2.out⟩
  | false =>
    go_wp2_with fail
    refine (HN.out _ HE2.out).mono ?_
    rintro e w3 ⟨n, b, rfl, ⟨hn0, hn1, hn6⟩, hb3⟩
    have HB3 := Hid.mk (below_more HB2.out hb3)
    have HE3 := Hid.mk (HE2.out.keep hb3)
    have HN6 := Hid.mk hn6
    clear hb3 hn6
    cases b with
    | false =>
      go_wp2_with fail
      refine bodyPost_ret (v := .tuple #[.int .i32 0, .int .i64 (k : Int), .int .i64 23]) (by simp [results, Tryd.results45, go_sem]) rfl ?_
      exact ⟨_, _, _, rfl, by omega, by omega, by omega, by omega, by omega, HB3.out⟩
    | true =>
      have hcs : n < 55296 ∨ (¬ n < 55296 ∧ 57344 ≤ n) ∨ (¬ n < 55296 ∧ ¬ 57344 ≤ n ∧ 56320 ≤ n) ∨ (¬ n < 55296 ∧ ¬ 57344 ≤ n ∧ ¬ 56320 ≤ n) := by omega
      have HN2' := Hid.mk (HN2.out w3 (HN6.out rfl) HE3.out)
      clear HN HN2 HS HP HE HE2 HE3
      rcases hcs with h1 | ⟨h1, h2⟩ | ⟨h1, h2, h3⟩ | ⟨h1, h2, h3⟩
      · go_wp2_with fail
        refine bodyPost_ret (v := .tuple #[.int .i32 n, .int .i64 ((k : Int) + 6), .int .i64 0]) (by simp [results, Tryd.results45, go_sem]) rfl ?_
        exact ⟨_, _, _, rfl, by omega, by omega, by omega, by omega, by omega, HB3.out⟩
      · go_wp2_with fail
        refine bodyPost_ret (v := .tuple #[.int .i32 n, .int .i64 ((k : Int) + 6), .int .i64 0]) (by simp [results, Tryd.results45, go_sem]) rfl ?_
        exact ⟨_, _, _, rfl, by omega, by omega, by omega, by omega, by omega, HB3.out⟩
      · go_wp2_with fail
        refine HN2'.out.mono ?_
        rintro e w4 ⟨l, b, rfl, ⟨hl0, hl1, _⟩, hb4⟩
        have HB4 := Hid.mk (below_more HB3.out hb4)
        clear hb4
        go_wp2_with fail
        refine bodyPost_ret (v := .tuple #[.int .i32 0, .int .i64 (k : Int), .int .i64 24]) (by simp [results, Tryd.results45, go_sem]) rfl ?_
        exact ⟨_, _, _, rfl, by omega, by omega, by omega, by omega, by omega, HB4.out⟩
      · go_wp2_with fail
        refine HN2'.out.mono ?_
        rintro e w4 ⟨l, b, rfl, ⟨hl0, hl1, _⟩, hb4⟩
        have HB4 := Hid.mk (below_more HB3.out hb4)
        clear hb4 HN2'
        cases b with
        | false =>
          go_wp2_with fail
          refine bodyPost_ret (v := .tuple #[.int .i32 0, .int .i64 (k : Int), .int .i64 24]) (by simp [results, Tryd.results45, go_sem]) rfl ?_
          exact ⟨_, _, _, rfl, by omega, by omega, by omega, by omega, by omega, HB4.out⟩
        | true =>
          have hls : l < 56320 ∨ (¬ l < 56320 ∧ 57344 ≤ l) ∨ (¬ l < 56320 ∧ ¬ 57344 ≤ l) := by omega
          rcases hls with g1 | ⟨g1, g2⟩ | ⟨g1, g2⟩
          · go_wp2_with fail
            refine bodyPost_ret (v := .tuple #[.int .i32 0, .int .i64 (k : Int), .int .i64 24]) (by simp [results, Tryd.results45, go_sem]) rfl ?_
            exact ⟨_, _, _, rfl, by omega, by omega, by omega, by omega, by omega, HB4.out⟩
          · go_wp2_with fail
            refine bodyPost_ret (v := .tuple #[.int .i32 0, .int .i64 (k : Int), .int .i64 24]) (by simp [results, Tryd.results45, go_sem]) rfl ?_
            exact ⟨_, _, _, rfl, by omega, by omega, by omega, by omega, by omega, HB4.out⟩
          · go_wp2_with fail
            refine bodyPost_ret (v := .tuple #[.int .i32 (65536 + (n - 55296) * 1024 + (l - 56320)), .int .i64 ((k : Int) + 12), .int .i64 0]) (by simp [results, Tryd.results45, go_sem]) rfl ?_
            exact ⟨_, _, _, rfl, by omega, by omega, by omega, by omega, by omega, HB4.out⟩
end Go.Proofs.YtohclfgghobldaaDoor
