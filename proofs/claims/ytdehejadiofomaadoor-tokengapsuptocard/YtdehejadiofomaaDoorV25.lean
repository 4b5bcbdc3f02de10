import Derived.Test.YtdehejadiofomaaDoorV24
namespace Go.Proofs.YtdehejadiofomaaDoor
open Go.RowKit
set_option linter.unusedVariables false
set_option linter.unusedSimpArgs false

theorem w_numberAt_good (s : ByteArray) (k : Nat) (ds post : List UInt8) (w : World) (hd : s.data.toList.drop k = 92 :: 117 :: (ds ++ post)) (hl : ds.length = 4) (hh : ds.all isHex = true) (hk : k ≤ s.size) (hs : s.size ≤ 9223372036854775807) :
    Calls Tryd.prog 64 #[.string s, .int .i64 (k : Int)] w fun e w' => RuneB w w' e fun r b => 0 ≤ r ∧ r ≤ 65535 ∧ (b = true → k + 6 ≤ s.size) := by
  have hlt : (s.data.toList.take k).length = k := by
    rw [List.length_take, Array.length_toList]
    have e2 : s.data.size = s.size := rfl
    omega
  have hN : NumAt s k ds := ⟨hl, hh, s.data.toList.take k, post, by rw [List.append_assoc]; show _ = _ ++ (92 :: 117 :: (ds ++ post)); rw [← hd, List.take_append_drop], hlt⟩
  have h6 := hN.lt
  have hn : hexN ds < 65536 := hexN_lt ds hh 4 (by rw [hl]; exact Nat.le_refl _)
  refine (w_numberAt s k ds w hN hs).mono ?_
  rintro e w1 ⟨rfl, hb⟩
  exact ⟨_, _, rfl, ⟨by omega, by omega, fun _ => h6⟩, hb⟩

set_option maxRecDepth 100000 in
set_option maxHeartbeats 3200000 in
theorem w_numberAt_any (s : ByteArray) (k : Nat) (w : World) (hk : k ≤ s.size) (hs : s.size ≤ 4611686018427387904) (hE : ErrIn w) :
    Calls Tryd.prog 64 #[.string s, .int .i64 (k : Int)] w fun e w' => RuneB w w' e fun r b => 0 ≤ r ∧ r ≤ 65535 ∧ (b = true → k + 6 ≤ s.size) := by
  have hk1 : (k : Int) ≤ (s.size : Int) := by omega
  obtain ⟨t, ht⟩ : ∃ t, t = s.extract k s.size := ⟨_, rfl⟩
  have htl : t.data.toList = s.data.toList.drop k := by rw [ht, extract_drop]
  have hcut := fun u => Tryd.strings_CutPrefix t ⟨#[92, 117]⟩ u
  cases hp : Lib.hasPrefix t.data.toList (ByteArray.mk #[92, 117]).data.toList with
  | false =>
    rw [hp] at hcut
    have HC := Hid.mk hcut
    clear hcut hp htl
    go_enter Tryd.func64, Tryd.ntmps64
    go_wp2_with fail
    rw [← ht]
    refine (HC.out _).mono ?_
    rintro e w1 ⟨rfl, hw⟩
    obtain rfl := hw.symm
    go_wp2_with fail
    go_ret2
    exact ⟨_, _, rfl, ⟨by omega, by omega, fun h => by cases h⟩, Below.refl _ _⟩
  | true =>
    have hpp : ([92, 117] : List UInt8).isPrefixOf t.data.toList = true := hp
    rw [List.isPrefixOf_iff_prefix] at hpp
    obtain ⟨rl, hrl⟩ := hpp
    have hrl' : t.data.toList = 92 :: 117 :: rl := hrl.symm
    have htrim : Lib.trimPrefix t.data.toList (ByteArray.mk #[92, 117]).data.toList = rl := by rw [hrl']; rfl
    rw [hp, htrim] at hcut
    have HC := Hid.mk hcut
    obtain ⟨r, hr⟩ : ∃ r : ByteArray, r = ⟨rl.toArray⟩ := ⟨_, rfl⟩
    rw [← hr] at HC
    have hrs : r.size = rl.length := by rw [hr]; simp [ByteArray.size]
    clear hcut htrim
    by_cases h4 : 4 ≤ rl.length
    · cases hh : (rl.take 4).all isHex with
      | true =>
        exact w_numberAt_good s k (rl.take 4) (rl.drop 4) w (by rw [List.take_append_drop, ← htl, hrl']) (by rw [List.length_take]; omega) hh hk (by omega)
      | false =>
        have hx : (r.extract 0 4).data.toList = rl.take 4 := by rw [extract_take, hr]
        have HP : Hid (∀ u, ErrIn u → Calls Tryd.prog 70 #[.string (r.extract 0 4), .int .i64 16, .int .i64 16] u fun e w' => ∃ T v, e = .returned (.tuple #[.int .u64 0, .iface T v]) ∧ Below u.heap.size u w') := by
          intro u hu
          exact w_parse16_bad (r.extract 0 4) u (by have := congrArg List.length hx; rw [List.length_take, Array.length_toList] at this; have e2 : (r.extract 0 4).data.size = (r.extract 0 4).size := rfl; omega) (by rw [hx]; exact hh) hu
        have hr4 : (4 : Int) ≤ (r.size : Int) := by omega
        have HE := Hid.mk hE
        clear hE hh hx hrs hr hrl hrl' h4 hp htl
        go_enter Tryd.func64, Tryd.ntmps64
        go_wp2_with fail
        rw [← ht]
        refine (HC.out _).mono ?_
        rintro e w1 ⟨rfl, hw⟩
        obtain rfl := hw.symm
        go_wp2_with fail
        refine (HP.out _ HE.out).mono ?_
        rintro e w2 ⟨T, v, rfl, hb2⟩
        have HB := Hid.mk hb2
        clear hb2 HP HC ht
        have hw32 : IntKind.i32.wrap 0 = 0 := by rw [IntKind.wrap_i32]; omega
        go_wp2_with fail
        go_region
        all_goals go_wp2
        all_goals go_ret2
        all_goals exact ⟨0, false, rfl, ⟨by omega, by omega, fun h => by cases h⟩, HB.out.drew⟩
    · have hr4 : (r.size : Int) < 4 := by omega
      clear hE hrs hr hrl hrl' h4 hp htl
      go_enter Tryd.func64, Tryd.ntmps64
      go_wp2_with fail
      rw [← ht]
      refine (HC.out _).mono ?_
      rintro e w1 ⟨rfl, hw⟩
      obtain rfl := hw.symm
      go_wp2_with fail
      go_ret2
      exact ⟨_, _, rfl, ⟨by omega, by omega, fun h => by cases h⟩, Below.refl _ _⟩

/-- what Escape may answer -/
def EscR (w w' : World) (e : Ending) : Prop := ∃ r p c, e = .returned (.tuple #[.int .i32 r, .int .i64 p, .int .i64 c]) ∧ (c = 0 ∨ c = 23 ∨ c = 24) ∧ 0 ≤ r ∧ r ≤ 2147483647 ∧ 0 ≤ p ∧ p ≤ 9223372036854775807 ∧ Below w.heap.size w w'

set_option maxRecDepth 100000 in
set_option maxHeartbeats 6400000 in
theorem w_Escape_any (s : ByteArray) (k : Nat) (w : World) (hk : k < s.size) (hs : s.size ≤ 4611686018427387904) (hE : ErrIn w) :
    Calls Tryd.prog 56 #[.string s, .int .i64 (k : Int)] w fun e w' => EscR w w' e := by
  have HP := Hid.mk (fun u => w_isPlace s k u hk)
  have HS := Hid.mk (fun u => w_shortAt_any s k u hk hs)
  have HN := Hid.mk (fun u (h : ErrIn u) => w_numberAt_any s k u (by omega) hs h)
  have HN2 : Hid (∀ u, k + 6 ≤ s.size → ErrIn u → Calls Tryd.prog 64 #[.string s, .int .i64 ((k : Int) + 6)] u fun e w' => RuneB u w' e fun r b => 0 ≤ r ∧ r ≤ 65535 ∧ (b = true → k + 6 + 6 ≤ s.size)) := by
    intro u h h2
    have := w_numberAt_any s (k + 6) u h hs h2
    rw [show ((k + 6 : Nat) : Int) = (k : Int) + 6 by omega] at this
    exact this
  have HE := Hid.mk hE
  have hk62 : (k : Int) ≤ 4611686018427387904 := by omega
  clear hE
  go_enter Tryd.func56, Tryd.ntmps56
  go_wp2_with fail
  refine (HP.out _).mono ?_
  rintro e w1 ⟨rfl, hw⟩
  obtain rfl := hw.symm
  go_wp2_with fail
  refine (HS.out _).mono ?_
  rintro e w2 ⟨r, b, rfl, ⟨hr0, hr1⟩, hb2⟩
  have HB2 := Hid.mk hb2
  have HE2 := Hid.mk (HE.out.keep hb2)
  clear hb2
  cases b with
  | true =>
    go_wp2_with fail
    refine bodyPost_ret (v := .tuple #[.int .i32 r, .int .i64 ((k : Int) + 2), .int .i64 0]) (by simp [results, Tryd.results56, go_sem]) rfl ?_
    exact ⟨_, _, _, rfl, by omega, by omega, by omega, by omega, by omega, HB2.out⟩
  | false =>
    go_wp2_with fail
    refine (HN.out _ HE2.out).mono ?_
    rintro e w3 ⟨n, b, rfl, ⟨hn0, hn1, hn6⟩, hb3⟩
    have HB3 := Hid.mk (below_more HB2.out hb3)
    have HE3 := Hid.mk (HE2.out.keep hb3)
    have HN6 := Hid.mk hn6
    clear hb3 hn6
    cases b with
    | false =>
      go_wp2_with fail
      refine bodyPost_ret (v := .tuple #[.int .i32 0, .int .i64 (k : Int), .int .i64 23]) (by simp [results, Tryd.results56, go_sem]) rfl ?_
      exact ⟨_, _, _, rfl, by omega, by omega, by omega, by omega, by omega, HB3.out⟩
    | true =>
      have hcs : n < 55296 ∨ (¬ n < 55296 ∧ 57344 ≤ n) ∨ (¬ n < 55296 ∧ ¬ 57344 ≤ n ∧ 56320 ≤ n) ∨ (¬ n < 55296 ∧ ¬ 57344 ≤ n ∧ ¬ 56320 ≤ n) := by omega
      have HN2' := Hid.mk (HN2.out w3 (HN6.out rfl) HE3.out)
      clear HN HN2 HS HP HE HE2 HE3
      rcases hcs with h1 | ⟨h1, h2⟩ | ⟨h1, h2, h3⟩ | ⟨h1, h2, h3⟩
      · go_wp2_with fail
        refine bodyPost_ret (v := .tuple #[.int .i32 n, .int .i64 ((k : Int) + 6), .int .i64 0]) (by simp [results, Tryd.results56, go_sem]) rfl ?_
        exact ⟨_, _, _, rfl, by omega, by omega, by omega, by omega, by omega, HB3.out⟩
      · go_wp2_with fail
        refine bodyPost_ret (v := .tuple #[.int .i32 n, .int .i64 ((k : Int) + 6), .int .i64 0]) (by simp [results, Tryd.results56, go_sem]) rfl ?_
        exact ⟨_, _, _, rfl, by omega, by omega, by omega, by omega, by omega, HB3.out⟩
      · go_wp2_with fail
        refine HN2'.out.mono ?_
        rintro e w4 ⟨l, b, rfl, ⟨hl0, hl1, _⟩, hb4⟩
        have HB4 := Hid.mk (below_more HB3.out hb4)
        clear hb4
        go_wp2_with fail
        refine bodyPost_ret (v := .tuple #[.int .i32 0, .int .i64 (k : Int), .int .i64 24]) (by simp [results, Tryd.results56, go_sem]) rfl ?_
        exact ⟨_, _, _, rfl, by omega, by omega, by omega, by omega, by omega, HB4.out⟩
      · go_wp2_with fail
        refine HN2'.out.mono ?_
        rintro e w4 ⟨l, b, rfl, ⟨hl0, hl1, _⟩, hb4⟩
        have HB4 := Hid.mk (below_more HB3.out hb4)
        clear hb4 HN2'
        cases b with
        | false =>
          go_wp2_with fail
          refine bodyPost_ret (v := .tuple #[.int .i32 0, .int .i64 (k : Int), .int .i64 24]) (by simp [results, Tryd.results56, go_sem]) rfl ?_
          exact ⟨_, _, _, rfl, by omega, by omega, by omega, by omega, by omega, HB4.out⟩
        | true =>
          have hls : l < 56320 ∨ (¬ l < 56320 ∧ 57344 ≤ l) ∨ (¬ l < 56320 ∧ ¬ 57344 ≤ l) := by omega
          rcases hls with g1 | ⟨g1, g2⟩ | ⟨g1, g2⟩
          · go_wp2_with fail
            refine bodyPost_ret (v := .tuple #[.int .i32 0, .int .i64 (k : Int), .int .i64 24]) (by simp [results, Tryd.results56, go_sem]) rfl ?_
            exact ⟨_, _, _, rfl, by omega, by omega, by omega, by omega, by omega, HB4.out⟩
          · go_wp2_with fail
            refine bodyPost_ret (v := .tuple #[.int .i32 0, .int .i64 (k : Int), .int .i64 24]) (by simp [results, Tryd.results56, go_sem]) rfl ?_
            exact ⟨_, _, _, rfl, by omega, by omega, by omega, by omega, by omega, HB4.out⟩
          · go_wp2_with fail
            refine bodyPost_ret (v := .tuple #[.int .i32 (65536 + (n - 55296) * 1024 + (l - 56320)), .int .i64 ((k : Int) + 12), .int .i64 0]) (by simp [results, Tryd.results56, go_sem]) rfl ?_
            exact ⟨_, _, _, rfl, by omega, by omega, by omega, by omega, by omega, HB4.out⟩
end Go.Proofs.YtdehejadiofomaaDoor
