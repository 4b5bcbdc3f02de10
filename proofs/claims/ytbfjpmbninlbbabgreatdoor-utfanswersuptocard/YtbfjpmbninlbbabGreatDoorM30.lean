import Derived.Test.YtbfjpmbninlbbabGreatDoorM25
namespace Go.Proofs.YtbfjpmbninlbbabGreatDoor
open Go.RowKit
set_option linter.unusedVariables false
set_option linter.unusedSimpArgs false

set_option maxRecDepth 100000 in
set_option maxHeartbeats 3200000 in
theorem w_shortAt_ex (s : ByteArray) (k : Nat) (w : World) (hk : k < s.size) (hs : s.size ≤ 4611686018427387904) :
    Calls Tryz.prog 52 #[.string s, .int .i64 (k : Int)] w fun e w' => RuneB w w' e fun r b => (∃ x : Nat, shortL (s.data.toList.drop k) = some x ∧ r = (x : Int) ∧ b = true) ∨ (shortL (s.data.toList.drop k) = none ∧ b = false) := by
  have hi0 : (k : Int) < (s.size : Int) := by omega
  by_cases h92 : s[k] = 92
  · by_cases hend : k + 1 = s.size
    · have hne : ((k : Int) + 1 == (s.size : Int)) = true := by rw [beq_iff_eq]; omega
      have HNO : Hid (shortL (s.data.toList.drop k) = none) := by
        show _ = _
        unfold shortL
        rw [if_neg]
        intro h
        have h2 := h.2
        rw [List.length_drop, size_len] at h2
        omega
      clear hend
      go_enter Tryz.func52, Tryz.ntmps52
      go_wp2_with fail
      go_ret2
      exact ⟨_, _, rfl, .inr ⟨HNO.out, rfl⟩, Below.refl _ _⟩
    · have hk1 : k + 1 < s.size := by omega
      have hd : s.data.toList.drop k = 92 :: s[k + 1] :: s.data.toList.drop (k + 2) := by
        have l0 : k < s.data.toList.length := by rw [Array.length_toList]; exact hk
        have l1 : k + 1 < s.data.toList.length := by rw [Array.length_toList]; exact hk1
        rw [List.drop_eq_getElem_cons l0, List.drop_eq_getElem_cons l1]
        have e0 : s.data.toList[k]'l0 = s[k] := rfl
        have e1 : s.data.toList[k + 1]'l1 = s[k + 1] := rfl
        rw [e0, e1, h92]
      obtain ⟨c, hc⟩ : ∃ c, c = s[k + 1] := ⟨_, rfl⟩
      rw [← hc] at hd
      have fin : ∀ z : Nat, shortL (s.data.toList.drop k) = some z → (Calls Tryz.prog 52 #[.string s, .int .i64 (k : Int)] w fun e w' => e = .returned (.tuple #[.int .i32 (z : Int), .bool true]) ∧ w' = w) → Calls Tryz.prog 52 #[.string s, .int .i64 (k : Int)] w fun e w' => RuneB w w' e fun r b => (∃ x : Nat, shortL (s.data.toList.drop k) = some x ∧ r = (x : Int) ∧ b = true) ∨ (shortL (s.data.toList.drop k) = none ∧ b = false) := by
        intro z h0 h
        refine h.mono ?_
        rintro e w1 ⟨rfl, hw⟩
        obtain rfl := hw.symm
        exact ⟨z, true, rfl, .inl ⟨z, h0, rfl, rfl⟩, Below.refl _ _⟩
      by_cases a1 : c = 34
      · rw [a1] at hd; exact fin 34 (by rw [hd]; rfl) (s_34 s k _ w hd hs)
      by_cases a2 : c = 92
      · rw [a2] at hd; exact fin 92 (by rw [hd]; rfl) (s_92 s k _ w hd hs)
      by_cases a3 : c = 47
      · rw [a3] at hd; exact fin 47 (by rw [hd]; rfl) (s_47 s k _ w hd hs)
      by_cases a4 : c = 98
      · rw [a4] at hd; exact fin 8 (by rw [hd]; rfl) (s_8 s k _ w hd hs)
      by_cases a5 : c = 102
      · rw [a5] at hd; exact fin 12 (by rw [hd]; rfl) (s_12 s k _ w hd hs)
      by_cases a6 : c = 110
      · rw [a6] at hd; exact fin 10 (by rw [hd]; rfl) (s_10 s k _ w hd hs)
      by_cases a7 : c = 114
      · rw [a7] at hd; exact fin 13 (by rw [hd]; rfl) (s_13 s k _ w hd hs)
      by_cases a8 : c = 116
      · rw [a8] at hd; exact fin 9 (by rw [hd]; rfl) (s_9 s k _ w hd hs)
      have hno := sign_none c ⟨a1, a2, a3, a4, a5, a6, a7, a8⟩
      have HI := Hid.mk (fun u => Tryz.strings_IndexByte ⟨#[34, 92, 47, 98, 102, 110, 114, 116]⟩ ((c.toNat : Nat) : Int) u)
      rw [hno] at HI
      have g1 : s[k + 1] = c := hc.symm
      have hi1 : (k : Int) + 1 < (s.size : Int) := by omega
      have hne : ((k : Int) + 1 == (s.size : Int)) = false := by rw [beq_eq_false_iff_ne]; omega
      have HNO : Hid (shortL (s.data.toList.drop k) = none) := by
        show _ = _
        rw [hd]
        show (if (92 : UInt8) = 92 ∧ 2 ≤ (92 :: c :: s.data.toList.drop (k + 2)).length then shN c else none) = none
        rw [if_pos ⟨rfl, by simp⟩]
        unfold shN
        rw [if_neg a1, if_neg a2, if_neg a3, if_neg a4, if_neg a5, if_neg a6, if_neg a7, if_neg a8]
      clear a1 a2 a3 a4 a5 a6 a7 a8 hno fin hd hend hc
      go_enter Tryz.func52, Tryz.ntmps52
      go_wp2_with fail
      refine (HI.out _).mono ?_
      rintro e w1 ⟨rfl, hw⟩
      obtain rfl := hw.symm
      go_wp2_with fail
      go_ret2
      exact ⟨_, _, rfl, .inr ⟨HNO.out, rfl⟩, Below.refl _ _⟩
  · have h92' : ((((s[k]).toNat : Nat) : Int) != 92) = true := by
      rw [bne_iff_ne]
      intro e
      apply h92
      apply UInt8.toNat_inj.1
      have : (92 : UInt8).toNat = 92 := rfl
      omega
    have HNO : Hid (shortL (s.data.toList.drop k) = none) := by
      show _ = _
      unfold shortL
      rw [if_neg]
      intro h
      apply h92
      have h1 := h.1
      rw [getD_dropL, Nat.add_zero] at h1
      have hl0 : k < s.data.toList.length := by rw [size_len]; exact hk
      have e0 : s.data.toList.getD k 0 = s[k] := by rw [List.getD_eq_getElem?_getD, List.getElem?_eq_getElem hl0]; rfl
      rw [← e0, h1]
    clear h92
    go_enter Tryz.func52, Tryz.ntmps52
    go_wp2_with fail
    go_ret2
    exact ⟨_, _, rfl, .inr ⟨HNO.out, rfl⟩, Below.refl _ _⟩

theorem w_numberAt_exg (s : ByteArray) (k : Nat) (ds post : List UInt8) (w : World) (hd : s.data.toList.drop k = 92 :: 117 :: (ds ++ post)) (hl : ds.length = 4) (hh : ds.all isHex = true) (hk : k ≤ s.size) (hs : s.size ≤ 9223372036854775807) :
    Calls Tryz.prog 53 #[.string s, .int .i64 (k : Int)] w fun e w' => RuneB w w' e fun r b => (∃ x : Nat, numL (s.data.toList.drop k) = some x ∧ r = (x : Int) ∧ b = true) ∨ (numL (s.data.toList.drop k) = none ∧ b = false) := by
  have hlt : (s.data.toList.take k).length = k := by
    rw [List.length_take, Array.length_toList]
    have e2 : s.data.size = s.size := rfl
    omega
  have hN : NumAt s k ds := ⟨hl, hh, s.data.toList.take k, post, by rw [List.append_assoc]; show _ = _ ++ (92 :: 117 :: (ds ++ post)); rw [← hd, List.take_append_drop], hlt⟩
  have h6 := hN.lt
  have hn : hexN ds < 65536 := hexN_lt ds hh 4 (by rw [hl]; exact Nat.le_refl _)
  refine (w_numberAt s k ds w hN hs).mono ?_
  rintro e w1 ⟨rfl, hb⟩
  refine ⟨_, _, rfl, .inl ⟨hexN ds, ?_, rfl, rfl⟩, hb⟩
  rw [hd]
  unfold numL
  have e : (List.take 4 (List.drop 2 (92 :: 117 :: (ds ++ post)))) = ds := by
    show List.take 4 (ds ++ post) = ds
    rw [← hl, List.take_left]
  rw [e, if_pos ⟨by simp; omega, rfl, rfl, hh⟩]

set_option maxRecDepth 100000 in
set_option maxHeartbeats 3200000 in
theorem w_numberAt_ex (s : ByteArray) (k : Nat) (w : World) (hk : k ≤ s.size) (hs : s.size ≤ 4611686018427387904) (hE : ErrIn w) :
    Calls Tryz.prog 53 #[.string s, .int .i64 (k : Int)] w fun e w' => RuneB w w' e fun r b => (∃ x : Nat, numL (s.data.toList.drop k) = some x ∧ r = (x : Int) ∧ b = true) ∨ (numL (s.data.toList.drop k) = none ∧ b = false) := by
  have hk1 : (k : Int) ≤ (s.size : Int) := by omega
  obtain ⟨t, ht⟩ : ∃ t, t = s.extract k s.size := ⟨_, rfl⟩
  have htl : t.data.toList = s.data.toList.drop k := by rw [ht, extract_drop]
  have hcut := fun u => Tryz.strings_CutPrefix t ⟨#[92, 117]⟩ u
  cases hp : Lib.hasPrefix t.data.toList (ByteArray.mk #[92, 117]).data.toList with
  | false =>
    rw [hp] at hcut
    have HC := Hid.mk hcut
    have HNO : Hid (numL (s.data.toList.drop k) = none) := by
      show _ = _
      rw [← htl]
      unfold numL
      rw [if_neg]
      rintro ⟨h1, h2, h3, _⟩
      have : Lib.hasPrefix t.data.toList (ByteArray.mk #[92, 117]).data.toList = true := by
        cases ht2 : t.data.toList with
        | nil => rw [ht2] at h1; simp at h1
        | cons a r =>
          cases r with
          | nil => rw [ht2] at h1; simp at h1
          | cons b r2 =>
            rw [ht2] at h2 h3
            have e1 : a = 92 := h2
            have e2 : b = 117 := h3
            subst e1 e2
            rfl
      rw [hp] at this
      cases this
    clear hcut hp htl
    go_enter Tryz.func53, Tryz.ntmps53
    go_wp2_with fail
    rw [← ht]
    refine (HC.out _).mono ?_
    rintro e w1 ⟨rfl, hw⟩
    obtain rfl := hw.symm
    go_wp2_with fail
    go_ret2
    exact ⟨_, _, rfl, .inr ⟨HNO.out, rfl⟩, Below.refl _ _⟩
  | true =>
    have hpp : ([92, 117] : List UInt8).isPrefixOf t.data.toList = true := hp
    rw [List.isPrefixOf_iff_prefix] at hpp
    obtain ⟨rl, hrl⟩ := hpp
    have hrl' : t.data.toList = 92 :: 117 :: rl := hrl.symm
    have htrim : Lib.trimPrefix t.data.toList (ByteArray.mk #[92, 117]).data.toList = rl := by rw [hrl']; rfl
    rw [hp, htrim] at hcut
    have HC := Hid.mk hcut
    obtain ⟨r, hr⟩ : ∃ r : ByteArray, r = ⟨rl.toArray⟩ := ⟨_, rfl⟩
    rw [← hr] at HC
    have hrs : r.size = rl.length := by rw [hr]; simp [ByteArray.size]
    clear hcut htrim
    by_cases h4 : 4 ≤ rl.length
    · cases hh : (rl.take 4).all isHex with
      | true =>
        exact w_numberAt_exg s k (rl.take 4) (rl.drop 4) w (by rw [List.take_append_drop, ← htl, hrl']) (by rw [List.length_take]; omega) hh hk (by omega)
      | false =>
        have hx : (r.extract 0 4).data.toList = rl.take 4 := by rw [extract_take, hr]
        have HP : Hid (∀ u, ErrIn u → Calls Tryz.prog 70 #[.string (r.extract 0 4), .int .i64 16, .int .i64 16] u fun e w' => ∃ T v, e = .returned (.tuple #[.int .u64 0, .iface T v]) ∧ Below u.heap.size u w') := by
          intro u hu
          exact w_parse16_bad (r.extract 0 4) u (by have := congrArg List.length hx; rw [List.length_take, Array.length_toList] at this; have e2 : (r.extract 0 4).data.size = (r.extract 0 4).size := rfl; omega) (by rw [hx]; exact hh) hu
        have hr4 : (4 : Int) ≤ (r.size : Int) := by omega
        have HE := Hid.mk hE
        have HNO : Hid (numL (s.data.toList.drop k) = none) := by
          show _ = _
          rw [← htl, hrl']
          unfold numL
          rw [if_neg]
          rintro ⟨_, _, _, h4⟩
          have h5 : (rl.take 4).all isHex = true := h4
          rw [hh] at h5
          cases h5
        clear hE hh hx hrs hr hrl hrl' h4 hp htl
        go_enter Tryz.func53, Tryz.ntmps53
        go_wp2_with fail
        rw [← ht]
        refine (HC.out _).mono ?_
        rintro e w1 ⟨rfl, hw⟩
        obtain rfl := hw.symm
        go_wp2_with fail
        refine (HP.out _ HE.out).mono ?_
        rintro e w2 ⟨T, v, rfl, hb2⟩
        have HB := Hid.mk hb2
        clear hb2 HP HC ht
        have hw32 : IntKind.i32.wrap 0 = 0 := by rw [IntKind.wrap_i32]; omega
        go_wp2_with fail
        go_region
        all_goals go_wp2
        all_goals go_ret2
        all_goals exact ⟨0, false, rfl, .inr ⟨HNO.out, rfl⟩, HB.out.drew⟩
    · have hr4 : (r.size : Int) < 4 := by omega
      have HNO : Hid (numL (s.data.toList.drop k) = none) := by
        show _ = _
        rw [← htl, hrl']
        unfold numL
        rw [if_neg]
        rintro ⟨h5, _⟩
        simp at h5
        omega
      clear hE hrs hr hrl hrl' h4 hp htl
      go_enter Tryz.func53, Tryz.ntmps53
      go_wp2_with fail
      rw [← ht]
      refine (HC.out _).mono ?_
      rintro e w1 ⟨rfl, hw⟩
      obtain rfl := hw.symm
      go_wp2_with fail
      go_ret2
      exact ⟨_, _, rfl, .inr ⟨HNO.out, rfl⟩, Below.refl _ _⟩


/-- what Escape answers -/
def EscX (s : ByteArray) (k : Nat) (w w' : World) (e : Ending) : Prop := e = .returned (.tuple #[.int .i32 ((escL s.data.toList k).1 : Int), .int .i64 ((escL s.data.toList k).2.1 : Int), .int .i64 ((escL s.data.toList k).2.2 : Int)]) ∧ Below w.heap.size w w'

end Go.Proofs.YtbfjpmbninlbbabGreatDoor
namespace Go.Proofs.YtbfjpmbninlbbabGreatDoor
open Go.RowKit
set_option linter.unusedVariables false
set_option linter.unusedSimpArgs false

theorem escX_mk {s : ByteArray} {k : Nat} {w w' : World} {a p c : Nat} {r q z : Int} (h : escL s.data.toList k = (a, p, c)) (hr : r = (a : Int)) (hq : q = (p : Int)) (hz : z = (c : Int)) (hb : Below w.heap.size w w') : EscX s k w w' (.returned (.tuple #[.int .i32 r, .int .i64 q, .int .i64 z])) := by
  subst hr hq hz
  exact ⟨by rw [h], hb⟩
theorem escL_short {l : List UInt8} {k x : Nat} (h : shortL (l.drop k) = some x) : escL l k = (x, k + 2, 0) := by unfold escL; rw [h]
theorem escL_none {l : List UInt8} {k : Nat} (h : shortL (l.drop k) = none) (h2 : numL (l.drop k) = none) : escL l k = (0, k, 23) := by unfold escL; rw [h, h2]
theorem escL_one {l : List UInt8} {k n : Nat} (h : shortL (l.drop k) = none) (h2 : numL (l.drop k) = some n) (h3 : n < 55296 ∨ 57344 ≤ n) : escL l k = (n, k + 6, 0) := by unfold escL; rw [h, h2]; exact if_pos h3
theorem escL_low {l : List UInt8} {k n : Nat} (h : shortL (l.drop k) = none) (h2 : numL (l.drop k) = some n) (h3 : 56320 ≤ n) (h4 : n < 57344) : escL l k = (0, k, 24) := by
  unfold escL; rw [h, h2]
  simp only
  rw [if_neg (by omega)]
  split
  · rfl
  · rw [if_neg (by omega)]
theorem escL_alone {l : List UInt8} {k n : Nat} (h : shortL (l.drop k) = none) (h2 : numL (l.drop k) = some n) (h3 : 55296 ≤ n) (h4 : n < 57344) (h5 : numL (l.drop (k + 6)) = none) : escL l k = (0, k, 24) := by
  unfold escL; rw [h, h2]
  simp only
  rw [if_neg (by omega), h5]
theorem escL_bad {l : List UInt8} {k n m : Nat} (h : shortL (l.drop k) = none) (h2 : numL (l.drop k) = some n) (h3 : 55296 ≤ n) (h4 : n < 57344) (h5 : numL (l.drop (k + 6)) = some m) (h6 : ¬ (56320 ≤ m ∧ m < 57344)) : escL l k = (0, k, 24) := by
  unfold escL; rw [h, h2]
  simp only
  rw [if_neg (by omega), h5]
  simp only
  rw [if_neg (by omega)]
theorem escL_two {l : List UInt8} {k n m : Nat} (h : shortL (l.drop k) = none) (h2 : numL (l.drop k) = some n) (h3 : 55296 ≤ n) (h4 : n < 56320) (h5 : numL (l.drop (k + 6)) = some m) (h6 : 56320 ≤ m) (h7 : m < 57344) : escL l k = (65536 + (n - 55296) * 1024 + (m - 56320), k + 12, 0) := by
  unfold escL; rw [h, h2]
  simp only
  rw [if_neg (by omega), h5]
  simp only
  rw [if_pos (by omega)]

set_option maxRecDepth 100000 in
set_option maxHeartbeats 6400000 in
theorem w_Escape_ex (s : ByteArray) (k : Nat) (w : World) (hk : k < s.size) (hs : s.size ≤ 4611686018427387904) (hE : ErrIn w) :
    Calls Tryz.prog 32 #[.string s, .int .i64 (k : Int)] w fun e w' => EscX s k w w' e := by
  have HP := Hid.mk (fun u => w_isPlace s k u hk)
  have HS := Hid.mk (fun u => w_shortAt_ex s k u hk hs)
  have HN := Hid.mk (fun u (h : ErrIn u) => w_numberAt_ex s k u (by omega) hs h)
  have HN2 : Hid (∀ u, k + 6 ≤ s.size → ErrIn u → Calls Tryz.prog 53 #[.string s, .int .i64 ((k : Int) + 6)] u fun e w' => RuneB u w' e fun r b => (∃ x : Nat, numL (s.data.toList.drop (k + 6)) = some x ∧ r = (x : Int) ∧ b = true) ∨ (numL (s.data.toList.drop (k + 6)) = none ∧ b = false)) := by
    intro u h h2
    have := w_numberAt_ex s (k + 6) u h hs h2
    rw [show ((k + 6 : Nat) : Int) = (k : Int) + 6 by omega] at this
    exact this
  have HE := Hid.mk hE
  have hk62 : (k : Int) ≤ 4611686018427387904 := by omega
  clear hE
  go_enter Tryz.func32, Tryz.ntmps32
  go_wp2_with fail
  refine (HP.out _).mono ?_
  rintro e w1 ⟨rfl, hw⟩
  obtain rfl := hw.symm
  go_wp2_with fail
  refine (HS.out _).mono ?_
  rintro e w2 ⟨r, b, rfl, hrb, hb2⟩
  have HB2 := Hid.mk hb2
  have HE2 := Hid.mk (HE.out.keep hb2)
  clear hb2
  rcases hrb with ⟨x, hx, rfl, rfl⟩ | ⟨hx, rfl⟩
  · have HX := Hid.mk (escL_short hx)
    clear hx
    go_wp2_with fail
    refine bodyPost_ret (v := .tuple #[.int .i32 (x : Int), .int .i64 ((k : Int) + 2), .int .i64 0]) (by simp [results, Tryz.results32, go_sem]) rfl ?_
    exact escX_mk HX.out rfl (by omega) rfl HB2.out
  · have HSN := Hid.mk hx
    clear hx
    go_wp2_with fail
    refine (HN.out _ HE2.out).mono ?_
    rintro e w3 ⟨n, b, rfl, hnb, hb3⟩
    have HB3 := Hid.mk (below_more HB2.out hb3)
    have HE3 := Hid.mk (HE2.out.keep hb3)
    clear hb3
    rcases hnb with ⟨n', hn, hnr, rfl⟩ | ⟨hn, rfl⟩
    · obtain ⟨hn6, hn0, _, _⟩ := numL_ok hn
      rw [size_len] at hn6
      have HNN := Hid.mk hn
      have HNR := Hid.mk hnr
      have hz0 : 0 ≤ n := by omega
      have hz1 : n ≤ 65535 := by omega
      have HN2' := Hid.mk (HN2.out w3 hn6 HE3.out)
      clear HN HN2 HS HP HE HE2 HE3 hn hn6 hn0 hnr
      have hcs : n < 55296 ∨ (¬ n < 55296 ∧ 57344 ≤ n) ∨ (¬ n < 55296 ∧ ¬ 57344 ≤ n ∧ 56320 ≤ n) ∨ (¬ n < 55296 ∧ ¬ 57344 ≤ n ∧ ¬ 56320 ≤ n) := by omega
      rcases hcs with h1 | ⟨h1, h2⟩ | ⟨h1, h2, h3⟩ | ⟨h1, h2, h3⟩
      · go_wp2_with fail
        refine bodyPost_ret (v := .tuple #[.int .i32 n, .int .i64 ((k : Int) + 6), .int .i64 0]) (by simp [results, Tryz.results32, go_sem]) rfl ?_
        exact escX_mk (escL_one HSN.out HNN.out (by have := HNR.out; omega)) HNR.out (by omega) rfl HB3.out
      · go_wp2_with fail
        refine bodyPost_ret (v := .tuple #[.int .i32 n, .int .i64 ((k : Int) + 6), .int .i64 0]) (by simp [results, Tryz.results32, go_sem]) rfl ?_
        exact escX_mk (escL_one HSN.out HNN.out (by have := HNR.out; omega)) HNR.out (by omega) rfl HB3.out
      · go_wp2_with fail
        refine HN2'.out.mono ?_
        rintro e w4 ⟨l, b, rfl, hlb, hb4⟩
        have HB4 := Hid.mk (below_more HB3.out hb4)
        clear hb4 hlb
        go_wp2_with fail
        refine bodyPost_ret (v := .tuple #[.int .i32 0, .int .i64 (k : Int), .int .i64 24]) (by simp [results, Tryz.results32, go_sem]) rfl ?_
        exact escX_mk (escL_low HSN.out HNN.out (by have := HNR.out; omega) (by have := HNR.out; omega)) rfl (by omega) rfl HB4.out
      · go_wp2_with fail
        refine HN2'.out.mono ?_
        rintro e w4 ⟨l, b, rfl, hlb, hb4⟩
        have HB4 := Hid.mk (below_more HB3.out hb4)
        clear hb4 HN2'
        rcases hlb with ⟨m', hm, hml, rfl⟩ | ⟨hm, rfl⟩
        · have hm0 := (numL_ok hm).2.1
          have HMM := Hid.mk hm
          have HML := Hid.mk hml
          have hl0 : 0 ≤ l := by omega
          have hl1 : l ≤ 65535 := by omega
          clear hm hml hm0
          have hls : l < 56320 ∨ (¬ l < 56320 ∧ 57344 ≤ l) ∨ (¬ l < 56320 ∧ ¬ 57344 ≤ l) := by omega
          rcases hls with g1 | ⟨g1, g2⟩ | ⟨g1, g2⟩
          · go_wp2_with fail
            refine bodyPost_ret (v := .tuple #[.int .i32 0, .int .i64 (k : Int), .int .i64 24]) (by simp [results, Tryz.results32, go_sem]) rfl ?_
            exact escX_mk (escL_bad HSN.out HNN.out (by have := HNR.out; omega) (by have := HNR.out; omega) HMM.out (by have := HML.out; omega)) rfl (by omega) rfl HB4.out
          · go_wp2_with fail
            refine bodyPost_ret (v := .tuple #[.int .i32 0, .int .i64 (k : Int), .int .i64 24]) (by simp [results, Tryz.results32, go_sem]) rfl ?_
            exact escX_mk (escL_bad HSN.out HNN.out (by have := HNR.out; omega) (by have := HNR.out; omega) HMM.out (by have := HML.out; omega)) rfl (by omega) rfl HB4.out
          · go_wp2_with fail
            refine bodyPost_ret (v := .tuple #[.int .i32 (65536 + (n - 55296) * 1024 + (l - 56320)), .int .i64 ((k : Int) + 12), .int .i64 0]) (by simp [results, Tryz.results32, go_sem]) rfl ?_
            exact escX_mk (escL_two HSN.out HNN.out (by have := HNR.out; omega) (by have := HNR.out; omega) HMM.out (by have := HML.out; omega) (by have := HML.out; omega)) (by have := HNR.out; have := HML.out; omega) (by omega) rfl HB4.out
        · have HMM := Hid.mk hm
          clear hm
          go_wp2_with fail
          refine bodyPost_ret (v := .tuple #[.int .i32 0, .int .i64 (k : Int), .int .i64 24]) (by simp [results, Tryz.results32, go_sem]) rfl ?_
          exact escX_mk (escL_alone HSN.out HNN.out (by have := HNR.out; omega) (by have := HNR.out; omega) HMM.out) rfl (by omega) rfl HB4.out
    · have HNN := Hid.mk hn
      clear hn
      go_wp2_with fail
      refine bodyPost_ret (v := .tuple #[.int .i32 0, .int .i64 (k : Int), .int .i64 23]) (by simp [results, Tryz.results32, go_sem]) rfl ?_
      exact escX_mk (escL_none HSN.out HNN.out) rfl (by omega) rfl HB3.out
end Go.Proofs.YtbfjpmbninlbbabGreatDoor
namespace Go.Proofs.YtbfjpmbninlbbabGreatDoor
open Go.RowKit
set_option linter.unusedVariables false
set_option linter.unusedSimpArgs false

/-- what the reference's Escape answers -/
def EscRx (s : ByteArray) (k : Nat) (w w' : World) (e : Ending) : Prop := e = .returned (.tuple #[.int .i64 ((escL s.data.toList k).1 : Int), .int .i64 ((escL s.data.toList k).2.1 : Int), .int .i64 ((escL s.data.toList k).2.2 : Int)]) ∧ w' = w
theorem escRx_mk {s : ByteArray} {k : Nat} {w : World} {a p c : Nat} {r q z : Int} (h : escL s.data.toList k = (a, p, c)) (hr : r = (a : Int)) (hq : q = (p : Int)) (hz : z = (c : Int)) : EscRx s k w w (.returned (.tuple #[.int .i64 r, .int .i64 q, .int .i64 z])) := by
  subst hr hq hz
  exact ⟨by rw [h], rfl⟩
theorem short_num {l : List UInt8} {k n : Nat} (h : numL (l.drop k) = some n) : shortL (l.drop k) = none := by
  obtain ⟨_, _, _, h1, h2⟩ := numL_ok h
  cases hs : shortL (l.drop k) with
  | none => rfl
  | some r =>
    have := (shortL_ok hs).2.2.2.2
    rw [h2] at this
    have e : shN 117 = none := by decide
    rw [e] at this; cases this

set_option maxRecDepth 100000 in
set_option maxHeartbeats 6400000 in
theorem w_rEscape (s : ByteArray) (k : Nat) (w : World) (hk : k < s.size) (hs : s.size ≤ 1099511627776) :
    Calls Tryz.prog 33 #[.string s, .int .i64 (k : Int)] w fun e w' => EscRx s k w w' e := by
  have hi0 : (k : Int) < (s.size : Int) := by omega
  have hi0' : ¬ (s.size : Int) ≤ (k : Int) := by omega
  have HN := Hid.mk (fun u => w_rnumbered s k u (by omega) hs)
  unfold rnum at HN
  cases hn : numL (s.data.toList.drop k) with
  | none =>
    rw [hn] at HN
    have HN1 : Hid (∀ u, Calls Tryz.prog 54 #[.string s, .int .i64 (k : Int)] u fun e w' => e = .returned (.int .i64 (-1)) ∧ w' = u) := HN.out
    by_cases a0 : s[k] = 92
    · by_cases hend : k + 1 < s.size
      · have hi1 : (k : Int) + 1 < (s.size : Int) := by omega
        obtain ⟨c, hc⟩ : ∃ c, s[k + 1]'hend = c := ⟨_, rfl⟩
        have HSh := Hid.mk (fun u => w_rshort c u)
        have hsl : shortL (s.data.toList.drop k) = shN c := by
          unfold shortL
          rw [if_pos ⟨by rw [getD_dropL, Nat.add_zero, byteD hk]; exact a0, by rw [List.length_drop, size_len]; omega⟩, getD_dropL, byteD hend, hc]
        unfold shI at HSh
        cases hcs : shN c with
        | none =>
          rw [hcs] at HSh hsl
          have HSh1 : Hid (∀ u, Calls Tryz.prog 55 #[.int .u8 ((c.toNat : Nat) : Int)] u fun e w' => e = .returned (.int .i64 (-1)) ∧ w' = u) := HSh.out
          have HF := Hid.mk (escL_none hsl hn)
          clear hsl hn hcs HN HSh
          go_enter Tryz.func33, Tryz.ntmps33
          go_wp2_with fail
          refine (HN1.out _).mono ?_
          rintro e w1 ⟨rfl, hw⟩
          obtain rfl := hw.symm
          go_wp2_with fail
          refine (HSh1.out _).mono ?_
          rintro e w1 ⟨rfl, hw⟩
          obtain rfl := hw.symm
          go_wp2_with fail
          refine bodyPost_ret (v := .tuple #[.int .i64 0, .int .i64 (k : Int), .int .i64 23]) (by simp [results, Tryz.results33, go_sem]) rfl ?_
          exact escRx_mk HF.out rfl rfl rfl
        | some r =>
          rw [hcs] at HSh hsl
          have HSh1 : Hid (∀ u, Calls Tryz.prog 55 #[.int .u8 ((c.toNat : Nat) : Int)] u fun e w' => e = .returned (.int .i64 (r : Int)) ∧ w' = u) := HSh.out
          have HF := Hid.mk (escL_short hsl)
          have hr128 := (shN_ok hcs).2.1
          have hr0 : (0 : Int) ≤ (r : Int) := by omega
          clear hsl hn hcs HN HSh
          go_enter Tryz.func33, Tryz.ntmps33
          go_wp2_with fail
          refine (HN1.out _).mono ?_
          rintro e w1 ⟨rfl, hw⟩
          obtain rfl := hw.symm
          go_wp2_with fail
          refine (HSh1.out _).mono ?_
          rintro e w1 ⟨rfl, hw⟩
          obtain rfl := hw.symm
          go_wp2_with fail
          refine (HSh1.out _).mono ?_
          rintro e w1 ⟨rfl, hw⟩
          obtain rfl := hw.symm
          go_wp2_with fail
          refine bodyPost_ret (v := .tuple #[.int .i64 (r : Int), .int .i64 ((k : Int) + 2), .int .i64 0]) (by simp [results, Tryz.results33, go_sem]) rfl ?_
          exact escRx_mk HF.out rfl (by omega) rfl
      · have hi1 : ¬ (k : Int) + 1 < (s.size : Int) := by omega
        have HF : Hid (escL s.data.toList k = (0, k, 23)) := by
          refine escL_none ?_ hn
          unfold shortL
          rw [if_neg]
          rintro ⟨_, h2⟩
          rw [List.length_drop, size_len] at h2
          omega
        clear hn HN
        go_enter Tryz.func33, Tryz.ntmps33
        go_wp2_with fail
        refine (HN1.out _).mono ?_
        rintro e w1 ⟨rfl, hw⟩
        obtain rfl := hw.symm
        go_wp2_with fail
        refine bodyPost_ret (v := .tuple #[.int .i64 0, .int .i64 (k : Int), .int .i64 23]) (by simp [results, Tryz.results33, go_sem]) rfl ?_
        exact escRx_mk HF.out rfl rfl rfl
    · have HF : Hid (escL s.data.toList k = (0, k, 23)) := by
        refine escL_none ?_ hn
        unfold shortL
        rw [if_neg]
        rintro ⟨h1, _⟩
        rw [getD_dropL, Nat.add_zero, byteD hk] at h1
        exact a0 h1
      have hb : ((((s[k]).toNat : Nat) : Int) == 92) = false := by
        rw [beq_eq_false_iff_ne]; intro e; apply a0; apply UInt8.toNat_inj.1
        have : (92 : UInt8).toNat = 92 := rfl
        omega
      clear hn a0 HN
      go_enter Tryz.func33, Tryz.ntmps33
      go_wp2_with fail
      refine (HN1.out _).mono ?_
      rintro e w1 ⟨rfl, hw⟩
      obtain rfl := hw.symm
      go_wp2_with fail
      refine bodyPost_ret (v := .tuple #[.int .i64 0, .int .i64 (k : Int), .int .i64 23]) (by simp [results, Tryz.results33, go_sem]) rfl ?_
      exact escRx_mk HF.out rfl rfl rfl
  | some n =>
    rw [hn] at HN
    obtain ⟨hk6, hn0, _⟩ := numL_ok hn
    rw [size_len] at hk6
    have hsn := short_num hn
    obtain ⟨z, hz⟩ : ∃ z : Int, (n : Int) = z := ⟨_, rfl⟩
    have HN1 : Hid (∀ u, Calls Tryz.prog 54 #[.string s, .int .i64 (k : Int)] u fun e w' => e = .returned (.int .i64 z) ∧ w' = u) := by
      intro u
      have := HN.out u
      simp only [hz] at this
      exact this
    have hz0 : 0 ≤ z := by omega
    have hz1 : z ≤ 65535 := by omega
    have HZ := Hid.mk hz
    have HSN := Hid.mk hsn
    have HNN := Hid.mk hn
    clear HN hsn hn hn0 hz
    have hcs : z < 55296 ∨ (¬ z < 55296 ∧ 57343 < z) ∨ (¬ z < 55296 ∧ ¬ 57343 < z ∧ 56320 ≤ z) ∨ (¬ z < 55296 ∧ ¬ 57343 < z ∧ ¬ 56320 ≤ z) := by omega
    have hz00 : ¬ z < 0 := by omega
    rcases hcs with h1 | ⟨h1, h2⟩ | ⟨h1, h2, h3⟩ | ⟨h1, h2, h3⟩
    · have HF := Hid.mk (escL_one HSN.out HNN.out (by have := HZ.out; omega))
      go_enter Tryz.func33, Tryz.ntmps33
      go_wp2_with fail
      refine (HN1.out _).mono ?_
      rintro e w1 ⟨rfl, hw⟩
      obtain rfl := hw.symm
      go_wp2_with fail
      refine bodyPost_ret (v := .tuple #[.int .i64 z, .int .i64 ((k : Int) + 6), .int .i64 0]) (by simp [results, Tryz.results33, go_sem]) rfl ?_
      exact escRx_mk HF.out HZ.out.symm (by omega) rfl
    · have HF := Hid.mk (escL_one HSN.out HNN.out (by have := HZ.out; omega))
      go_enter Tryz.func33, Tryz.ntmps33
      go_wp2_with fail
      refine (HN1.out _).mono ?_
      rintro e w1 ⟨rfl, hw⟩
      obtain rfl := hw.symm
      go_wp2_with fail
      refine bodyPost_ret (v := .tuple #[.int .i64 z, .int .i64 ((k : Int) + 6), .int .i64 0]) (by simp [results, Tryz.results33, go_sem]) rfl ?_
      exact escRx_mk HF.out HZ.out.symm (by omega) rfl
    · have HF := Hid.mk (escL_low HSN.out HNN.out (by have := HZ.out; omega) (by have := HZ.out; omega))
      obtain ⟨v, hv⟩ : ∃ v, rnum s.data.toList (k + 6) = v := ⟨_, rfl⟩
      have HN2 : Hid (∀ u, Calls Tryz.prog 54 #[.string s, .int .i64 ((k : Int) + 6)] u fun e w' => e = .returned (.int .i64 v) ∧ w' = u) := by
        intro u
        have := w_rnumbered s (k + 6) u hk6 hs
        rw [show ((k + 6 : Nat) : Int) = (k : Int) + 6 by omega, hv] at this
        exact this
      clear hv
      go_enter Tryz.func33, Tryz.ntmps33
      go_wp2_with fail
      refine (HN1.out _).mono ?_
      rintro e w1 ⟨rfl, hw⟩
      obtain rfl := hw.symm
      go_wp2_with fail
      refine (HN2.out _).mono ?_
      rintro e w1 ⟨rfl, hw⟩
      obtain rfl := hw.symm
      go_wp2_with fail
      refine bodyPost_ret (v := .tuple #[.int .i64 0, .int .i64 (k : Int), .int .i64 24]) (by simp [results, Tryz.results33, go_sem]) rfl ?_
      exact escRx_mk HF.out rfl rfl rfl
    · have HNum := fun u => w_rnumbered s (k + 6) u hk6 hs
      rw [show ((k + 6 : Nat) : Int) = (k : Int) + 6 by omega] at HNum
      unfold rnum at HNum
      cases hm : numL (s.data.toList.drop (k + 6)) with
      | none =>
        rw [hm] at HNum
        have HN2 : Hid (∀ u, Calls Tryz.prog 54 #[.string s, .int .i64 ((k : Int) + 6)] u fun e w' => e = .returned (.int .i64 (-1)) ∧ w' = u) := HNum
        have HF := Hid.mk (escL_alone HSN.out HNN.out (by have := HZ.out; omega) (by have := HZ.out; omega) hm)
        clear hm HNum
        go_enter Tryz.func33, Tryz.ntmps33
        go_wp2_with fail
        refine (HN1.out _).mono ?_
        rintro e w1 ⟨rfl, hw⟩
        obtain rfl := hw.symm
        go_wp2_with fail
        refine (HN2.out _).mono ?_
        rintro e w1 ⟨rfl, hw⟩
        obtain rfl := hw.symm
        go_wp2_with fail
        refine bodyPost_ret (v := .tuple #[.int .i64 0, .int .i64 (k : Int), .int .i64 24]) (by simp [results, Tryz.results33, go_sem]) rfl ?_
        exact escRx_mk HF.out rfl rfl rfl
      | some m =>
        rw [hm] at HNum
        have hm0 := (numL_ok hm).2.1
        obtain ⟨y, hy⟩ : ∃ y : Int, (m : Int) = y := ⟨_, rfl⟩
        have HN2 : Hid (∀ u, Calls Tryz.prog 54 #[.string s, .int .i64 ((k : Int) + 6)] u fun e w' => e = .returned (.int .i64 y) ∧ w' = u) := by
          intro u
          have := HNum u
          simp only [hy] at this
          exact this
        have hy0 : 0 ≤ y := by omega
        have hy1 : y ≤ 65535 := by omega
        have HY := Hid.mk hy
        have HMM := Hid.mk hm
        clear hm hy HNum hm0
        have hls : y < 56320 ∨ (¬ y < 56320 ∧ 57343 < y) ∨ (¬ y < 56320 ∧ ¬ 57343 < y) := by omega
        rcases hls with g1 | ⟨g1, g2⟩ | ⟨g1, g2⟩
        · have HF := Hid.mk (escL_bad HSN.out HNN.out (by have := HZ.out; omega) (by have := HZ.out; omega) HMM.out (by have := HY.out; omega))
          go_enter Tryz.func33, Tryz.ntmps33
          go_wp2_with fail
          refine (HN1.out _).mono ?_
          rintro e w1 ⟨rfl, hw⟩
          obtain rfl := hw.symm
          go_wp2_with fail
          refine (HN2.out _).mono ?_
          rintro e w1 ⟨rfl, hw⟩
          obtain rfl := hw.symm
          go_wp2_with fail
          refine bodyPost_ret (v := .tuple #[.int .i64 0, .int .i64 (k : Int), .int .i64 24]) (by simp [results, Tryz.results33, go_sem]) rfl ?_
          exact escRx_mk HF.out rfl rfl rfl
        · have HF := Hid.mk (escL_bad HSN.out HNN.out (by have := HZ.out; omega) (by have := HZ.out; omega) HMM.out (by have := HY.out; omega))
          go_enter Tryz.func33, Tryz.ntmps33
          go_wp2_with fail
          refine (HN1.out _).mono ?_
          rintro e w1 ⟨rfl, hw⟩
          obtain rfl := hw.symm
          go_wp2_with fail
          refine (HN2.out _).mono ?_
          rintro e w1 ⟨rfl, hw⟩
          obtain rfl := hw.symm
          go_wp2_with fail
          refine bodyPost_ret (v := .tuple #[.int .i64 0, .int .i64 (k : Int), .int .i64 24]) (by simp [results, Tryz.results33, go_sem]) rfl ?_
          exact escRx_mk HF.out rfl rfl rfl
        · have HF := Hid.mk (escL_two HSN.out HNN.out (by have := HZ.out; omega) (by have := HZ.out; omega) HMM.out (by have := HY.out; omega) (by have := HY.out; omega))
          go_enter Tryz.func33, Tryz.ntmps33
          go_wp2_with fail
          refine (HN1.out _).mono ?_
          rintro e w1 ⟨rfl, hw⟩
          obtain rfl := hw.symm
          go_wp2_with fail
          refine (HN2.out _).mono ?_
          rintro e w1 ⟨rfl, hw⟩
          obtain rfl := hw.symm
          go_wp2_with fail
          refine bodyPost_ret (v := .tuple #[.int .i64 (65536 + (z - 55296) * 1024 + y - 56320), .int .i64 ((k : Int) + 12), .int .i64 0]) (by simp [results, Tryz.results33, go_sem]) rfl ?_
          exact escRx_mk HF.out (by have := HZ.out; have := HY.out; omega) (by omega) rfl
end Go.Proofs.YtbfjpmbninlbbabGreatDoor
