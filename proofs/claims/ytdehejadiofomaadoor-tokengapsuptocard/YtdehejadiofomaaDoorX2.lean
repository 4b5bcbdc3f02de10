import Derived.Test.YtdehejadiofomaaDoorX1
namespace Go.Proofs.YtdehejadiofomaaDoor
open Go.RowKit
set_option linter.unusedVariables false
set_option linter.unusedSimpArgs false

set_option maxRecDepth 100000 in
set_option maxHeartbeats 3200000 in
theorem w_shortAt_ex (s : ByteArray) (k : Nat) (w : World) (hk : k < s.size) (hs : s.size ≤ 4611686018427387904) :
    Calls Tryd.prog 63 #[.string s, .int .i64 (k : Int)] w fun e w' => RuneB w w' e fun r b => (∃ x : Nat, shortL (s.data.toList.drop k) = some x ∧ r = (x : Int) ∧ b = true) ∨ (shortL (s.data.toList.drop k) = none ∧ b = false) := by
  have hi0 : (k : Int) < (s.size : Int) := by omega
  by_cases h92 : s[k] = 92
  · by_cases hend : k + 1 = s.size
    · have hne : ((k : Int) + 1 == (s.size : Int)) = true := by rw [beq_iff_eq]; omega
      have HNO : Hid (shortL (s.data.toList.drop k) = none) := by
        show _ = _
        unfold shortL
        rw [if_neg]
        intro h
        have h2 := h.2
        rw [List.length_drop, size_len] at h2
        omega
      clear hend
      go_enter Tryd.func63, Tryd.ntmps63
      go_wp2_with fail
      go_ret2
      exact ⟨_, _, rfl, .inr ⟨HNO.out, rfl⟩, Below.refl _ _⟩
    · have hk1 : k + 1 < s.size := by omega
      have hd : s.data.toList.drop k = 92 :: s[k + 1] :: s.data.toList.drop (k + 2) := by
        have l0 : k < s.data.toList.length := by rw [Array.length_toList]; exact hk
        have l1 : k + 1 < s.data.toList.length := by rw [Array.length_toList]; exact hk1
        rw [List.drop_eq_getElem_cons l0, List.drop_eq_getElem_cons l1]
        have e0 : s.data.toList[k]'l0 = s[k] := rfl
        have e1 : s.data.toList[k + 1]'l1 = s[k + 1] := rfl
        rw [e0, e1, h92]
      obtain ⟨c, hc⟩ : ∃ c, c = s[k + 1] := ⟨_, rfl⟩
      rw [← hc] at hd
      have fin : ∀ z : Nat, shortL (s.data.toList.drop k) = some z → (Calls Tryd.prog 63 #[.string s, .int .i64 (k : Int)] w fun e w' => e = .returned (.tuple #[.int .i32 (z : Int), .bool true]) ∧ w' = w) → Calls Tryd.prog 63 #[.string s, .int .i64 (k : Int)] w fun e w' => RuneB w w' e fun r b => (∃ x : Nat, shortL (s.data.toList.drop k) = some x ∧ r = (x : Int) ∧ b = true) ∨ (shortL (s.data.toList.drop k) = none ∧ b = false) := by
        intro z h0 h
        refine h.mono ?_
        rintro e w1 ⟨rfl, hw⟩
        obtain rfl := hw.symm
        exact ⟨z, true, rfl, .inl ⟨z, h0, rfl, rfl⟩, Below.refl _ _⟩
      by_cases a1 : c = 34
      · rw [a1] at hd; exact fin 34 (by rw [hd]; rfl) (s_34 s k _ w hd hs)
      by_cases a2 : c = 92
      · rw [a2] at hd; exact fin 92 (by rw [hd]; rfl) (s_92 s k _ w hd hs)
      by_cases a3 : c = 47
      · rw [a3] at hd; exact fin 47 (by rw [hd]; rfl) (s_47 s k _ w hd hs)
      by_cases a4 : c = 98
      · rw [a4] at hd; exact fin 8 (by rw [hd]; rfl) (s_8 s k _ w hd hs)
      by_cases a5 : c = 102
      · rw [a5] at hd; exact fin 12 (by rw [hd]; rfl) (s_12 s k _ w hd hs)
      by_cases a6 : c = 110
      · rw [a6] at hd; exact fin 10 (by rw [hd]; rfl) (s_10 s k _ w hd hs)
      by_cases a7 : c = 114
      · rw [a7] at hd; exact fin 13 (by rw [hd]; rfl) (s_13 s k _ w hd hs)
      by_cases a8 : c = 116
      · rw [a8] at hd; exact fin 9 (by rw [hd]; rfl) (s_9 s k _ w hd hs)
      have hno := sign_none c ⟨a1, a2, a3, a4, a5, a6, a7, a8⟩
      have HI := Hid.mk (fun u => Tryd.strings_IndexByte ⟨#[34, 92, 47, 98, 102, 110, 114, 116]⟩ ((c.toNat : Nat) : Int) u)
      rw [hno] at HI
      have g1 : s[k + 1] = c := hc.symm
      have hi1 : (k : Int) + 1 < (s.size : Int) := by omega
      have hne : ((k : Int) + 1 == (s.size : Int)) = false := by rw [beq_eq_false_iff_ne]; omega
      have HNO : Hid (shortL (s.data.toList.drop k) = none) := by
        show _ = _
        rw [hd]
        show (if (92 : UInt8) = 92 ∧ 2 ≤ (92 :: c :: s.data.toList.drop (k + 2)).length then shN c else none) = none
        rw [if_pos ⟨rfl, by simp⟩]
        unfold shN
        rw [if_neg a1, if_neg a2, if_neg a3, if_neg a4, if_neg a5, if_neg a6, if_neg a7, if_neg a8]
      clear a1 a2 a3 a4 a5 a6 a7 a8 hno fin hd hend hc
      go_enter Tryd.func63, Tryd.ntmps63
      go_wp2_with fail
      refine (HI.out _).mono ?_
      rintro e w1 ⟨rfl, hw⟩
      obtain rfl := hw.symm
      go_wp2_with fail
      go_ret2
      exact ⟨_, _, rfl, .inr ⟨HNO.out, rfl⟩, Below.refl _ _⟩
  · have h92' : ((((s[k]).toNat : Nat) : Int) != 92) = true := by
      rw [bne_iff_ne]
      intro e
      apply h92
      apply UInt8.toNat_inj.1
      have : (92 : UInt8).toNat = 92 := rfl
      omega
    have HNO : Hid (shortL (s.data.toList.drop k) = none) := by
      show _ = _
      unfold shortL
      rw [if_neg]
      intro h
      apply h92
      have h1 := h.1
      rw [getD_dropL, Nat.add_zero] at h1
      have hl0 : k < s.data.toList.length := by rw [size_len]; exact hk
      have e0 : s.data.toList.getD k 0 = s[k] := by rw [List.getD_eq_getElem?_getD, List.getElem?_eq_getElem hl0]; rfl
      rw [← e0, h1]
    clear h92
    go_enter Tryd.func63, Tryd.ntmps63
    go_wp2_with fail
    go_ret2
    exact ⟨_, _, rfl, .inr ⟨HNO.out, rfl⟩, Below.refl _ _⟩

theorem w_numberAt_exg (s : ByteArray) (k : Nat) (ds post : List UInt8) (w : World) (hd : s.data.toList.drop k = 92 :: 117 :: (ds ++ post)) (hl : ds.length = 4) (hh : ds.all isHex = true) (hk : k ≤ s.size) (hs : s.size ≤ 9223372036854775807) :
    Calls Tryd.prog 64 #[.string s, .int .i64 (k : Int)] w fun e w' => RuneB w w' e fun r b => (∃ x : Nat, numL (s.data.toList.drop k) = some x ∧ r = (x : Int) ∧ b = true) ∨ (numL (s.data.toList.drop k) = none ∧ b = false) := by
  have hlt : (s.data.toList.take k).length = k := by
    rw [List.length_take, Array.length_toList]
    have e2 : s.data.size = s.size := rfl
    omega
  have hN : NumAt s k ds := ⟨hl, hh, s.data.toList.take k, post, by rw [List.append_assoc]; show _ = _ ++ (92 :: 117 :: (ds ++ post)); rw [← hd, List.take_append_drop], hlt⟩
  have h6 := hN.lt
  have hn : hexN ds < 65536 := hexN_lt ds hh 4 (by rw [hl]; exact Nat.le_refl _)
  refine (w_numberAt s k ds w hN hs).mono ?_
  rintro e w1 ⟨rfl, hb⟩
  refine ⟨_, _, rfl, .inl ⟨hexN ds, ?_, rfl, rfl⟩, hb⟩
  rw [hd]
  unfold numL
  have e : (List.take 4 (List.drop 2 (92 :: 117 :: (ds ++ post)))) = ds := by
    show List.take 4 (ds ++ post) = ds
    rw [← hl, List.take_left]
  rw [e, if_pos ⟨by simp; omega, rfl, rfl, hh⟩]

set_option maxRecDepth 100000 in
set_option maxHeartbeats 3200000 in
theorem w_numberAt_ex (s : ByteArray) (k : Nat) (w : World) (hk : k ≤ s.size) (hs : s.size ≤ 4611686018427387904) (hE : ErrIn w) :
    Calls Tryd.prog 64 #[.string s, .int .i64 (k : Int)] w fun e w' => RuneB w w' e fun r b => (∃ x : Nat, numL (s.data.toList.drop k) = some x ∧ r = (x : Int) ∧ b = true) ∨ (numL (s.data.toList.drop k) = none ∧ b = false) := by
  have hk1 : (k : Int) ≤ (s.size : Int) := by omega
  obtain ⟨t, ht⟩ : ∃ t, t = s.extract k s.size := ⟨_, rfl⟩
  have htl : t.data.toList = s.data.toList.drop k := by rw [ht, extract_drop]
  have hcut := fun u => Tryd.strings_CutPrefix t ⟨#[92, 117]⟩ u
  cases hp : Lib.hasPrefix t.data.toList (ByteArray.mk #[92, 117]).data.toList with
  | false =>
    rw [hp] at hcut
    have HC := Hid.mk hcut
    have HNO : Hid (numL (s.data.toList.drop k) = none) := by
      show _ = _
      rw [← htl]
      unfold numL
      rw [if_neg]
      rintro ⟨h1, h2, h3, _⟩
      have : Lib.hasPrefix t.data.toList (ByteArray.mk #[92, 117]).data.toList = true := by
        cases ht2 : t.data.toList with
        | nil => rw [ht2] at h1; simp at h1
        | cons a r =>
          cases r with
          | nil => rw [ht2] at h1; simp at h1
          | cons b r2 =>
            rw [ht2] at h2 h3
            have e1 : a = 92 := h2
            have e2 : b = 117 := h3
            subst e1 e2
            rfl
      rw [hp] at this
      cases this
    clear hcut hp htl
    go_enter Tryd.func64, Tryd.ntmps64
    go_wp2_with fail
    rw [← ht]
    refine (HC.out _).mono ?_
    rintro e w1 ⟨rfl, hw⟩
    obtain rfl := hw.symm
    go_wp2_with fail
    go_ret2
    exact ⟨_, _, rfl, .inr ⟨HNO.out, rfl⟩, Below.refl _ _⟩
  | true =>
    have hpp : ([92, 117] : List UInt8).isPrefixOf t.data.toList = true := hp
    rw [List.isPrefixOf_iff_prefix] at hpp
    obtain ⟨rl, hrl⟩ := hpp
    have hrl' : t.data.toList = 92 :: 117 :: rl := hrl.symm
    have htrim : Lib.trimPrefix t.data.toList (ByteArray.mk #[92, 117]).data.toList = rl := by rw [hrl']; rfl
    rw [hp, htrim] at hcut
    have HC := Hid.mk hcut
    obtain ⟨r, hr⟩ : ∃ r : ByteArray, r = ⟨rl.toArray⟩ := ⟨_, rfl⟩
    rw [← hr] at HC
    have hrs : r.size = rl.length := by rw [hr]; simp [ByteArray.size]
    clear hcut htrim
    by_cases h4 : 4 ≤ rl.length
    · cases hh : (rl.take 4).all isHex with
      | true =>
        exact w_numberAt_exg s k (rl.take 4) (rl.drop 4) w (by rw [List.take_append_drop, ← htl, hrl']) (by rw [List.length_take]; omega) hh hk (by omega)
      | false =>
        have hx : (r.extract 0 4).data.toList = rl.take 4 := by rw [extract_take, hr]
        have HP : Hid (∀ u, ErrIn u → Calls Tryd.prog 70 #[.string (r.extract 0 4), .int .i64 16, .int .i64 16] u fun e w' => ∃ T v, e = .returned (.tuple #[.int .u64 0, .iface T v]) ∧ Below u.heap.size u w') := by
          intro u hu
          exact w_parse16_bad (r.extract 0 4) u (by have := congrArg List.length hx; rw [List.length_take, Array.length_toList] at this; have e2 : (r.extract 0 4).data.size = (r.extract 0 4).size := rfl; omega) (by rw [hx]; exact hh) hu
        have hr4 : (4 : Int) ≤ (r.size : Int) := by omega
        have HE := Hid.mk hE
        have HNO : Hid (numL (s.data.toList.drop k) = none) := by
          show _ = _
          rw [← htl, hrl']
          unfold numL
          rw [if_neg]
          rintro ⟨_, _, _, h4⟩
          have h5 : (rl.take 4).all isHex = true := h4
          rw [hh] at h5
          cases h5
        clear hE hh hx hrs hr hrl hrl' h4 hp htl
        go_enter Tryd.func64, Tryd.ntmps64
        go_wp2_with fail
        rw [← ht]
        refine (HC.out _).mono ?_
        rintro e w1 ⟨rfl, hw⟩
        obtain rfl := hw.symm
        go_wp2_with fail
        refine (HP.out _ HE.out).mono ?_
        rintro e w2 ⟨T, v, rfl, hb2⟩
        have HB := Hid.mk hb2
        clear hb2 HP HC ht
        have hw32 : IntKind.i32.wrap 0 = 0 := by rw [IntKind.wrap_i32]; omega
        go_wp2_with fail
        go_region
        all_goals go_wp2
        all_goals go_ret2
        all_goals exact ⟨0, false, rfl, .inr ⟨HNO.out, rfl⟩, HB.out.drew⟩
    · have hr4 : (r.size : Int) < 4 := by omega
      have HNO : Hid (numL (s.data.toList.drop k) = none) := by
        show _ = _
        rw [← htl, hrl']
        unfold numL
        rw [if_neg]
        rintro ⟨h5, _⟩
        simp at h5
        omega
      clear hE hrs hr hrl hrl' h4 hp htl
      go_enter Tryd.func64, Tryd.ntmps64
      go_wp2_with fail
      rw [← ht]
      refine (HC.out _).mono ?_
      rintro e w1 ⟨rfl, hw⟩
      obtain rfl := hw.symm
      go_wp2_with fail
      go_ret2
      exact ⟨_, _, rfl, .inr ⟨HNO.out, rfl⟩, Below.refl _ _⟩


/-- what Escape answers -/
def EscX (s : ByteArray) (k : Nat) (w w' : World) (e : Ending) : Prop := e = .returned (.tuple #[.int .i32 ((escL s.data.toList k).1 : Int), .int .i64 ((escL s.data.toList k).2.1 : Int), .int .i64 ((escL s.data.toList k).2.2 : Int)]) ∧ Below w.heap.size w w'

end Go.Proofs.YtdehejadiofomaaDoor
