import Derived.Test.YtfcbeohkhljboaaDoorM1
import Derived.Test.YtfcbeohkhljboaaDoorM7
namespace Go.Proofs.YtfcbeohkhljboaaDoor.Pl
set_option linter.unusedVariables false
set_option linter.unusedSimpArgs false

theorem len_of_val {B n : Nat} (hB : 1 < B) {zs : List Nat} (ht : Top zs) (hv : val B zs < B ^ n) : zs.length ≤ n := by
  rcases Nat.eq_zero_or_pos zs.length with h | h
  · omega
  · have h1 := val_ge_top (B := B) h (top_last ht h)
    have h2 : B ^ (zs.length - 1) < B ^ n := Nat.lt_of_le_of_lt h1 hv
    have := (Nat.pow_lt_pow_iff_right hB).1 h2
    omega

theorem val_split (B : Nat) (xs : List Nat) (h : Nat) (hl : h ≤ xs.length) : val B xs = val B (xs.take h) + B ^ h * val B (xs.drop h) := by
  have e : (xs.take h).length = h := by simp; omega
  conv => lhs; rw [← List.take_append_drop h xs]
  rw [val_append, e]

theorem mul_lt_pow {B m n a b : Nat} (ha : a < B ^ m) (hb : b < B ^ n) : a * b < B ^ (m + n) := by
  rw [Nat.pow_add]
  rcases Nat.eq_zero_or_pos b with h | h
  · subst h; rw [Nat.mul_zero]; exact Nat.mul_pos (by omega) hb
  · exact Nat.lt_of_lt_of_le (Nat.mul_lt_mul_of_pos_right ha h) (Nat.mul_le_mul_left _ (Nat.le_of_lt hb))

/-- two halves, one factor: what stands in room in the end -/
theorem kara_two {B h n : Nat} (hB : 0 < B) {A0 A1 S room lowR upR up z : Nat} (hn : h ≤ n) (hroom : room = A0 * S) (hsplit : room = lowR + B ^ h * upR) (hz : z = A1 * S) (hup : up = (upR + z) % B ^ (n - h)) (hfit : (A0 + B ^ h * A1) * S < B ^ n) :
    lowR + B ^ h * up = (A0 + B ^ h * A1) * S := by
  have e : (A0 + B ^ h * A1) * S = lowR + B ^ h * (upR + z) := by
    rw [Nat.add_mul, ← hroom, hsplit, hz, Nat.mul_assoc, Nat.mul_add, Nat.add_assoc]
  have hlt : upR + z < B ^ (n - h) := by
    rcases Nat.lt_or_ge (upR + z) (B ^ (n - h)) with h1 | h1
    · exact h1
    · have h2 := Nat.mul_le_mul_left (B ^ h) h1
      rw [← Nat.pow_add, show h + (n - h) = n by omega] at h2
      omega
  rw [hup, Nat.mod_eq_of_lt hlt, e]

theorem kara_mod {T U1 M zl zh U2 U3 U4 c c' X : Nat} (h2 : U2 = (U1 + M) % T) (h3 : U3 + zl = U2 + c * T) (h4 : U4 + zh = U3 + c' * T) (hM : M = zl + zh + X) (hlt : U1 + X < T) (h4lt : U4 < T) : U4 = U1 + X := by
  have hd := Nat.div_add_mod (U1 + M) T
  rw [← h2] at hd
  generalize (U1 + M) / T = k at *
  have e : U4 + k * T = (U1 + X) + (c + c') * T := by
    rw [Nat.add_mul, Nat.mul_comm k T]; omega
  have e1 : (U4 + k * T) % T = U4 := by rw [Nat.add_mul_mod_self_right, Nat.mod_eq_of_lt h4lt]
  have e2 : ((U1 + X) + (c + c') * T) % T = U1 + X := by rw [Nat.add_mul_mod_self_right, Nat.mod_eq_of_lt hlt]
  rw [e] at e1
  omega

/-- both factors halved -/
theorem kara_three {B h n : Nat} (hB : 0 < B) {A0 A1 B0 B1 room lowR U1 U2 U3 U4 c c' M zl zh : Nat} (hn : h ≤ n) (hzl : zl = A0 * B0) (hzh : zh = A1 * B1) (hroom : room = A0 * B0 + B ^ (2 * h) * (A1 * B1)) (hsplit : room = lowR + B ^ h * U1) (hM : M = (A0 + A1) * (B0 + B1))
    (h2 : U2 = (U1 + M) % B ^ (n - h)) (h3 : U3 + zl = U2 + c * B ^ (n - h)) (h4 : U4 + zh = U3 + c' * B ^ (n - h)) (h4lt : U4 < B ^ (n - h)) (hfit : (A0 + B ^ h * A1) * (B0 + B ^ h * B1) < B ^ n) :
    lowR + B ^ h * U4 = (A0 + B ^ h * A1) * (B0 + B ^ h * B1) := by
  have hX : M = zl + zh + (A0 * B1 + A1 * B0) := by
    rw [hM, hzl, hzh, Nat.mul_add, Nat.add_mul, Nat.add_mul]; omega
  have e : (A0 + B ^ h * A1) * (B0 + B ^ h * B1) = lowR + B ^ h * (U1 + (A0 * B1 + A1 * B0)) := by
    have p2 : B ^ (2 * h) * (A1 * B1) = B ^ h * (B ^ h * (A1 * B1)) := by rw [show 2 * h = h + h by omega, Nat.pow_add, Nat.mul_assoc]
    rw [p2] at hroom
    generalize B ^ h = P at *
    have x1 : (A0 + P * A1) * (B0 + P * B1) = A0 * B0 + P * (A0 * B1) + (P * (A1 * B0) + P * (P * (A1 * B1))) := by
      rw [Nat.add_mul, Nat.mul_add, Nat.mul_add, Nat.mul_left_comm A0 P B1, Nat.mul_assoc P A1 B0, Nat.mul_assoc P A1 (P * B1), Nat.mul_left_comm A1 P B1]
    rw [x1, Nat.mul_add, Nat.mul_add]
    omega
  have hlt : U1 + (A0 * B1 + A1 * B0) < B ^ (n - h) := by
    rcases Nat.lt_or_ge (U1 + (A0 * B1 + A1 * B0)) (B ^ (n - h)) with h1 | h1
    · exact h1
    · have h2 := Nat.mul_le_mul_left (B ^ h) h1
      rw [← Nat.pow_add, show h + (n - h) = n by omega] at h2
      omega
  rw [kara_mod h2 h3 h4 hX hlt h4lt, e]

/-- the upper product is laid above the lower one -/
theorem kara_lay {B h2 n : Nat} (hB : 0 < B) {low room lowR upR up z : Nat} (hn : h2 ≤ n) (hsplit : low = lowR + B ^ h2 * upR) (hup : up = (upR + z) % B ^ (n - h2)) (hfit : low + B ^ h2 * z < B ^ n) : lowR + B ^ h2 * up = low + B ^ h2 * z := by
  have e : low + B ^ h2 * z = lowR + B ^ h2 * (upR + z) := by rw [hsplit, Nat.mul_add]; omega
  have hlt : upR + z < B ^ (n - h2) := by
    rcases Nat.lt_or_ge (upR + z) (B ^ (n - h2)) with h1 | h1
    · exact h1
    · have h3 := Nat.mul_le_mul_left (B ^ h2) h1
      rw [← Nat.pow_add, show h2 + (n - h2) = n by omega] at h3
      omega
  rw [hup, Nat.mod_eq_of_lt hlt, e]

theorem kara_fit2 {B h n A0 A1 B0 B1 : Nat} (hfit : (A0 + B ^ h * A1) * (B0 + B ^ h * B1) < B ^ n) : A0 * B0 + B ^ (2 * h) * (A1 * B1) < B ^ n := by
  have p2 : B ^ (2 * h) * (A1 * B1) = B ^ h * (B ^ h * (A1 * B1)) := by rw [show 2 * h = h + h by omega, Nat.pow_add, Nat.mul_assoc]
  rw [p2]
  generalize B ^ h = P at *
  have x1 : (A0 + P * A1) * (B0 + P * B1) = A0 * B0 + P * (A0 * B1) + (P * (A1 * B0) + P * (P * (A1 * B1))) := by
    rw [Nat.add_mul, Nat.mul_add, Nat.mul_add, Nat.mul_left_comm A0 P B1, Nat.mul_assoc P A1 B0, Nat.mul_assoc P A1 (P * B1), Nat.mul_left_comm A1 P B1]
  omega

theorem mul_len {B : Nat} (hB : 1 < B) {xs ys zs : List Nat} {n : Nat} (hx : dig B xs) (hy : dig B ys) (ht : Top zs) (hv : val B zs = val B xs * val B ys) (hn : xs.length + ys.length ≤ n) : zs.length ≤ n := by
  refine len_of_val hB ht ?_
  rw [hv]
  exact Nat.lt_of_lt_of_le (mul_lt_pow (val_lt hx) (val_lt hy)) (Nat.pow_le_pow_right (by omega) hn)

theorem mul_fit {B : Nat} {xs ys : List Nat} (hx : dig B xs) (hy : dig B ys) : val B xs * val B ys < B ^ (xs.length + ys.length) := mul_lt_pow (val_lt hx) (val_lt hy)

/-- the two products of a halved factor, put together in one row -/
theorem two_end {B : Nat} (hB : 0 < B) {L S R rs' z2 z4 : List Nat} {h : Nat} (hL : dig B L) (hS : dig B S) (hh : h ≤ L.length) (hRl : R.length = L.length + S.length) (hRv : val B R = val B z2) (hv2 : val B z2 = val B (trimN (L.take h)) * val B S) (hv4 : val B z4 = val B (L.drop h) * val B S)
    (hv5 : val B rs' = (val B (R.drop h) + val B z4) % B ^ (L.length + S.length - h)) : val B (R.take h ++ rs') = val B L * val B S := by
  have ht : (R.take h).length = h := by simp; omega
  rw [val_append, ht, val_split B L h hh]
  refine kara_two (n := L.length + S.length) hB (by omega) (room := val B R) (upR := val B (R.drop h)) (z := val B z4) ?_ (val_split _ R h (by omega)) hv4 hv5 ?_
  · rw [hRv, hv2, val_trim]
  · rw [← val_split B L h hh]; exact mul_fit hL hS

/-- the three products of two halved factors, put together in one row -/
theorem three_lay {B : Nat} (hB : 0 < B) {L S R rs' zl zh : List Nat} {h : Nat} (hL : dig B L) (hS : dig B S) (hh : h ≤ L.length) (hs : h ≤ S.length) (hRl : R.length = L.length + S.length) (hRv : val B R = val B zl) (hvl : val B zl = val B (trimN (L.take h)) * val B (trimN (S.take h))) (hvh : val B zh = val B (L.drop h) * val B (S.drop h))
    (hv5 : val B rs' = (val B (R.drop (2 * h)) + val B zh) % B ^ (L.length + S.length - 2 * h)) (h2h : 2 * h ≤ L.length + S.length) :
    val B (R.take (2 * h) ++ rs') = val B (L.take h) * val B (S.take h) + B ^ (2 * h) * (val B (L.drop h) * val B (S.drop h)) := by
  have ht : (R.take (2 * h)).length = 2 * h := by simp; omega
  have hfit := kara_fit2 (B := B) (h := h) (n := L.length + S.length) (A0 := val B (L.take h)) (A1 := val B (L.drop h)) (B0 := val B (S.take h)) (B1 := val B (S.drop h)) (by rw [← val_split B L h hh, ← val_split B S h hs]; exact mul_fit hL hS)
  rw [val_append, ht, ← hvh]
  rw [← hvh] at hfit
  rw [val_trim, val_trim] at hvl
  rw [← hvl] at hfit ⊢
  exact kara_lay (room := 0) hB h2h (by rw [← hRv]; exact val_split _ R (2 * h) (by omega)) hv5 hfit

theorem three_end {B : Nat} (hB : 0 < B) {L S R U2 U3 U4 zl zh m : List Nat} {h c c' : Nat} (hL : dig B L) (hS : dig B S) (hh : h ≤ L.length) (hs : h ≤ S.length) (hRl : R.length = L.length + S.length) (hRv : val B R = val B (L.take h) * val B (S.take h) + B ^ (2 * h) * (val B (L.drop h) * val B (S.drop h)))
    (hvl : val B zl = val B (trimN (L.take h)) * val B (trimN (S.take h))) (hvh : val B zh = val B (L.drop h) * val B (S.drop h)) (hm : val B m = (val B (trimN (L.take h)) + val B (L.drop h)) * (val B (trimN (S.take h)) + val B (S.drop h)))
    (h2 : val B U2 = (val B (R.drop h) + val B m) % B ^ (L.length + S.length - h)) (h3 : val B U3 + val B zl * 1 = val B U2 + c * B ^ (L.length + S.length - h)) (h4 : val B U4 + val B zh * 1 = val B U3 + c' * B ^ (L.length + S.length - h)) (hd4 : dig B U4) (hl4 : U4.length = L.length + S.length - h) :
    val B (R.take h ++ U4) = val B L * val B S := by
  have ht : (R.take h).length = h := by simp; omega
  rw [val_trim, val_trim] at hvl hm
  rw [Nat.mul_one] at h3 h4
  rw [val_append, ht, val_split B L h hh, val_split B S h hs]
  have h4lt := val_lt hd4
  rw [hl4] at h4lt
  exact kara_three (n := L.length + S.length) hB (by omega) hvl hvh hRv (val_split _ R h (by omega)) hm h2 h3 h4 h4lt (by rw [← val_split B L h hh, ← val_split B S h hs]; exact mul_fit hL hS)

theorem sum_len {B : Nat} (hB : 1 < B) {xs ys zs : List Nat} {n : Nat} (hx : dig B xs) (hy : dig B ys) (ht : Top zs) (hv : val B zs = val B xs + val B ys) (h1 : xs.length ≤ n) (h2 : ys.length ≤ n) : zs.length ≤ n + 1 := by
  refine len_of_val hB ht ?_
  have a1 := val_lt hx
  have a2 := val_lt hy
  have b1 : B ^ xs.length ≤ B ^ n := Nat.pow_le_pow_right (by omega) h1
  have b2 : B ^ ys.length ≤ B ^ n := Nat.pow_le_pow_right (by omega) h2
  have b3 : B ^ n * 2 ≤ B ^ n * B := Nat.mul_le_mul_left _ hB
  rw [Nat.pow_succ]
  omega

end Go.Proofs.YtfcbeohkhljboaaDoor.Pl
namespace Go.Proofs.YtfcbeohkhljboaaDoor
open Go.RowKit
set_option linter.unusedVariables false
set_option linter.unusedSimpArgs false

set_option maxHeartbeats 6400000 in
theorem w_product_long (N : Nat) (IH : Hid (∀ M, M < N → ∀ (va vb : Value) (xs ys : List Nat) (w : World), xs.length + ys.length ≤ M → M ≤ 274877906944 → Nums .u64 w va xs → Nums .u64 w vb ys → Pl.dig 1000000000 xs → Pl.dig 1000000000 ys →
      Calls Tryd.prog 83 #[va, vb] w fun e w' => ∃ v zs, e = .returned v ∧ Fresh w w' v zs ∧ Pl.val 1000000000 zs = Pl.val 1000000000 xs * Pl.val 1000000000 ys))
    (va vb : Value) (xs ys : List Nat) (w : World) (hN : xs.length + ys.length ≤ N) (hNb : N ≤ 274877906944) (ha : Nums .u64 w va xs) (hb : Nums .u64 w vb ys) (hx : Pl.dig 1000000000 xs) (hy : Pl.dig 1000000000 ys) (hcase : ys.length ≤ xs.length) :
    Calls Tryd.prog 83 #[va, vb] w fun e w' => ∃ v zs, e = .returned v ∧ Fresh w w' v zs ∧ Pl.val 1000000000 zs = Pl.val 1000000000 xs * Pl.val 1000000000 ys := by
  have HA := Hid.mk ha
  have HB := Hid.mk hb
  obtain ⟨ao, capa, rfl, q1, q2⟩ := ha
  clear q1 q2
  obtain ⟨bo, capb, rfl, q1, q2⟩ := hb
  clear q1 q2
  · skip
    have hlt0 : ¬ (xs.length : Int) < (ys.length : Int) := by omega
    by_cases hfew : ys.length < 40
    · have hfew1 : (ys.length : Int) < 40 := by omega
      go_enter Tryd.func83, Tryd.ntmps83
      go_wp2_with fail
      refine (w_productByRows _ _ xs ys w HA.out HB.out (by omega) (by omega) hx hy).mono ?_
      rintro e w1 ⟨v, zs, rfl, hf, hv⟩
      have HF := Hid.mk hf
      have HV := Hid.mk hv
      obtain ⟨ao', cap', hvv, q1, q2⟩ := hf.1
      clear q1 q2 hf hv
      subst hvv
      go_wp2_with fail
      go_ret
      exact ⟨_, _, rfl, HF.out, HV.out⟩
    · have hfew1 : ¬ (ys.length : Int) < 40 := by omega
      obtain ⟨h, hh⟩ : ∃ h, h = (xs.length + 1) / 2 := ⟨_, rfl⟩
      have hhi : ((xs.length : Int) + 1) / 2 = (h : Int) := by omega
      have hh1 : 0 < h ∧ h < xs.length ∧ 2 * h ≤ xs.length + 1 ∧ xs.length ≤ 2 * h ∧ 20 ≤ h := by omega
      clear hh
      obtain ⟨hh0, hhl, hh2, hh3, hh20⟩ := hh1
      have hmk := fun (u : World) => run_make_row' (xs.length + ys.length) ((xs.length : Int) + (ys.length : Int)) (by simp) (by omega) u
      have b1 : (h : Int) ≤ (xs.length : Int) + (ys.length : Int) := by omega
      have b2 : (h : Int) < (xs.length : Int) := by omega
      go_enter Tryd.func83, Tryd.ntmps83
      go_wp2_with fail
      refine (w_cut _ xs h w HA.out (by omega) hh0 hhl).mono ?_
      rintro e w1 ⟨vl, vh, rfl, hb1, hnl, hnh, o1, o2⟩
      clear o1 o2
      have hdl := Pl.dig_trim (Pl.dig_take h hx)
      have hdh := Pl.dig_drop h hx
      have hll : (Pl.trimN (xs.take h)).length ≤ h := Nat.le_trans (Pl.trim_len _) (by simp; omega)
      have hlh : (xs.drop h).length ≤ xs.length - h := by simp
      obtain ⟨XL, hXL⟩ : ∃ XL, Pl.trimN (xs.take h) = XL := ⟨_, rfl⟩
      obtain ⟨XH, hXH⟩ : ∃ XH, xs.drop h = XH := ⟨_, rfl⟩
      rw [hXL] at hdl hll hnl
      rw [hXH] at hdh hlh hnh
      have HXL := Hid.mk hXL
      have HXH := Hid.mk hXH
      clear hXL hXH
      have HNL := Hid.mk (hnl.keep hb1)
      have HNH := Hid.mk (hnh.keep hb1)
      have HS1 := Hid.mk (HB.out.keep hb1)
      have HAl := Hid.mk ((Below.refl w1.heap.size w1).alloc (Nat.le_refl _) (zrow (xs.length + ys.length)))
      have HRow0 := Hid.mk (row_new w1 (xs.length + ys.length))
      have HB1 := Hid.mk hb1
      obtain ⟨lo, lc, hvl, q1, q2⟩ := hnl
      clear q1 q2
      obtain ⟨ho, hc, hvh, q1, q2⟩ := hnh
      clear q1 q2 hb1
      subst hvl
      subst hvh
      by_cases htwo : ys.length ≤ h
      · have htwo1 : (ys.length : Int) ≤ (h : Int) := by omega
        go_wp2_with fail
        refine (IH.out (XL.length + ys.length) (by omega) _ _ XL ys _ (Nat.le_refl _) (by omega) (HNL.out.keep HAl.out) (HS1.out.keep HAl.out) hdl hy).mono ?_
        rintro e w2 ⟨v2, z2, rfl, hf2, hv2⟩
        have hz2 : z2.length ≤ (xs.length + ys.length) := Pl.mul_len (B := 1000000000) (by decide) hdl hy hf2.2.2.1 hv2 (by omega)
        have hrow2 := HRow0.out.keep hf2.2.2.2.1
        obtain ⟨w3, hcp, HR3, HG3⟩ := run_copy_nums w2 w1.heap.size (xs.length + ys.length) (xs.length + ys.length) v2 _ z2 hrow2 (by simp) hf2.1 hz2
        have HBC : Hid (Below w1.heap.size w1 w3) := (HAl.out.trans (hf2.2.2.2.1.mono (by have := HAl.out.size; omega))).trans (below_grown HG3.out (Nat.le_refl _) (by have := HAl.out.size; have := hf2.2.2.2.1.size; omega))
        have HRl : Hid ((z2 ++ (List.replicate (xs.length + ys.length) 0).drop z2.length).length = (xs.length + ys.length)) := by show _ = _; simp; omega
        have HRd : Hid (Pl.dig 1000000000 (z2 ++ (List.replicate (xs.length + ys.length) 0).drop z2.length)) := Pl.dig_append.2 ⟨hf2.2.1, Pl.dig_drop _ (dig_zeros _ _ (by decide))⟩
        have HRv : Hid (Pl.val 1000000000 (z2 ++ (List.replicate (xs.length + ys.length) 0).drop z2.length) = Pl.val 1000000000 z2) := by show _ = _; rw [Pl.val_append, List.drop_replicate, val_zeros]; simp
        generalize z2 ++ (List.replicate (xs.length + ys.length) 0).drop z2.length = R at *
        have HV2 := Hid.mk hv2
        obtain ⟨ao2, cap2, hvv, q1, q2⟩ := hf2.1
        clear q1 q2 hz2 hrow2 hv2 hf2
        subst hvv
        go_wp2_with fail
        refine (IH.out (XH.length + ys.length) (by omega) _ _ XH ys _ (Nat.le_refl _) (by omega) (HNH.out.keep HBC.out) (HS1.out.keep HBC.out) hdh hy).mono ?_
        rintro e w4 ⟨v4, z4, rfl, hf4, hv4⟩
        have hz4 : z4.length ≤ (xs.length + ys.length) := Pl.mul_len (B := 1000000000) (by decide) hdh hy hf4.2.2.1 hv4 (by omega)
        have hoff4 : v4.ownBlock ≠ some w1.heap.size := fun e => by
          have := hf4.2.2.2.2 _ e
          have := HR3.out.lt
          omega
        have hRow4 := HR3.out.keep hf4.2.2.2.1
        have HRow4 : Hid (Row w4 w1.heap.size (R.take h ++ R.drop h ++ [])) := by show Row _ _ _; rw [List.append_nil, List.take_append_drop]; exact hRow4
        have HF4 := Hid.mk hf4
        have HV4 := Hid.mk hv4
        have HZ4 := Hid.mk hz4
        have HOff4 := Hid.mk hoff4
        obtain ⟨ao4, cap4, hvv, q1, q2⟩ := hf4.1
        clear q1 q2 hoff4 hRow4 hf4 hv4 hz4
        subst hvv
        go_wp2_with fail
        refine (w_addTo w1.heap.size h ((xs.length + ys.length) - h) ((xs.length + ys.length) - h) _ (R.take h) (R.drop h) [] z4 w4 HRow4.out (by have := HRl.out; simp; omega) (by have := HRl.out; simp; omega) (Nat.le_refl _) (by omega) (Pl.dig_drop h HRd.out) HF4.out.2.1 HF4.out.1 HOff4.out (by have := HZ4.out; omega)).mono ?_
        rintro e w5 ⟨rfl, hadd⟩
        obtain ⟨hg5, rs', hl5, hd5, hrow5, hv5⟩ := hadd
        have HFin := Hid.mk (Pl.two_end (B := 1000000000) (by decide) hx hy (by omega) HRl.out HRv.out (by rw [HXL.out]; exact HV2.out) (by rw [HXH.out]; exact HV4.out) hv5)
        have HRowE : Hid (Row w5 w1.heap.size (R.take h ++ rs')) := by have := hrow5; rw [List.append_nil] at this; exact this
        have HBE : Hid (Below w.heap.size w w5) := by
          have a1 := HB1.out.trans (HBC.out.mono HB1.out.size)
          have a2 := a1.trans (HF4.out.2.2.2.1.mono (by have := a1.size; omega))
          exact a2.trans (below_grown hg5 HB1.out.size (by have := a2.size; omega))
        have HDE := Hid.mk (Pl.dig_append.2 ⟨Pl.dig_take h HRd.out, hd5⟩)
        have HLE : Hid ((R.take h ++ rs').length = (xs.length + ys.length)) := by have := HRl.out; show _ = _; simp; omega
        generalize R.take h ++ rs' = FL at *
        clear hrow5 hv5 hd5 hl5 hg5
        go_wp2_with fail
        refine (w_tTrim _ FL _ (HRowE.out.nums (pre := []) (post := []) (cap := xs.length + ys.length) (by simp) rfl HLE.out (Nat.le_refl _)) (by rw [HLE.out]; unfold maxLen; omega)).mono ?_
        rintro e wz ⟨v', rfl, rfl, hn', ho'⟩
        have HF := Hid.mk (fresh_of HBE.out HB1.out.size HDE.out hn' ho' rfl)
        have HVal : Hid (Pl.val 1000000000 (Pl.trimN FL) = Pl.val 1000000000 xs * Pl.val 1000000000 ys) := (Pl.val_trim _ _).trans HFin.out
        obtain ⟨ao', cap', hvv, q1, q2⟩ := hn'
        clear q1 q2 ho'
        subst hvv
        go_wp2_with fail
        go_ret
        exact ⟨_, _, rfl, HF.out, HVal.out⟩
      · have htwo1 : ¬ (ys.length : Int) ≤ (h : Int) := by omega
        have b3 : (h : Int) < (ys.length : Int) := by omega
        have b4 : 2 * (h : Int) ≤ (xs.length : Int) + (ys.length : Int) := by omega
        have b5 : 2 * (h : Int) < (xs.length : Int) + (ys.length : Int) := by omega
        go_wp2_with fail
        refine (w_cut _ ys h _ (HS1.out.keep HAl.out) (by omega) hh0 (by omega)).mono ?_
        rintro e w2 ⟨vsl, vsh, rfl, hb2, hnsl, hnsh, o1, o2⟩
        have hsl := Pl.dig_trim (Pl.dig_take h hy)
        have hsh := Pl.dig_drop h hy
        have hlls : (Pl.trimN (ys.take h)).length ≤ h := Nat.le_trans (Pl.trim_len _) (by simp; omega)
        have hlhs : (ys.drop h).length ≤ ys.length - h := by simp
        obtain ⟨YL, hYL⟩ : ∃ YL, Pl.trimN (ys.take h) = YL := ⟨_, rfl⟩
        obtain ⟨YH, hYH⟩ : ∃ YH, ys.drop h = YH := ⟨_, rfl⟩
        rw [hYL] at hsl hlls hnsl
        rw [hYH] at hsh hlhs hnsh
        have HYL := Hid.mk hYL
        have HYH := Hid.mk hYH
        clear hYL hYH
        have HNSL := Hid.mk (hnsl.keep hb2)
        have HNSH := Hid.mk (hnsh.keep hb2)
        have HNL2 := Hid.mk ((HNL.out.keep HAl.out).keep hb2)
        have HNH2 := Hid.mk ((HNH.out.keep HAl.out).keep hb2)
        have HRow2 := Hid.mk (HRow0.out.keep hb2)
        have HBC2 : Hid (Below w1.heap.size w1 w2) := HAl.out.trans (hb2.mono HAl.out.size)
        have HOL := Hid.mk (show (Value.slice lo XL.length lc).ownBlock ≠ some w1.heap.size from HNL.out.older (Nat.le_refl _))
        have HOH := Hid.mk (show (Value.slice ho XH.length hc).ownBlock ≠ some w1.heap.size from HNH.out.older (Nat.le_refl _))
        have HOSL := Hid.mk (show vsl.ownBlock ≠ some w1.heap.size by rw [o1]; exact HS1.out.older (Nat.le_refl _))
        have HOSH := Hid.mk (show vsh.ownBlock ≠ some w1.heap.size by rw [o2]; exact HS1.out.older (Nat.le_refl _))
        obtain ⟨lo2, lc2, hvl, q1, q2⟩ := hnsl
        clear q1 q2
        obtain ⟨ho2, hc2, hvh, q1, q2⟩ := hnsh
        clear q1 q2 hb2 o1 o2
        subst hvl
        subst hvh
        go_wp2_with fail
        refine (IH.out (XL.length + YL.length) (by omega) _ _ XL YL _ (Nat.le_refl _) (by omega) HNL2.out HNSL.out hdl hsl).mono ?_
        rintro e w3 ⟨v3, zl, rfl, hf3, hv3⟩
        have HF3 := Hid.mk hf3
        have HV3 := Hid.mk hv3
        have HLl : Hid (zl.length ≤ 2 * h) := Pl.mul_len (B := 1000000000) (by decide) hdl hsl hf3.2.2.1 hv3 (by omega)
        have HO3 : Hid (v3.ownBlock ≠ some w1.heap.size) := fun e => by have := hf3.2.2.2.2 _ e; have := HRow2.out.lt; omega
        have HG23 : Hid (w2.grownBy w3 (some w1.heap.size)) := grown_below hf3.2.2.2.1
        have HRow3 := Hid.mk (HRow2.out.keep hf3.2.2.2.1)
        have HBC3 : Hid (Below w1.heap.size w1 w3) := HBC2.out.trans (hf3.2.2.2.1.mono HBC2.out.size)
        obtain ⟨ao3, cap3, hvv, q1, q2⟩ := hf3.1
        clear q1 q2 hf3 hv3
        subst hvv
        go_wp2_with fail
        refine (IH.out (XH.length + YH.length) (by omega) _ _ XH YH _ (Nat.le_refl _) (by omega) (HNH2.out.off HOH.out HG23.out) (HNSH.out.off HOSH.out HG23.out) hdh hsh).mono ?_
        rintro e w4 ⟨v4, zh, rfl, hf4, hv4⟩
        have HF4 := Hid.mk hf4
        have HV4 := Hid.mk hv4
        have HLh : Hid (zh.length ≤ (xs.length + ys.length) - 2 * h) := Pl.mul_len (B := 1000000000) (by decide) hdh hsh hf4.2.2.1 hv4 (by omega)
        have HO4 : Hid (v4.ownBlock ≠ some w1.heap.size) := fun e => by have := hf4.2.2.2.2 _ e; have := HRow3.out.lt; omega
        have HG34 : Hid (w3.grownBy w4 (some w1.heap.size)) := grown_below hf4.2.2.2.1
        have hrow4 := HRow3.out.keep hf4.2.2.2.1
        have HBC4 : Hid (Below w1.heap.size w1 w4) := HBC3.out.trans (hf4.2.2.2.1.mono HBC3.out.size)
        obtain ⟨w5, hcp, HR5, HG45⟩ := run_copy_nums w4 w1.heap.size (xs.length + ys.length) (xs.length + ys.length) _ _ zl hrow4 (by simp) (HF3.out.1.off HO3.out HG34.out) (by have := HLl.out; omega)
        have HRl : Hid ((zl ++ (List.replicate (xs.length + ys.length) 0).drop zl.length).length = (xs.length + ys.length)) := by have := HLl.out; show _ = _; simp; omega
        have HRd : Hid (Pl.dig 1000000000 (zl ++ (List.replicate (xs.length + ys.length) 0).drop zl.length)) := Pl.dig_append.2 ⟨HF3.out.2.1, Pl.dig_drop _ (dig_zeros _ _ (by decide))⟩
        have HRv : Hid (Pl.val 1000000000 (zl ++ (List.replicate (xs.length + ys.length) 0).drop zl.length) = Pl.val 1000000000 zl) := by show _ = _; rw [Pl.val_append, List.drop_replicate, val_zeros]; simp
        generalize zl ++ (List.replicate (xs.length + ys.length) 0).drop zl.length = R at *
        have HRow5 : Hid (Row w5 w1.heap.size (R.take (2 * h) ++ R.drop (2 * h) ++ [])) := by show Row _ _ _; rw [List.append_nil, List.take_append_drop]; exact HR5.out
        have HG35 : Hid (w3.grownBy w5 (some w1.heap.size)) := grown_trans HG34.out HG45.out
        have HG25 : Hid (w2.grownBy w5 (some w1.heap.size)) := grown_trans HG23.out HG35.out
        obtain ⟨ao4, cap4, hvv, q1, q2⟩ := hf4.1
        clear q1 q2 hf4 hv4 hrow4
        subst hvv
        go_wp2_with fail
        refine (w_addTo w1.heap.size (2 * h) ((xs.length + ys.length) - 2 * h) ((xs.length + ys.length) - 2 * h) _ (R.take (2 * h)) (R.drop (2 * h)) [] zh w5 HRow5.out (by have := HRl.out; simp; omega) (by have := HRl.out; simp; omega) (Nat.le_refl _) (by omega) (Pl.dig_drop _ HRd.out) HF4.out.2.1 (HF4.out.1.off HO4.out HG45.out) HO4.out (by have := HLh.out; omega)).mono ?_
        rintro e w6 ⟨rfl, hadd⟩
        obtain ⟨hg56, rs', hl6, hd6, hrow6, hv6⟩ := hadd
        have HR2v := Hid.mk (Pl.three_lay (B := 1000000000) (by decide) hx hy (by omega) (by omega) HRl.out HRv.out (by rw [HXL.out, HYL.out]; exact HV3.out) (by rw [HXH.out, HYH.out]; exact HV4.out) hv6 (by omega))
        have hRow6 : Row w6 w1.heap.size (R.take (2 * h) ++ rs') := by have := hrow6; rw [List.append_nil] at this; exact this
        have HR2d := Hid.mk (Pl.dig_append.2 ⟨Pl.dig_take (2 * h) HRd.out, hd6⟩)
        have HR2l : Hid ((R.take (2 * h) ++ rs').length = (xs.length + ys.length)) := by have := HRl.out; show _ = _; simp; omega
        generalize R.take (2 * h) ++ rs' = R2 at *
        have HRow6 := Hid.mk hRow6
        have HG36 : Hid (w3.grownBy w6 (some w1.heap.size)) := grown_trans HG35.out hg56
        have HG26 : Hid (w2.grownBy w6 (some w1.heap.size)) := grown_trans HG25.out hg56
        have HG46 : Hid (w4.grownBy w6 (some w1.heap.size)) := grown_trans HG45.out hg56
        clear hrow6 hRow6 hv6 hd6 hl6 hg56 HRow5 HR5 HRv HRd HRl HG25 HG35 HG45
        go_wp2_with fail
        refine (w_sum _ _ XL XH w6 (HNL2.out.off HOL.out HG26.out) (HNH2.out.off HOH.out HG26.out) (by omega) (by omega) hdl hdh).mono ?_
        rintro e w7 ⟨v7, s1, rfl, hf7, hv7⟩
        have HF7 := Hid.mk hf7
        have HV7 := Hid.mk hv7
        have HL7 : Hid (s1.length ≤ h + 1) := Pl.sum_len (B := 1000000000) (by decide) hdl hdh hf7.2.2.1 hv7 (by omega) (by omega)
        have HG67 : Hid (w6.grownBy w7 (some w1.heap.size)) := grown_below hf7.2.2.2.1
        have HRow7 := Hid.mk (HRow6.out.keep hf7.2.2.2.1)
        obtain ⟨ao7, cap7, hvv, q1, q2⟩ := hf7.1
        clear q1 q2 hf7 hv7
        subst hvv
        go_wp2_with fail
        refine (w_sum _ _ YL YH w7 (HNSL.out.off HOSL.out (grown_trans HG26.out HG67.out)) (HNSH.out.off HOSH.out (grown_trans HG26.out HG67.out)) (by omega) (by omega) hsl hsh).mono ?_
        rintro e w8 ⟨v8, s2, rfl, hf8, hv8⟩
        have HF8 := Hid.mk hf8
        have HV8 := Hid.mk hv8
        have HL8 : Hid (s2.length ≤ h + 1) := Pl.sum_len (B := 1000000000) (by decide) hsl hsh hf8.2.2.1 hv8 (by omega) (by omega)
        have HG68 : Hid (w6.grownBy w8 (some w1.heap.size)) := grown_trans HG67.out (grown_below hf8.2.2.2.1)
        have HRow8 := Hid.mk (HRow7.out.keep hf8.2.2.2.1)
        have HN7 := Hid.mk (HF7.out.1.keep hf8.2.2.2.1)
        obtain ⟨ao8, cap8, hvv, q1, q2⟩ := hf8.1
        clear q1 q2 hf8 hv8
        subst hvv
        go_wp2_with fail
        refine (IH.out (s1.length + s2.length) (by have := HL7.out; have := HL8.out; omega) _ _ s1 s2 _ (Nat.le_refl _) (by have := HL7.out; have := HL8.out; omega) HN7.out HF8.out.1 HF7.out.2.1 HF8.out.2.1).mono ?_
        rintro e w9 ⟨v9, m, rfl, hf9, hv9⟩
        have HF9 := Hid.mk hf9
        have HV9 : Hid (Pl.val 1000000000 m = (Pl.val 1000000000 XL + Pl.val 1000000000 XH) * (Pl.val 1000000000 YL + Pl.val 1000000000 YH)) := by show _ = _; rw [hv9, HV7.out, HV8.out]
        have HL9 : Hid (m.length ≤ 2 * h + 2) := Pl.mul_len (B := 1000000000) (by decide) HF7.out.2.1 HF8.out.2.1 hf9.2.2.1 hv9 (by have := HL7.out; have := HL8.out; omega)
        have HO9 : Hid (v9.ownBlock ≠ some w1.heap.size) := fun e => by have := hf9.2.2.2.2 _ e; have := HRow8.out.lt; omega
        have HG69 : Hid (w6.grownBy w9 (some w1.heap.size)) := grown_trans HG68.out (grown_below hf9.2.2.2.1)
        have HRow9 : Hid (Row w9 w1.heap.size (R2.take h ++ R2.drop h ++ [])) := by show Row _ _ _; rw [List.append_nil, List.take_append_drop]; exact HRow8.out.keep hf9.2.2.2.1
        have HG39 : Hid (w3.grownBy w9 (some w1.heap.size)) := grown_trans HG36.out HG69.out
        have HG49 : Hid (w4.grownBy w9 (some w1.heap.size)) := grown_trans HG46.out HG69.out
        obtain ⟨ao9, cap9, hvv, q1, q2⟩ := hf9.1
        clear q1 q2 hf9 hv9
        subst hvv
        go_wp2_with fail
        refine (w_addTo w1.heap.size h ((xs.length + ys.length) - h) ((xs.length + ys.length) - h) _ (R2.take h) (R2.drop h) [] m w9 HRow9.out (by have := HR2l.out; simp; omega) (by have := HR2l.out; simp; omega) (Nat.le_refl _) (by omega) (Pl.dig_drop _ HR2d.out) HF9.out.2.1 HF9.out.1 HO9.out (by have := HL9.out; omega)).mono ?_
        rintro e w10 ⟨rfl, hadd⟩
        obtain ⟨hg910, U2, hlU2, hdU2, hrow10, hvU2⟩ := hadd
        have HRow10 := Hid.mk hrow10
        have HVU2 := Hid.mk hvU2
        have HG310 : Hid (w3.grownBy w10 (some w1.heap.size)) := grown_trans HG39.out hg910
        have HG410 : Hid (w4.grownBy w10 (some w1.heap.size)) := grown_trans HG49.out hg910
        clear hrow10 hvU2 hg910
        go_wp2_with fail
        refine (w_takeFrom w1.heap.size h ((xs.length + ys.length) - h) ((xs.length + ys.length) - h) _ 1 (R2.take h) U2 [] zl w10 HRow10.out (by have := HR2l.out; simp; omega) hlU2 (Nat.le_refl _) (by omega) hdU2 HF3.out.2.1 (HF3.out.1.off HO3.out HG310.out) HO3.out (by have := HLl.out; omega) (by decide)).mono ?_
        rintro e w11 ⟨short, rfl, htk⟩
        obtain ⟨hg1011, U3, c, hlU3, hdU3, hrow11, hvU3, hs1, hs2⟩ := htk
        have HRow11 := Hid.mk hrow11
        have HVU3 := Hid.mk hvU3
        have HG411 : Hid (w4.grownBy w11 (some w1.heap.size)) := grown_trans HG410.out hg1011
        clear hrow11 hvU3 hg1011 hs1 hs2
        go_wp2_with fail
        refine (w_takeFrom w1.heap.size h ((xs.length + ys.length) - h) ((xs.length + ys.length) - h) _ 1 (R2.take h) U3 [] zh w11 HRow11.out (by have := HR2l.out; simp; omega) hlU3 (Nat.le_refl _) (by omega) hdU3 HF4.out.2.1 (HF4.out.1.off HO4.out HG411.out) HO4.out (by have := HLh.out; omega) (by decide)).mono ?_
        rintro e w12 ⟨short2, rfl, htk⟩
        obtain ⟨hg1112, U4, c2, hlU4, hdU4, hrow12, hvU4, hs1, hs2⟩ := htk
        have HFin := Hid.mk (Pl.three_end (B := 1000000000) (by decide) hx hy (by omega) (by omega) HR2l.out HR2v.out (by rw [HXL.out, HYL.out]; exact HV3.out) (by rw [HXH.out, HYH.out]; exact HV4.out) (by rw [HXL.out, HYL.out, HXH.out, HYH.out]; exact HV9.out) HVU2.out HVU3.out hvU4 hdU4 hlU4)
        have HRowE : Hid (Row w12 w1.heap.size (R2.take h ++ U4)) := by have := hrow12; rw [List.append_nil] at this; exact this
        have HBE : Hid (Below w.heap.size w w12) := by
          have a1 := HB1.out.trans (HBC4.out.mono HB1.out.size)
          have g1 := grown_trans HG411.out hg1112
          exact a1.trans (below_grown g1 HB1.out.size (by have := a1.size; omega))
        have HDE := Hid.mk (Pl.dig_append.2 ⟨Pl.dig_take h HR2d.out, hdU4⟩)
        have HLE : Hid ((R2.take h ++ U4).length = (xs.length + ys.length)) := by have := HR2l.out; show _ = _; simp; omega
        generalize R2.take h ++ U4 = FL at *
        clear hrow12 hvU4 hs1 hs2 hg1112
        go_wp2_with fail
        refine (w_tTrim _ FL _ (HRowE.out.nums (pre := []) (post := []) (cap := xs.length + ys.length) (by simp) rfl HLE.out (Nat.le_refl _)) (by rw [HLE.out]; unfold maxLen; omega)).mono ?_
        rintro e wz ⟨v', rfl, rfl, hn', ho'⟩
        have HF := Hid.mk (fresh_of HBE.out HB1.out.size HDE.out hn' ho' rfl)
        have HVal : Hid (Pl.val 1000000000 (Pl.trimN FL) = Pl.val 1000000000 xs * Pl.val 1000000000 ys) := (Pl.val_trim _ _).trans HFin.out
        obtain ⟨ao', cap', hvv, q1, q2⟩ := hn'
        clear q1 q2 ho'
        subst hvv
        go_wp2_with fail
        go_ret
        exact ⟨_, _, rfl, HF.out, HVal.out⟩
end Go.Proofs.YtfcbeohkhljboaaDoor
