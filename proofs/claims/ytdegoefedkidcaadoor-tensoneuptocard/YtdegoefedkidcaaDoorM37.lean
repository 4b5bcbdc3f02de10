import Derived.Test.YtdegoefedkidcaaDoorM36
namespace Go.Proofs.YtdegoefedkidcaaDoor
open Go.RowKit
set_option linter.unusedVariables false
set_option linter.unusedSimpArgs false

theorem cmp_cases (a b : Nat) : ∃ cm : Int, Pl.cmpI a b = cm ∧ ((cm ≤ 0 ∧ a ≤ b) ∨ (0 < cm ∧ b < a)) := ⟨_, rfl, by unfold Pl.cmpI; split <;> first | omega | (split <;> omega)⟩

set_option maxRecDepth 100000 in
set_option maxHeartbeats 6400000 in
theorem w_rRoot (a : ByteArray) (w : World) (ha : a.size ≤ 4294967296) (fa : Pl.formed a.data.toList = true) (hn : Pl.neg a.data.toList = false) :
    Calls Tryd.prog 22 #[.string a] w fun e w' => AnsR w w' e (Pl.ival a.data.toList) := by
  have HF := Hid.mk fa
  have hm : a.size ≤ maxLen := by unfold maxLen; omega
  have hp0 : 0 < a.size := r_formed_size fa 0 (by rw [hn]; rfl)
  have h45 : (((a[0].toNat : Nat) : Int) == 45) = false := by
    have := Pl.neg_of a hp0
    rw [hn] at this
    simp at this ⊢
    omega
  have HNG := Hid.mk hn
  clear fa hn
  go_enter Tryd.func22, Tryd.ntmps22
  go_wp2_with fail
  refine (w_rFormed a _ hm).mono ?_
  rintro e w0 ⟨rfl, hw⟩
  obtain rfl := hw.symm
  rw [HF.out]
  go_wp2_with fail
  refine (w_readV a _ ha HF.out).mono ?_
  rintro e w1 ⟨ro, rn, rc, rfl, HV, hb1⟩
  rw [HNG.out]
  obtain ⟨X, hX⟩ : ∃ X, X = Pl.dvl (Pl.body a.data.toList) := ⟨_, rfl⟩
  rw [← hX] at HV
  have HIv : Hid (Pl.ival a.data.toList = (X : Int)) := by show _ = _; unfold Pl.ival; rw [HNG.out, hX]; rfl
  have HXK : Hid (X < 10 ^ a.size) := by show _ < _; rw [hX]; exact dvl_size HF.out
  have HB1 := Hid.mk hb1
  clear hX hb1
  obtain ⟨zs, z1, z2, z3, z4, z5⟩ := HV.out.fits HXK.out
  have hrn : zs.length = rn := by obtain ⟨_, _, e, _⟩ := z1; cases e; rfl
  have HX2 : Hid (X < 10 ^ rn) := by show _ < _; rw [← z4, ← hrn]; exact Pl.val_lt z2
  have hrn2 : rn ≤ 4294967296 := by omega
  clear z1 z2 z3 z4 z5 hrn
  obtain ⟨N, hN⟩ : ∃ N, N = rn / 2 + 1 := ⟨_, rfl⟩
  have hmk := fun (u : World) => run_make_irow' N ((rn : Int) / 2 + 1) (by omega) (by omega) u
  have hNb : N ≤ 4294967296 := by omega
  have hN1 : 0 < N := by omega
  obtain ⟨u1, hu1⟩ : ∃ u1 : World, u1 = w1.alloc (.cells #[.bool false, .slice ro rn rc] 48) := ⟨_, rfl⟩
  have hsz1 : u1.heap.size = w1.heap.size + 1 := by rw [hu1]; simp
  have HRS : Hid (RtSt u1 (u1.alloc (izrow N)) N X N []) := rt_start HX2.out (by omega)
  have cX : u1.cell? ⟨w1.heap.size, 1, none⟩ = some (.slice ro rn rc) := by rw [hu1]; simp [go_sem]
  have HBu : Hid (Below w.heap.size w u1) := by show Below _ _ _; rw [hu1]; exact below_more HB1.out (below1 w1 _)
  have HVu : Hid (RV u1 (.slice ro rn rc) X) := by show RV _ _ _; rw [hu1]; exact HV.out.keep (below1 w1 _)
  clear HV HB1 hN
  go_wp2_with fail
  rw [← hu1]
  have hsz1' : w1.heap.size + 1 = u1.heap.size := hsz1.symm
  clear hsz1
  rw [hsz1']
  clear hu1 hmk
  go_loopw [6] (fun i wr => ∃ (k : Nat) (hi : List Nat), k ≤ N ∧ i = .int .i64 ((k : Int) - 1) ∧ Hid (RtSt u1 wr N X k hi)) (fun i _ => (intOf i + 1).toNat)
  case atStart => exact ⟨N, [], Nat.le_refl _, rfl, HRS⟩
  case round =>
    obtain ⟨k, hi, hk, rfl, HR⟩ := hrel
    cases k with
    | zero =>
      have HU : Hid (RU wr (.slice (some ⟨u1.heap.size, 0, none⟩) N N) (Pl.val 10 hi)) := by
        have h := HR.out.row
        simp only [List.replicate_zero, List.nil_append] at h
        exact row_ru h (by have := HR.out.len; omega) HR.out.dig (by omega)
      have HLU : Hid (Pl.val 10 hi * Pl.val 10 hi ≤ X ∧ X < (Pl.val 10 hi + 1) * (Pl.val 10 hi + 1)) := by
        have h1 := HR.out.lo
        have h2 := HR.out.up
        simp only [Nat.pow_zero, Nat.one_mul] at h1 h2
        exact ⟨h1, h2⟩
      have HVK : Hid (Pl.val 10 hi < 10 ^ N) := by
        have h := Pl.val_lt HR.out.dig
        have h2 := HR.out.len
        rw [Nat.zero_add] at h2
        rw [h2] at h
        exact h
      have HBr := Hid.mk (HBu.out.trans (HR.out.below.mono HBu.out.size))
      clear HR
      rw [show ((0 : Nat) : Int) - 1 = -1 from rfl]
      go_wp2_with fail
      refine (w_trimR false _ _ _ HU.out).mono ?_
      rintro e w2 ⟨so, sn, sc, rfl, HV2, hb2⟩
      rw [Bool.false_and]
      have HB2 := Hid.mk (below_more HBr.out hb2)
      clear hb2 HU HBr
      go_wp2_with fail
      refine (w_rwrite false _ _ N _ HV2.out HVK.out (by omega) (fun h => by cases h)).mono ?_
      rintro e w3 ⟨r, rfl, h1, h2, hb3⟩
      have HRR := Hid.mk (And.intro h1 (And.intro h2 (below_more HB2.out hb3)))
      clear h1 h2 hb3
      go_wp2_with fail
      go_ret2
      exact ⟨r, rfl, HRR.out.1, by rw [HRR.out.2.1]; simp [sgn], by rw [HRR.out.2.1, HIv.out]; have := HLU.out.1; simp only [sgn]; simp; exact_mod_cast this, by rw [HRR.out.2.1, HIv.out]; have := HLU.out.2; simp only [sgn]; simp; exact_mod_cast this, HRR.out.2.2⟩
    | succ m =>
      have HI0 := Hid.mk (ri_start HR.out)
      have HLen := Hid.mk HR.out.len
      have HDg := Hid.mk HR.out.dig
      have HLo := Hid.mk HR.out.lo
      clear HR
      obtain ⟨wo, hwo⟩ : ∃ wo : World, wo = wr := ⟨_, rfl⟩
      subst hwo
      have hmN : (m : Int) < (N : Int) := by omega
      rw [show ((m + 1 : Nat) : Int) - 1 = (m : Int) by omega]
      go_wp2_with fail
      go_loopw [7] (fun d wr => ∃ (dd : Nat), dd ≤ 9 ∧ d = .int .i64 dd ∧ Hid (RiSt u1 wr X m dd hi)) (fun d _ => (intOf d).toNat)
      case atStart => exact ⟨9, Nat.le_refl _, rfl, HI0⟩
      case round =>
        obtain ⟨dd, hdd, rfl, HI⟩ := hrel
        by_cases hd0 : dd = 0
        · subst hd0
          have HN := Hid.mk (ri_zero HI.out HLen.out HDg.out HLo.out)
          clear HI
          go_wp2_with fail
          go_roundw
          case measure => simp [intOf]
          exact ⟨m, 0 :: hi, by omega, r_int_eq (by omega), HN⟩
        · have hd1 : (0 : Int) < (dd : Int) := by omega
          obtain ⟨p1, p2⟩ := ri_put HI.out
          have hc1 := HI.out.row.cell m (by simp; omega)
          have hf1 := HI.out.row.free m
          have HUp := Hid.mk HI.out.up
          obtain ⟨wa, hwa⟩ : ∃ wa : World, wa = wr.setCell ⟨u1.heap.size, m, none⟩ (.int .i64 (dd : Int)) := ⟨_, rfl⟩
          rw [← hwa] at p1 p2
          have HRow := Hid.mk p1
          have HBa := Hid.mk p2
          obtain ⟨V, hV⟩ : ∃ V, V = 10 ^ m * (dd + 10 * Pl.val 10 hi) := ⟨_, rfl⟩
          have HVd := Hid.mk hV
          have HU : Hid (RU wa (.slice (some ⟨u1.heap.size, 0, none⟩) N N) V) := by
            have := row_ru (N := N) p1 (by have := HLen.out; simp; omega) (Pl.dig_append.2 ⟨dig_zeros _ _ (by decide), Pl.dig_cons.2 ⟨by omega, HDg.out⟩⟩) (by omega)
            rw [val_high, Pl.val_cons, ← hV] at this
            exact this
          have HVK : Hid (V < 10 ^ N) := by
            obtain ⟨ls, l1, l2, l3, l4⟩ := HU.out
            have h := Pl.val_lt l2
            have hl : ls.length = N := by obtain ⟨_, _, e, _⟩ := l1; cases e; rfl
            rw [l3, hl] at h
            exact h
          clear p1 p2 hV HI
          go_wp2_with fail
          rw [← hwa]
          clear hwa hc1 hf1
          refine (w_trimR false _ _ _ HU.out).mono ?_
          rintro e w2 ⟨so, sn, sc, rfl, HV2, hb2⟩
          rw [Bool.false_and]
          have HRow2 := Hid.mk (HRow.out.keep hb2)
          have HB2 := Hid.mk (HBa.out.trans (hb2.mono HBa.out.size))
          clear hb2 HU HRow HBa
          go_wp2_with fail
          have HV3 := Hid.mk (HV2.out.keep (below1 w2 (.cells #[.bool false, .slice so sn sc] 48)))
          have HRow3 := Hid.mk (HRow2.out.keep (below1 w2 (.cells #[.bool false, .slice so sn sc] 48)))
          have HB3 := Hid.mk (HB2.out.trans ((below1 w2 (.cells #[.bool false, .slice so sn sc] 48)).mono HB2.out.size))
          refine (w_rtimes false false _ _ V V N _ HV3.out HV3.out HVK.out HVK.out (by omega)).mono ?_
          rintro e w4 ⟨bq, qo, qn, qc, q, rfl, HQ, HQS, HQP, hb4⟩
          have HQV := Hid.mk (rn_pos HQS.out HQP.out)
          have HRow4 := Hid.mk (HRow3.out.keep hb4)
          have HB4 := Hid.mk (HB3.out.trans (hb4.mono HB3.out.size))
          clear hb4 HRow3 HB3 HV3 HV2 HRow2 HB2
          have cX4 : ∀ o, (w4.alloc o).cell? ⟨w1.heap.size, 1, none⟩ = some (.slice ro rn rc) := fun o => below_cells (HB4.out.trans ((below1 w4 o).mono HB4.out.size)) (by omega) cX
          go_wp2_with fail
          obtain ⟨w5, hw5⟩ : ∃ w5 : World, w5 = w4.alloc (.cells #[.bool bq, .slice qo qn qc] 48) := ⟨_, rfl⟩
          rw [← hw5]
          have HQ5 : Hid (RV w5 (.slice qo qn qc) q) := by show RV _ _ _; rw [hw5]; exact HQ.out.keep (below1 w4 _)
          have HRow5 : Hid (IRow w5 u1.heap.size (List.replicate m 0 ++ (dd :: hi))) := by show IRow _ _ _; rw [hw5]; exact HRow4.out.keep (below1 w4 _)
          have HB5 : Hid (Below u1.heap.size u1 w5) := by show Below _ _ _; rw [hw5]; exact HB4.out.trans ((below1 w4 _).mono HB4.out.size)
          clear hw5 cX4 HRow4 HB4 HQ
          have HX5 := Hid.mk (HVu.out.keep HB5.out)
          have HQK : Hid (q < 10 ^ (N + N + a.size)) := by
            show _ < _
            rw [HQV.out, Nat.add_assoc]
            have h1 : V * V < 10 ^ N * 10 ^ N := Nat.mul_lt_mul'' HVK.out HVK.out
            rw [← Nat.pow_add] at h1
            exact Nat.lt_of_lt_of_le h1 (Nat.pow_le_pow_right (by decide) (by omega))
          refine (rsize_any HQ5.out HX5.out HQK.out (pow_up HXK.out (by omega)) (by omega) w5 (Below.refl _ _)).mono ?_
          rintro e w6 ⟨rfl, hb6⟩
          obtain ⟨cm, hcm, hcc⟩ := cmp_cases q X
          rw [hcm]
          have HRow6 := Hid.mk (HRow5.out.keep hb6)
          have HB6 := Hid.mk (HB5.out.trans (hb6.mono HB5.out.size))
          clear hcm hb6 HRow5 HB5 HQ5 HX5
          rcases hcc with ⟨hc1, hc2⟩ | ⟨hc1, hc2⟩
          · have HN : Hid (RtSt u1 w6 N X m (dd :: hi)) := ri_hit HRow6.out HB6.out HLen.out HDg.out (by omega) (by rw [← HVd.out, ← HQV.out]; exact hc2) HUp.out
            clear hc2
            go_wp2_with fail
            go_roundw
            case measure => simp [intOf]
            exact ⟨m, dd :: hi, by omega, r_int_eq (by omega), HN⟩
          · have HN : Hid (RiSt u1 (w6.setCell ⟨u1.heap.size, m, none⟩ (.int .i64 0)) X m (dd - 1) hi) := ri_miss HRow6.out HB6.out (by omega) (by rw [← HVd.out, ← HQV.out]; exact hc2)
            have g1 := HRow6.out.cell m (by simp)
            have g2 := HRow6.out.free m
            clear hc2
            go_wp2_with fail
            go_roundw
            case measure => simp [intOf]; omega
            exact ⟨dd - 1, by omega, r_int_eq (by omega), HN⟩
end Go.Proofs.YtdegoefedkidcaaDoor
namespace Go.Proofs.YtdegoefedkidcaaDoor
open Go.RowKit
set_option linter.unusedVariables false
set_option linter.unusedSimpArgs false

set_option maxRecDepth 100000 in
set_option maxHeartbeats 800000 in
theorem w_Mod_zero (a b : ByteArray) (w : World) (ha : a.size ≤ 4294967296) (fa : Pl.formed a.data.toList = true) (h0 : b.toList = [48]) :
    Calls Tryd.prog 32 #[.string a, .string b] w fun e w' => e = .returned (.tuple #[.string ⟨#[]⟩, .int .i64 10]) ∧ Below w.heap.size w w' := by
  have HC := Hid.mk (fun (u : World) => w_Formed a u (by unfold maxLen; omega))
  have hn : (b.toList == [48]) = true := by rw [h0]; rfl
  have HW : Hid (Calls Tryd.prog 60 #[.string a, .string b, .func (.func 63) #[] #[]] w fun e w' => e = .returned (.tuple #[.string ⟨#[]⟩, .int .i64 10]) ∧ Below w.heap.size w w') := by
    show Calls _ _ _ _ _
    have HF := Hid.mk fa
    clear fa h0
    go_enter Tryd.func60, Tryd.ntmps60
    go_wp2_with fail
    refine (HC.out _).mono ?_
    rintro e w0 ⟨rfl, hb0⟩
    rw [HF.out]
    have HB0 := Hid.mk hb0
    clear hb0
    go_wp2_with fail
    go_ret2
    exact ⟨rfl, HB0.out⟩
  clear fa h0 hn
  go_enter Tryd.func32, Tryd.ntmps32
  go_wp2_with fail
  refine HW.out.mono ?_
  rintro e w1 ⟨rfl, r3⟩
  have HR := Hid.mk r3
  clear r3
  go_wp2_with fail
  go_ret2
  exact ⟨rfl, HR.out⟩

set_option maxRecDepth 100000 in
set_option maxHeartbeats 800000 in
theorem w_Neg_no (a : ByteArray) (w : World) (ha : a.size ≤ 4294967296) (hbad : Pl.formed a.data.toList = false) :
    Calls Tryd.prog 16 #[.string a] w fun e w' => Shape w w' e := by
  have HW := Hid.mk (fun (fn : Nat) => w_one_bad a fn w ha hbad)
  clear hbad
  go_enter Tryd.func16, Tryd.ntmps16
  go_wp2_with fail
  refine (HW.out _).mono ?_
  rintro e w1 ⟨rfl, r3⟩
  have HR := Hid.mk r3
  clear r3
  go_wp2_with fail
  go_ret2
  exact ⟨rfl, HR.out⟩

set_option maxRecDepth 100000 in
set_option maxHeartbeats 800000 in
theorem w_Neg (a : ByteArray) (w : World) (ha : a.size ≤ 4294967296) (fa : Pl.formed a.data.toList = true) (htab : Tab w) :
    Calls Tryd.prog 16 #[.string a] w fun e w' => Ans w w' e (-(Pl.ival a.data.toList)) := by
  have HW := Hid.mk (w_one_negated a w ha fa htab)
  clear fa htab
  go_enter Tryd.func16, Tryd.ntmps16
  go_wp2_with fail
  refine HW.out.mono ?_
  rintro e w1 ⟨r, rfl, r1, r2, r3⟩
  have HR := Hid.mk (And.intro r1 (And.intro r2 r3))
  clear r1 r2 r3
  go_wp2_with fail
  go_ret2
  exact ⟨r, rfl, HR.out.1, HR.out.2.1, HR.out.2.2⟩

set_option maxRecDepth 100000 in
set_option maxHeartbeats 800000 in
theorem w_rRoot_no (a : ByteArray) (w : World) (ha : a.size ≤ 4294967296) (fa : Pl.formed a.data.toList = false) :
    Calls Tryd.prog 22 #[.string a] w fun e w' => Shape w w' e := by
  have HF := Hid.mk fa
  have hm : a.size ≤ maxLen := by unfold maxLen; omega
  clear fa
  go_enter Tryd.func22, Tryd.ntmps22
  go_wp2_with fail
  refine (w_rFormed a _ hm).mono ?_
  rintro e w0 ⟨rfl, hw⟩
  obtain rfl := hw.symm
  rw [HF.out]
  go_wp2_with fail
  go_ret2
  exact ⟨rfl, Below.refl _ _⟩

set_option maxRecDepth 100000 in
set_option maxHeartbeats 800000 in
theorem w_rRoot_neg (a : ByteArray) (w : World) (ha : a.size ≤ 4294967296) (fa : Pl.formed a.data.toList = true) (hn : Pl.neg a.data.toList = true) :
    Calls Tryd.prog 22 #[.string a] w fun e w' => e = .returned (.tuple #[.string ⟨#[]⟩, .int .i64 11]) ∧ Below w.heap.size w w' := by
  have HF := Hid.mk fa
  have hm : a.size ≤ maxLen := by unfold maxLen; omega
  have hp0 : 0 < a.size := Nat.lt_of_le_of_lt (Nat.zero_le _) (r_formed_size fa 1 (by rw [hn]; rfl))
  have h45 : (((a[0].toNat : Nat) : Int) == 45) = true := by
    have := Pl.neg_of a hp0
    rw [hn] at this
    simp at this ⊢
    omega
  clear fa hn
  go_enter Tryd.func22, Tryd.ntmps22
  go_wp2_with fail
  refine (w_rFormed a _ hm).mono ?_
  rintro e w0 ⟨rfl, hw⟩
  obtain rfl := hw.symm
  rw [HF.out]
  go_wp2_with fail
  go_ret2
  exact ⟨rfl, Below.refl _ _⟩

set_option maxHeartbeats 400000 in
theorem w_same (a b : ByteArray) (x y : Int) (w : World) (hab : a = b) (hxy : x = y) :
    Calls Tryd.prog 18 #[.string a, .int .i64 x, .string b, .int .i64 y] w fun e w' => e = .returned (.bool true) ∧ w' = w := by
  subst hab hxy
  have h1 : (a.toList == a.toList) = true := by simp
  have h2 : (x == x) = true := by simp
  go_enter Tryd.func18, Tryd.ntmps18
  go_wp2_with fail
  go_ret
  exact ⟨rfl, rfl⟩

/-- a number has a text -/
theorem text_exists (z : Int) : ∃ r : ByteArray, Pl.formed r.data.toList = true ∧ Pl.ival r.data.toList = z := by
  rcases (show z = 0 ∨ 0 < z.natAbs by omega) with h | h
  · exact ⟨⟨#[48]⟩, by decide, by rw [h]; decide⟩
  · obtain ⟨h1, h2, h3⟩ := dec_props z.natAbs
    have hl : Lets (decide (z < 0)) ((if decide (z < 0) then [45] else []) ++ Lib.decDigits z.natAbs) z.natAbs := ⟨_, rfl, h3 h, h2⟩
    obtain ⟨a, b⟩ := lets_formed hl
    refine ⟨⟨((if decide (z < 0) then [45] else []) ++ Lib.decDigits z.natAbs).toArray⟩, by simpa using a, ?_⟩
    have : sgn (decide (z < 0)) z.natAbs = z := by
      by_cases hz : z < 0 <;> simp [sgn, hz] <;> omega
    refine Eq.trans ?_ this
    simpa using b

theorem sqrt_exists (x : Nat) : ∃ y, y * y ≤ x ∧ x < (y + 1) * (y + 1) := by
  induction x with
  | zero => exact ⟨0, by omega, by omega⟩
  | succ x ih =>
    obtain ⟨y, h1, h2⟩ := ih
    rcases Nat.lt_or_ge (x + 1) ((y + 1) * (y + 1)) with h | h
    · exact ⟨y, by omega, h⟩
    · refine ⟨y + 1, h, ?_⟩
      have e : (y + 1 + 1) * (y + 1 + 1) = (y + 1) * (y + 1) + (y + 1) + (y + 1) + 1 := by simp only [Nat.add_mul, Nat.mul_add]; omega
      omega

theorem sq_inj {x z r : Int} (hz : 0 ≤ z) (hr : 0 ≤ r) (a1 : z * z ≤ x) (a2 : x < (z + 1) * (z + 1)) (b1 : r * r ≤ x) (b2 : x < (r + 1) * (r + 1)) : r = z := by
  have h1 : ¬ r < z := fun h => by
    have := Int.mul_le_mul (show r + 1 ≤ z by omega) (show r + 1 ≤ z by omega) (by omega) (by omega)
    omega
  have h2 : ¬ z < r := fun h => by
    have := Int.mul_le_mul (show z + 1 ≤ r by omega) (show z + 1 ≤ r by omega) (by omega) (by omega)
    omega
  omega

/-- what answers just this -/
def Says (f : Nat) (args : Array Value) (T : ByteArray) (E : Int) : Prop := ∀ u, Tab u → Calls Tryd.prog f args u fun e w' => e = .returned (.tuple #[.string T, .int .i64 E]) ∧ Below u.heap.size u w'

theorem says_ans {f : Nat} {args : Array Value} {T : ByteArray} {z : Int} (hf : Pl.formed T.data.toList = true) (hz : Pl.ival T.data.toList = z) (h : ∀ u, Tab u → Calls Tryd.prog f args u fun e w' => Ans u w' e z) : Says f args T 0 := by
  intro u hu
  refine (h u hu).mono ?_
  rintro e w' ⟨r, rfl, r1, r2, r3⟩
  exact ⟨by rw [text_inj r1 hf (by rw [r2, hz])], r3⟩

theorem says_shape {f : Nat} {args : Array Value} (h : ∀ u, Calls Tryd.prog f args u fun e w' => Shape u w' e) : Says f args ⟨#[]⟩ 1 := fun u _ => h u

theorem says_root {f : Nat} {args : Array Value} {T : ByteArray} {x z : Int} (hf : Pl.formed T.data.toList = true) (hT : Pl.ival T.data.toList = z) (hz : 0 ≤ z) (a1 : z * z ≤ x) (a2 : x < (z + 1) * (z + 1)) (h : ∀ u, Tab u → Calls Tryd.prog f args u fun e w' => AnsR u w' e x) : Says f args T 0 := by
  intro u hu
  refine (h u hu).mono ?_
  rintro e w' ⟨r, rfl, r1, r2, r3, r4, r5⟩
  exact ⟨by rw [text_inj r1 hf (by rw [hT]; exact sq_inj hz r2 a1 a2 r3 r4)], r5⟩

/-- two functions that answer alike -/
def Both (f g : Nat) (args : Array Value) : Prop := ∃ (T : ByteArray) (E : Int), (0 ≤ E ∧ E ≤ 100) ∧ Says f args T E ∧ Says g args T E

theorem both_ans {f g : Nat} {args : Array Value} {z : Int} (h1 : ∀ u, Tab u → Calls Tryd.prog f args u fun e w' => Ans u w' e z) (h2 : ∀ u, Tab u → Calls Tryd.prog g args u fun e w' => Ans u w' e z) : Both f g args := by
  obtain ⟨T, t1, t2⟩ := text_exists z
  exact ⟨T, 0, by omega, says_ans t1 t2 h1, says_ans t1 t2 h2⟩
theorem both_shape {f g : Nat} {args : Array Value} (h1 : ∀ u, Calls Tryd.prog f args u fun e w' => Shape u w' e) (h2 : ∀ u, Calls Tryd.prog g args u fun e w' => Shape u w' e) : Both f g args :=
  ⟨⟨#[]⟩, 1, by omega, says_shape h1, says_shape h2⟩

theorem both_Neg (a : ByteArray) (ha : a.size ≤ 4294967296) : Both 16 17 #[.string a] := by
  cases hf : Pl.formed a.data.toList with
  | true => exact both_ans (fun u hu => w_Neg a u ha hf hu) (fun u _ => w_rNeg a u ha hf)
  | false => exact both_shape (fun u => w_Neg_no a u ha hf) (fun u => w_rNeg_no a u ha hf)
theorem both_Abs (a : ByteArray) (ha : a.size ≤ 4294967296) : Both 19 20 #[.string a] := by
  cases hf : Pl.formed a.data.toList with
  | true => exact both_ans (fun u hu => by have := w_Abs a u ha hf hu; rw [natAbs_ival] at this; exact this) (fun u _ => w_rAbs a u ha hf)
  | false => exact both_shape (fun u => w_Abs_no a u ha hf) (fun u => w_rAbs_no a u ha hf)
theorem both_Root (a : ByteArray) (ha : a.size ≤ 4294967296) : Both 21 22 #[.string a] := by
  cases hf : Pl.formed a.data.toList with
  | true =>
    cases hn : Pl.neg a.data.toList with
    | true => exact ⟨⟨#[]⟩, 11, by omega, fun u _ => w_Root_neg a u ha hf hn, fun u _ => w_rRoot_neg a u ha hf hn⟩
    | false =>
      have hv : Pl.ival a.data.toList = ((Pl.dvl (Pl.body a.data.toList) : Nat) : Int) := by unfold Pl.ival; rw [hn]; rfl
      obtain ⟨y, y1, y2⟩ := sqrt_exists (Pl.dvl (Pl.body a.data.toList))
      obtain ⟨T, t1, t2⟩ := text_exists (y : Int)
      have z1 : (y : Int) * (y : Int) ≤ Pl.ival a.data.toList := by rw [hv]; exact_mod_cast y1
      have z2 : Pl.ival a.data.toList < ((y : Int) + 1) * ((y : Int) + 1) := by rw [hv]; exact_mod_cast y2
      exact ⟨T, 0, by omega, says_root t1 t2 (by omega) z1 z2 (fun u hu => w_Root a u ha hf hn hu), says_root t1 t2 (by omega) z1 z2 (fun u _ => w_rRoot a u ha hf hn)⟩
  | false => exact both_shape (fun u => w_Root_bad a u ha hf) (fun u => w_rRoot_no a u ha hf)

theorem both_Add (a b : ByteArray) (ha : a.size ≤ 4294967296) (hb : b.size ≤ 4294967296) : Both 24 25 #[.string a, .string b] := by
  cases hf : (Pl.formed a.data.toList && Pl.formed b.data.toList) with
  | true =>
    obtain ⟨fa, fb⟩ := (Bool.and_eq_true _ _).mp hf
    exact both_ans (fun u hu => w_Add a b u ha hb fa fb hu) (fun u _ => w_rAdd a b u ha hb fa fb)
  | false => exact both_shape (fun u => w_Add_no a b u ha hb hf) (fun u => w_rAdd_no a b u ha hb hf)
theorem both_Sub (a b : ByteArray) (ha : a.size ≤ 4294967296) (hb : b.size ≤ 4294967296) : Both 26 27 #[.string a, .string b] := by
  cases hf : (Pl.formed a.data.toList && Pl.formed b.data.toList) with
  | true =>
    obtain ⟨fa, fb⟩ := (Bool.and_eq_true _ _).mp hf
    exact both_ans (fun u hu => w_Sub a b u ha hb fa fb hu) (fun u _ => w_rSub a b u ha hb fa fb)
  | false => exact both_shape (fun u => w_Sub_no a b u ha hb hf) (fun u => w_rSub_no a b u ha hb hf)
theorem both_Mul (a b : ByteArray) (ha : a.size ≤ 4294967296) (hb : b.size ≤ 4294967296) : Both 28 29 #[.string a, .string b] := by
  cases hf : (Pl.formed a.data.toList && Pl.formed b.data.toList) with
  | true =>
    obtain ⟨fa, fb⟩ := (Bool.and_eq_true _ _).mp hf
    exact both_ans (fun u hu => w_Mul a b u ha hb fa fb hu) (fun u _ => w_rMul a b u ha hb fa fb)
  | false => exact both_shape (fun u => w_Mul_no a b u ha hb hf) (fun u => w_rMul_no a b u ha hb hf)
theorem both_Div (a b : ByteArray) (ha : a.size ≤ 4294967296) (hb : b.size ≤ 4294967296) : Both 30 31 #[.string a, .string b] := by
  cases hf : (Pl.formed a.data.toList && Pl.formed b.data.toList) with
  | true =>
    obtain ⟨fa, fb⟩ := (Bool.and_eq_true _ _).mp hf
    by_cases h0 : b.data.toList = [48]
    · exact ⟨⟨#[]⟩, 10, by omega, fun u _ => w_Div_zero a b u ha fa (by rw [Lib.toList_data]; exact h0), fun u _ => w_rDiv_zero a b u ha hb fa h0⟩
    · exact both_ans (fun u hu => w_Div a b u ha hb fa fb h0 hu) (fun u _ => w_rDiv a b u ha hb fa fb h0)
  | false => exact both_shape (fun u => w_Div_no a b u ha hb hf) (fun u => w_rDiv_no a b u ha hb hf)
theorem both_Mod (a b : ByteArray) (ha : a.size ≤ 4294967296) (hb : b.size ≤ 4294967296) : Both 32 33 #[.string a, .string b] := by
  cases hf : (Pl.formed a.data.toList && Pl.formed b.data.toList) with
  | true =>
    obtain ⟨fa, fb⟩ := (Bool.and_eq_true _ _).mp hf
    by_cases h0 : b.data.toList = [48]
    · exact ⟨⟨#[]⟩, 10, by omega, fun u _ => w_Mod_zero a b u ha fa (by rw [Lib.toList_data]; exact h0), fun u _ => w_rMod_zero a b u ha hb fa h0⟩
    · exact both_ans (fun u hu => w_Mod a b u ha hb fa fb h0 hu) (fun u _ => w_rMod a b u ha hb fa fb h0)
  | false => exact both_shape (fun u => w_Mod_no a b u ha hb hf) (fun u => w_rMod_no a b u ha hb hf)
end Go.Proofs.YtdegoefedkidcaaDoor
