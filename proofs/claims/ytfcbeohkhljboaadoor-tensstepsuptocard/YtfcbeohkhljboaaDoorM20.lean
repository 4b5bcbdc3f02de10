import Derived.Test.YtfcbeohkhljboaaDoorM18
import Derived.Test.YtfcbeohkhljboaaDoorM19
namespace Go.Proofs.YtfcbeohkhljboaaDoor
open Go.RowKit
set_option linter.unusedVariables false
set_option linter.unusedSimpArgs false

set_option maxHeartbeats 6400000 in
theorem w_product_long (N : Nat) (IH : Hid (∀ M, M < N → ∀ (va vb : Value) (xs ys : List Nat) (w : World), xs.length + ys.length ≤ M → M ≤ 274877906944 → Nums .u64 w va xs → Nums .u64 w vb ys → Pl.dig 1000000000 xs → Pl.dig 1000000000 ys →
      Calls Tryd.prog 83 #[va, vb] w fun e w' => ∃ v zs, e = .returned v ∧ Fresh w w' v zs ∧ Pl.val 1000000000 zs = Pl.val 1000000000 xs * Pl.val 1000000000 ys))
    (va vb : Value) (xs ys : List Nat) (w : World) (hN : xs.length + ys.length ≤ N) (hNb : N ≤ 274877906944) (ha : Nums .u64 w va xs) (hb : Nums .u64 w vb ys) (hx : Pl.dig 1000000000 xs) (hy : Pl.dig 1000000000 ys) (hcase : ys.length ≤ xs.length) :
    Calls Tryd.prog 83 #[va, vb] w fun e w' => ∃ v zs, e = .returned v ∧ Fresh w w' v zs ∧ Pl.val 1000000000 zs = Pl.val 1000000000 xs * Pl.val 1000000000 ys := by
  have HA := Hid.mk ha
  have HB := Hid.mk hb
  obtain ⟨ao, capa, rfl, q1, q2⟩ := ha
  clear q1 q2
  obtain ⟨bo, capb, rfl, q1, q2⟩ := hb
  clear q1 q2
  · skip
    have hlt0 : ¬ (xs.length : Int) < (ys.length : Int) := by omega
    by_cases hfew : ys.length < 40
    · have hfew1 : (ys.length : Int) < 40 := by omega
      go_enter Tryd.func83, Tryd.ntmps83
      go_wp2_with fail
      refine (w_productByRows _ _ xs ys w HA.out HB.out (by omega) (by omega) hx hy).mono ?_
      rintro e w1 ⟨v, zs, rfl, hf, hv⟩
      have HF := Hid.mk hf
      have HV := Hid.mk hv
      obtain ⟨ao', cap', hvv, q1, q2⟩ := hf.1
      clear q1 q2 hf hv
      subst hvv
      go_wp2_with fail
      go_ret
      exact ⟨_, _, rfl, HF.out, HV.out⟩
    · have hfew1 : ¬ (ys.length : Int) < 40 := by omega
      obtain ⟨h, hh⟩ : ∃ h, h = (xs.length + 1) / 2 := ⟨_, rfl⟩
      have hhi : ((xs.length : Int) + 1) / 2 = (h : Int) := by omega
      have hh1 : 0 < h ∧ h < xs.length ∧ 2 * h ≤ xs.length + 1 ∧ xs.length ≤ 2 * h ∧ 20 ≤ h := by omega
      clear hh
      obtain ⟨hh0, hhl, hh2, hh3, hh20⟩ := hh1
      have hmk := fun (u : World) => run_make_row' (xs.length + ys.length) ((xs.length : Int) + (ys.length : Int)) (by simp) (by omega) u
      have b1 : (h : Int) ≤ (xs.length : Int) + (ys.length : Int) := by omega
      have b2 : (h : Int) < (xs.length : Int) := by omega
      go_enter Tryd.func83, Tryd.ntmps83
      go_wp2_with fail
      refine (w_cut _ xs h w HA.out (by omega) hh0 hhl).mono ?_
      rintro e w1 ⟨vl, vh, rfl, hb1, hnl, hnh, o1, o2⟩
      clear o1 o2
      have hdl := Pl.dig_trim (Pl.dig_take h hx)
      have hdh := Pl.dig_drop h hx
      have hll : (Pl.trimN (xs.take h)).length ≤ h := Nat.le_trans (Pl.trim_len _) (by simp; omega)
      have hlh : (xs.drop h).length ≤ xs.length - h := by simp
      obtain ⟨XL, hXL⟩ : ∃ XL, Pl.trimN (xs.take h) = XL := ⟨_, rfl⟩
      obtain ⟨XH, hXH⟩ : ∃ XH, xs.drop h = XH := ⟨_, rfl⟩
      rw [hXL] at hdl hll hnl
      rw [hXH] at hdh hlh hnh
      have HXL := Hid.mk hXL
      have HXH := Hid.mk hXH
      clear hXL hXH
      have HNL := Hid.mk (hnl.keep hb1)
      have HNH := Hid.mk (hnh.keep hb1)
      have HS1 := Hid.mk (HB.out.keep hb1)
      have HAl := Hid.mk ((Below.refl w1.heap.size w1).alloc (Nat.le_refl _) (zrow (xs.length + ys.length)))
      have HRow0 := Hid.mk (row_new w1 (xs.length + ys.length))
      have HB1 := Hid.mk hb1
      obtain ⟨lo, lc, hvl, q1, q2⟩ := hnl
      clear q1 q2
      obtain ⟨ho, hc, hvh, q1, q2⟩ := hnh
      clear q1 q2 hb1
      subst hvl
      subst hvh
      by_cases htwo : ys.length ≤ h
      · have htwo1 : (ys.length : Int) ≤ (h : Int) := by omega
        go_wp2_with fail
        refine (IH.out (XL.length + ys.length) (by omega) _ _ XL ys _ (Nat.le_refl _) (by omega) (HNL.out.keep HAl.out) (HS1.out.keep HAl.out) hdl hy).mono ?_
        rintro e w2 ⟨v2, z2, rfl, hf2, hv2⟩
        have hz2 : z2.length ≤ (xs.length + ys.length) := Pl.mul_len (B := 1000000000) (by decide) hdl hy hf2.2.2.1 hv2 (by omega)
        have hrow2 := HRow0.out.keep hf2.2.2.2.1
        obtain ⟨w3, hcp, HR3, HG3⟩ := run_copy_nums w2 w1.heap.size (xs.length + ys.length) (xs.length + ys.length) v2 _ z2 hrow2 (by simp) hf2.1 hz2
        have HBC : Hid (Below w1.heap.size w1 w3) := (HAl.out.trans (hf2.2.2.2.1.mono (by have := HAl.out.size; omega))).trans (below_grown HG3.out (Nat.le_refl _) (by have := HAl.out.size; have := hf2.2.2.2.1.size; omega))
        have HRl : Hid ((z2 ++ (List.replicate (xs.length + ys.length) 0).drop z2.length).length = (xs.length + ys.length)) := by show _ = _; simp; omega
        have HRd : Hid (Pl.dig 1000000000 (z2 ++ (List.replicate (xs.length + ys.length) 0).drop z2.length)) := Pl.dig_append.2 ⟨hf2.2.1, Pl.dig_drop _ (dig_zeros _ _ (by decide))⟩
        have HRv : Hid (Pl.val 1000000000 (z2 ++ (List.replicate (xs.length + ys.length) 0).drop z2.length) = Pl.val 1000000000 z2) := by show _ = _; rw [Pl.val_append, List.drop_replicate, val_zeros]; simp
        generalize z2 ++ (List.replicate (xs.length + ys.length) 0).drop z2.length = R at *
        have HV2 := Hid.mk hv2
        obtain ⟨ao2, cap2, hvv, q1, q2⟩ := hf2.1
        clear q1 q2 hz2 hrow2 hv2 hf2
        subst hvv
        go_wp2_with fail
        refine (IH.out (XH.length + ys.length) (by omega) _ _ XH ys _ (Nat.le_refl _) (by omega) (HNH.out.keep HBC.out) (HS1.out.keep HBC.out) hdh hy).mono ?_
        rintro e w4 ⟨v4, z4, rfl, hf4, hv4⟩
        have hz4 : z4.length ≤ (xs.length + ys.length) := Pl.mul_len (B := 1000000000) (by decide) hdh hy hf4.2.2.1 hv4 (by omega)
        have hoff4 : v4.ownBlock ≠ some w1.heap.size := fun e => by
          have := hf4.2.2.2.2 _ e
          have := HR3.out.lt
          omega
        have hRow4 := HR3.out.keep hf4.2.2.2.1
        have HRow4 : Hid (Row w4 w1.heap.size (R.take h ++ R.drop h ++ [])) := by show Row _ _ _; rw [List.append_nil, List.take_append_drop]; exact hRow4
        have HF4 := Hid.mk hf4
        have HV4 := Hid.mk hv4
        have HZ4 := Hid.mk hz4
        have HOff4 := Hid.mk hoff4
        obtain ⟨ao4, cap4, hvv, q1, q2⟩ := hf4.1
        clear q1 q2 hoff4 hRow4 hf4 hv4 hz4
        subst hvv
        go_wp2_with fail
        refine (w_addTo w1.heap.size h ((xs.length + ys.length) - h) ((xs.length + ys.length) - h) _ (R.take h) (R.drop h) [] z4 w4 HRow4.out (by have := HRl.out; simp; omega) (by have := HRl.out; simp; omega) (Nat.le_refl _) (by omega) (Pl.dig_drop h HRd.out) HF4.out.2.1 HF4.out.1 HOff4.out (by have := HZ4.out; omega)).mono ?_
        rintro e w5 ⟨rfl, hadd⟩
        obtain ⟨hg5, rs', hl5, hd5, hrow5, hv5⟩ := hadd
        have HFin := Hid.mk (Pl.two_end (B := 1000000000) (by decide) hx hy (by omega) HRl.out HRv.out (by rw [HXL.out]; exact HV2.out) (by rw [HXH.out]; exact HV4.out) hv5)
        have HRowE : Hid (Row w5 w1.heap.size (R.take h ++ rs')) := by have := hrow5; rw [List.append_nil] at this; exact this
        have HBE : Hid (Below w.heap.size w w5) := by
          have a1 := HB1.out.trans (HBC.out.mono HB1.out.size)
          have a2 := a1.trans (HF4.out.2.2.2.1.mono (by have := a1.size; omega))
          exact a2.trans (below_grown hg5 HB1.out.size (by have := a2.size; omega))
        have HDE := Hid.mk (Pl.dig_append.2 ⟨Pl.dig_take h HRd.out, hd5⟩)
        have HLE : Hid ((R.take h ++ rs').length = (xs.length + ys.length)) := by have := HRl.out; show _ = _; simp; omega
        generalize R.take h ++ rs' = FL at *
        clear hrow5 hv5 hd5 hl5 hg5
        go_wp2_with fail
        refine (w_tTrim _ FL _ (HRowE.out.nums (pre := []) (post := []) (cap := xs.length + ys.length) (by simp) rfl HLE.out (Nat.le_refl _)) (by rw [HLE.out]; unfold maxLen; omega)).mono ?_
        rintro e wz ⟨v', rfl, rfl, hn', ho'⟩
        have HF := Hid.mk (fresh_of HBE.out HB1.out.size HDE.out hn' ho' rfl)
        have HVal : Hid (Pl.val 1000000000 (Pl.trimN FL) = Pl.val 1000000000 xs * Pl.val 1000000000 ys) := (Pl.val_trim _ _).trans HFin.out
        obtain ⟨ao', cap', hvv, q1, q2⟩ := hn'
        clear q1 q2 ho'
        subst hvv
        go_wp2_with fail
        go_ret
        exact ⟨_, _, rfl, HF.out, HVal.out⟩
      · have htwo1 : ¬ (ys.length : Int) ≤ (h : Int) := by omega
        have b3 : (h : Int) < (ys.length : Int) := by omega
        have b4 : 2 * (h : Int) ≤ (xs.length : Int) + (ys.length : Int) := by omega
        have b5 : 2 * (h : Int) < (xs.length : Int) + (ys.length : Int) := by omega
        go_wp2_with fail
        refine (w_cut _ ys h _ (HS1.out.keep HAl.out) (by omega) hh0 (by omega)).mono ?_
        rintro e w2 ⟨vsl, vsh, rfl, hb2, hnsl, hnsh, o1, o2⟩
        have hsl := Pl.dig_trim (Pl.dig_take h hy)
        have hsh := Pl.dig_drop h hy
        have hlls : (Pl.trimN (ys.take h)).length ≤ h := Nat.le_trans (Pl.trim_len _) (by simp; omega)
        have hlhs : (ys.drop h).length ≤ ys.length - h := by simp
        obtain ⟨YL, hYL⟩ : ∃ YL, Pl.trimN (ys.take h) = YL := ⟨_, rfl⟩
        obtain ⟨YH, hYH⟩ : ∃ YH, ys.drop h = YH := ⟨_, rfl⟩
        rw [hYL] at hsl hlls hnsl
        rw [hYH] at hsh hlhs hnsh
        have HYL := Hid.mk hYL
        have HYH := Hid.mk hYH
        clear hYL hYH
        have HNSL := Hid.mk (hnsl.keep hb2)
        have HNSH := Hid.mk (hnsh.keep hb2)
        have HNL2 := Hid.mk ((HNL.out.keep HAl.out).keep hb2)
        have HNH2 := Hid.mk ((HNH.out.keep HAl.out).keep hb2)
        have HRow2 := Hid.mk (HRow0.out.keep hb2)
        have HBC2 : Hid (Below w1.heap.size w1 w2) := HAl.out.trans (hb2.mono HAl.out.size)
        have HOL := Hid.mk (show (Value.slice lo XL.length lc).ownBlock ≠ some w1.heap.size from HNL.out.older (Nat.le_refl _))
        have HOH := Hid.mk (show (Value.slice ho XH.length hc).ownBlock ≠ some w1.heap.size from HNH.out.older (Nat.le_refl _))
        have HOSL := Hid.mk (show vsl.ownBlock ≠ some w1.heap.size by rw [o1]; exact HS1.out.older (Nat.le_refl _))
        have HOSH := Hid.mk (show vsh.ownBlock ≠ some w1.heap.size by rw [o2]; exact HS1.out.older (Nat.le_refl _))
        obtain ⟨lo2, lc2, hvl, q1, q2⟩ := hnsl
        clear q1 q2
        obtain ⟨ho2, hc2, hvh, q1, q2⟩ := hnsh
        clear q1 q2 hb2 o1 o2
        subst hvl
        subst hvh
        go_wp2_with fail
        refine (IH.out (XL.length + YL.length) (by omega) _ _ XL YL _ (Nat.le_refl _) (by omega) HNL2.out HNSL.out hdl hsl).mono ?_
        rintro e w3 ⟨v3, zl, rfl, hf3, hv3⟩
        have HF3 := Hid.mk hf3
        have HV3 := Hid.mk hv3
        have HLl : Hid (zl.length ≤ 2 * h) := Pl.mul_len (B := 1000000000) (by decide) hdl hsl hf3.2.2.1 hv3 (by omega)
        have HO3 : Hid (v3.ownBlock ≠ some w1.heap.size) := fun e => by have := hf3.2.2.2.2 _ e; have := HRow2.out.lt; omega
        have HG23 : Hid (w2.grownBy w3 (some w1.heap.size)) := grown_below hf3.2.2.2.1
        have HRow3 := Hid.mk (HRow2.out.keep hf3.2.2.2.1)
        have HBC3 : Hid (Below w1.heap.size w1 w3) := HBC2.out.trans (hf3.2.2.2.1.mono HBC2.out.size)
        obtain ⟨ao3, cap3, hvv, q1, q2⟩ := hf3.1
        clear q1 q2 hf3 hv3
        subst hvv
        go_wp2_with fail
        refine (IH.out (XH.length + YH.length) (by omega) _ _ XH YH _ (Nat.le_refl _) (by omega) (HNH2.out.off HOH.out HG23.out) (HNSH.out.off HOSH.out HG23.out) hdh hsh).mono ?_
        rintro e w4 ⟨v4, zh, rfl, hf4, hv4⟩
        have HF4 := Hid.mk hf4
        have HV4 := Hid.mk hv4
        have HLh : Hid (zh.length ≤ (xs.length + ys.length) - 2 * h) := Pl.mul_len (B := 1000000000) (by decide) hdh hsh hf4.2.2.1 hv4 (by omega)
        have HO4 : Hid (v4.ownBlock ≠ some w1.heap.size) := fun e => by have := hf4.2.2.2.2 _ e; have := HRow3.out.lt; omega
        have HG34 : Hid (w3.grownBy w4 (some w1.heap.size)) := grown_below hf4.2.2.2.1
        have hrow4 := HRow3.out.keep hf4.2.2.2.1
        have HBC4 : Hid (Below w1.heap.size w1 w4) := HBC3.out.trans (hf4.2.2.2.1.mono HBC3.out.size)
        obtain ⟨w5, hcp, HR5, HG45⟩ := run_copy_nums w4 w1.heap.size (xs.length + ys.length) (xs.length + ys.length) _ _ zl hrow4 (by simp) (HF3.out.1.off HO3.out HG34.out) (by have := HLl.out; omega)
        have HRl : Hid ((zl ++ (List.replicate (xs.length + ys.length) 0).drop zl.length).length = (xs.length + ys.length)) := by have := HLl.out; show _ = _; simp; omega
        have HRd : Hid (Pl.dig 1000000000 (zl ++ (List.replicate (xs.length + ys.length) 0).drop zl.length)) := Pl.dig_append.2 ⟨HF3.out.2.1, Pl.dig_drop _ (dig_zeros _ _ (by decide))⟩
        have HRv : Hid (Pl.val 1000000000 (zl ++ (List.replicate (xs.length + ys.length) 0).drop zl.length) = Pl.val 1000000000 zl) := by show _ = _; rw [Pl.val_append, List.drop_replicate, val_zeros]; simp
        generalize zl ++ (List.replicate (xs.length + ys.length) 0).drop zl.length = R at *
        have HRow5 : Hid (Row w5 w1.heap.size (R.take (2 * h) ++ R.drop (2 * h) ++ [])) := by show Row _ _ _; rw [List.append_nil, List.take_append_drop]; exact HR5.out
        have HG35 : Hid (w3.grownBy w5 (some w1.heap.size)) := grown_trans HG34.out HG45.out
        have HG25 : Hid (w2.grownBy w5 (some w1.heap.size)) := grown_trans HG23.out HG35.out
        obtain ⟨ao4, cap4, hvv, q1, q2⟩ := hf4.1
        clear q1 q2 hf4 hv4 hrow4
        subst hvv
        go_wp2_with fail
        refine (w_addTo w1.heap.size (2 * h) ((xs.length + ys.length) - 2 * h) ((xs.length + ys.length) - 2 * h) _ (R.take (2 * h)) (R.drop (2 * h)) [] zh w5 HRow5.out (by have := HRl.out; simp; omega) (by have := HRl.out; simp; omega) (Nat.le_refl _) (by omega) (Pl.dig_drop _ HRd.out) HF4.out.2.1 (HF4.out.1.off HO4.out HG45.out) HO4.out (by have := HLh.out; omega)).mono ?_
        rintro e w6 ⟨rfl, hadd⟩
        obtain ⟨hg56, rs', hl6, hd6, hrow6, hv6⟩ := hadd
        have HR2v := Hid.mk (Pl.three_lay (B := 1000000000) (by decide) hx hy (by omega) (by omega) HRl.out HRv.out (by rw [HXL.out, HYL.out]; exact HV3.out) (by rw [HXH.out, HYH.out]; exact HV4.out) hv6 (by omega))
        have hRow6 : Row w6 w1.heap.size (R.take (2 * h) ++ rs') := by have := hrow6; rw [List.append_nil] at this; exact this
        have HR2d := Hid.mk (Pl.dig_append.2 ⟨Pl.dig_take (2 * h) HRd.out, hd6⟩)
        have HR2l : Hid ((R.take (2 * h) ++ rs').length = (xs.length + ys.length)) := by have := HRl.out; show _ = _; simp; omega
        generalize R.take (2 * h) ++ rs' = R2 at *
        have HRow6 := Hid.mk hRow6
        have HG36 : Hid (w3.grownBy w6 (some w1.heap.size)) := grown_trans HG35.out hg56
        have HG26 : Hid (w2.grownBy w6 (some w1.heap.size)) := grown_trans HG25.out hg56
        have HG46 : Hid (w4.grownBy w6 (some w1.heap.size)) := grown_trans HG45.out hg56
        clear hrow6 hRow6 hv6 hd6 hl6 hg56 HRow5 HR5 HRv HRd HRl HG25 HG35 HG45
        go_wp2_with fail
        refine (w_sum _ _ XL XH w6 (HNL2.out.off HOL.out HG26.out) (HNH2.out.off HOH.out HG26.out) (by omega) (by omega) hdl hdh).mono ?_
        rintro e w7 ⟨v7, s1, rfl, hf7, hv7⟩
        have HF7 := Hid.mk hf7
        have HV7 := Hid.mk hv7
        have HL7 : Hid (s1.length ≤ h + 1) := Pl.sum_len (B := 1000000000) (by decide) hdl hdh hf7.2.2.1 hv7 (by omega) (by omega)
        have HG67 : Hid (w6.grownBy w7 (some w1.heap.size)) := grown_below hf7.2.2.2.1
        have HRow7 := Hid.mk (HRow6.out.keep hf7.2.2.2.1)
        obtain ⟨ao7, cap7, hvv, q1, q2⟩ := hf7.1
        clear q1 q2 hf7 hv7
        subst hvv
        go_wp2_with fail
        refine (w_sum _ _ YL YH w7 (HNSL.out.off HOSL.out (grown_trans HG26.out HG67.out)) (HNSH.out.off HOSH.out (grown_trans HG26.out HG67.out)) (by omega) (by omega) hsl hsh).mono ?_
        rintro e w8 ⟨v8, s2, rfl, hf8, hv8⟩
        have HF8 := Hid.mk hf8
        have HV8 := Hid.mk hv8
        have HL8 : Hid (s2.length ≤ h + 1) := Pl.sum_len (B := 1000000000) (by decide) hsl hsh hf8.2.2.1 hv8 (by omega) (by omega)
        have HG68 : Hid (w6.grownBy w8 (some w1.heap.size)) := grown_trans HG67.out (grown_below hf8.2.2.2.1)
        have HRow8 := Hid.mk (HRow7.out.keep hf8.2.2.2.1)
        have HN7 := Hid.mk (HF7.out.1.keep hf8.2.2.2.1)
        obtain ⟨ao8, cap8, hvv, q1, q2⟩ := hf8.1
        clear q1 q2 hf8 hv8
        subst hvv
        go_wp2_with fail
        refine (IH.out (s1.length + s2.length) (by have := HL7.out; have := HL8.out; omega) _ _ s1 s2 _ (Nat.le_refl _) (by have := HL7.out; have := HL8.out; omega) HN7.out HF8.out.1 HF7.out.2.1 HF8.out.2.1).mono ?_
        rintro e w9 ⟨v9, m, rfl, hf9, hv9⟩
        have HF9 := Hid.mk hf9
        have HV9 : Hid (Pl.val 1000000000 m = (Pl.val 1000000000 XL + Pl.val 1000000000 XH) * (Pl.val 1000000000 YL + Pl.val 1000000000 YH)) := by show _ = _; rw [hv9, HV7.out, HV8.out]
        have HL9 : Hid (m.length ≤ 2 * h + 2) := Pl.mul_len (B := 1000000000) (by decide) HF7.out.2.1 HF8.out.2.1 hf9.2.2.1 hv9 (by have := HL7.out; have := HL8.out; omega)
        have HO9 : Hid (v9.ownBlock ≠ some w1.heap.size) := fun e => by have := hf9.2.2.2.2 _ e; have := HRow8.out.lt; omega
        have HG69 : Hid (w6.grownBy w9 (some w1.heap.size)) := grown_trans HG68.out (grown_below hf9.2.2.2.1)
        have HRow9 : Hid (Row w9 w1.heap.size (R2.take h ++ R2.drop h ++ [])) := by show Row _ _ _; rw [List.append_nil, List.take_append_drop]; exact HRow8.out.keep hf9.2.2.2.1
        have HG39 : Hid (w3.grownBy w9 (some w1.heap.size)) := grown_trans HG36.out HG69.out
        have HG49 : Hid (w4.grownBy w9 (some w1.heap.size)) := grown_trans HG46.out HG69.out
        obtain ⟨ao9, cap9, hvv, q1, q2⟩ := hf9.1
        clear q1 q2 hf9 hv9
        subst hvv
        go_wp2_with fail
        refine (w_addTo w1.heap.size h ((xs.length + ys.length) - h) ((xs.length + ys.length) - h) _ (R2.take h) (R2.drop h) [] m w9 HRow9.out (by have := HR2l.out; simp; omega) (by have := HR2l.out; simp; omega) (Nat.le_refl _) (by omega) (Pl.dig_drop _ HR2d.out) HF9.out.2.1 HF9.out.1 HO9.out (by have := HL9.out; omega)).mono ?_
        rintro e w10 ⟨rfl, hadd⟩
        obtain ⟨hg910, U2, hlU2, hdU2, hrow10, hvU2⟩ := hadd
        have HRow10 := Hid.mk hrow10
        have HVU2 := Hid.mk hvU2
        have HG310 : Hid (w3.grownBy w10 (some w1.heap.size)) := grown_trans HG39.out hg910
        have HG410 : Hid (w4.grownBy w10 (some w1.heap.size)) := grown_trans HG49.out hg910
        clear hrow10 hvU2 hg910
        go_wp2_with fail
        refine (w_takeFrom w1.heap.size h ((xs.length + ys.length) - h) ((xs.length + ys.length) - h) _ 1 (R2.take h) U2 [] zl w10 HRow10.out (by have := HR2l.out; simp; omega) hlU2 (Nat.le_refl _) (by omega) hdU2 HF3.out.2.1 (HF3.out.1.off HO3.out HG310.out) HO3.out (by have := HLl.out; omega) (by decide)).mono ?_
        rintro e w11 ⟨short, rfl, htk⟩
        obtain ⟨hg1011, U3, c, hlU3, hdU3, hrow11, hvU3, hs1, hs2⟩ := htk
        have HRow11 := Hid.mk hrow11
        have HVU3 := Hid.mk hvU3
        have HG411 : Hid (w4.grownBy w11 (some w1.heap.size)) := grown_trans HG410.out hg1011
        clear hrow11 hvU3 hg1011 hs1 hs2
        go_wp2_with fail
        refine (w_takeFrom w1.heap.size h ((xs.length + ys.length) - h) ((xs.length + ys.length) - h) _ 1 (R2.take h) U3 [] zh w11 HRow11.out (by have := HR2l.out; simp; omega) hlU3 (Nat.le_refl _) (by omega) hdU3 HF4.out.2.1 (HF4.out.1.off HO4.out HG411.out) HO4.out (by have := HLh.out; omega) (by decide)).mono ?_
        rintro e w12 ⟨short2, rfl, htk⟩
        obtain ⟨hg1112, U4, c2, hlU4, hdU4, hrow12, hvU4, hs1, hs2⟩ := htk
        have HFin := Hid.mk (Pl.three_end (B := 1000000000) (by decide) hx hy (by omega) (by omega) HR2l.out HR2v.out (by rw [HXL.out, HYL.out]; exact HV3.out) (by rw [HXH.out, HYH.out]; exact HV4.out) (by rw [HXL.out, HYL.out, HXH.out, HYH.out]; exact HV9.out) HVU2.out HVU3.out hvU4 hdU4 hlU4)
        have HRowE : Hid (Row w12 w1.heap.size (R2.take h ++ U4)) := by have := hrow12; rw [List.append_nil] at this; exact this
        have HBE : Hid (Below w.heap.size w w12) := by
          have a1 := HB1.out.trans (HBC4.out.mono HB1.out.size)
          have g1 := grown_trans HG411.out hg1112
          exact a1.trans (below_grown g1 HB1.out.size (by have := a1.size; omega))
        have HDE := Hid.mk (Pl.dig_append.2 ⟨Pl.dig_take h HR2d.out, hdU4⟩)
        have HLE : Hid ((R2.take h ++ U4).length = (xs.length + ys.length)) := by have := HR2l.out; show _ = _; simp; omega
        generalize R2.take h ++ U4 = FL at *
        clear hrow12 hvU4 hs1 hs2 hg1112
        go_wp2_with fail
        refine (w_tTrim _ FL _ (HRowE.out.nums (pre := []) (post := []) (cap := xs.length + ys.length) (by simp) rfl HLE.out (Nat.le_refl _)) (by rw [HLE.out]; unfold maxLen; omega)).mono ?_
        rintro e wz ⟨v', rfl, rfl, hn', ho'⟩
        have HF := Hid.mk (fresh_of HBE.out HB1.out.size HDE.out hn' ho' rfl)
        have HVal : Hid (Pl.val 1000000000 (Pl.trimN FL) = Pl.val 1000000000 xs * Pl.val 1000000000 ys) := (Pl.val_trim _ _).trans HFin.out
        obtain ⟨ao', cap', hvv, q1, q2⟩ := hn'
        clear q1 q2 ho'
        subst hvv
        go_wp2_with fail
        go_ret
        exact ⟨_, _, rfl, HF.out, HVal.out⟩
end Go.Proofs.YtfcbeohkhljboaaDoor
namespace Go.Proofs.YtfcbeohkhljboaaDoor
open Go.RowKit
set_option linter.unusedVariables false
set_option linter.unusedSimpArgs false

set_option maxHeartbeats 6400000 in
theorem w_product_short (N : Nat) (IH : Hid (∀ M, M < N → ∀ (va vb : Value) (xs ys : List Nat) (w : World), xs.length + ys.length ≤ M → M ≤ 274877906944 → Nums .u64 w va xs → Nums .u64 w vb ys → Pl.dig 1000000000 xs → Pl.dig 1000000000 ys →
      Calls Tryd.prog 83 #[va, vb] w fun e w' => ∃ v zs, e = .returned v ∧ Fresh w w' v zs ∧ Pl.val 1000000000 zs = Pl.val 1000000000 xs * Pl.val 1000000000 ys))
    (va vb : Value) (xs ys : List Nat) (w : World) (hN : xs.length + ys.length ≤ N) (hNb : N ≤ 274877906944) (ha : Nums .u64 w va xs) (hb : Nums .u64 w vb ys) (hx : Pl.dig 1000000000 xs) (hy : Pl.dig 1000000000 ys) (hcase : xs.length < ys.length) :
    Calls Tryd.prog 83 #[va, vb] w fun e w' => ∃ v zs, e = .returned v ∧ Fresh w w' v zs ∧ Pl.val 1000000000 zs = Pl.val 1000000000 xs * Pl.val 1000000000 ys := by
  have HA := Hid.mk ha
  have HB := Hid.mk hb
  obtain ⟨ao, capa, rfl, q1, q2⟩ := ha
  clear q1 q2
  obtain ⟨bo, capb, rfl, q1, q2⟩ := hb
  clear q1 q2
  · skip
    have hlt0 : (xs.length : Int) < (ys.length : Int) := by omega
    by_cases hfew : xs.length < 40
    · have hfew1 : (xs.length : Int) < 40 := by omega
      go_enter Tryd.func83, Tryd.ntmps83
      go_wp2_with fail
      refine (w_productByRows _ _ ys xs w HB.out HA.out (by omega) (by omega) hy hx).mono ?_
      rintro e w1 ⟨v, zs, rfl, hf, hv⟩
      have HF := Hid.mk hf
      have HV := Hid.mk hv
      obtain ⟨ao', cap', hvv, q1, q2⟩ := hf.1
      clear q1 q2 hf hv
      subst hvv
      go_wp2_with fail
      go_ret
      exact ⟨_, _, rfl, HF.out, (HV.out).trans (Nat.mul_comm _ _)⟩
    · have hfew1 : ¬ (xs.length : Int) < 40 := by omega
      obtain ⟨h, hh⟩ : ∃ h, h = (ys.length + 1) / 2 := ⟨_, rfl⟩
      have hhi : ((ys.length : Int) + 1) / 2 = (h : Int) := by omega
      have hh1 : 0 < h ∧ h < ys.length ∧ 2 * h ≤ ys.length + 1 ∧ ys.length ≤ 2 * h ∧ 20 ≤ h := by omega
      clear hh
      obtain ⟨hh0, hhl, hh2, hh3, hh20⟩ := hh1
      have hmk := fun (u : World) => run_make_row' (ys.length + xs.length) ((ys.length : Int) + (xs.length : Int)) (by simp) (by omega) u
      have b1 : (h : Int) ≤ (ys.length : Int) + (xs.length : Int) := by omega
      have b2 : (h : Int) < (ys.length : Int) := by omega
      go_enter Tryd.func83, Tryd.ntmps83
      go_wp2_with fail
      refine (w_cut _ ys h w HB.out (by omega) hh0 hhl).mono ?_
      rintro e w1 ⟨vl, vh, rfl, hb1, hnl, hnh, o1, o2⟩
      clear o1 o2
      have hdl := Pl.dig_trim (Pl.dig_take h hy)
      have hdh := Pl.dig_drop h hy
      have hll : (Pl.trimN (ys.take h)).length ≤ h := Nat.le_trans (Pl.trim_len _) (by simp; omega)
      have hlh : (ys.drop h).length ≤ ys.length - h := by simp
      obtain ⟨XL, hXL⟩ : ∃ XL, Pl.trimN (ys.take h) = XL := ⟨_, rfl⟩
      obtain ⟨XH, hXH⟩ : ∃ XH, ys.drop h = XH := ⟨_, rfl⟩
      rw [hXL] at hdl hll hnl
      rw [hXH] at hdh hlh hnh
      have HXL := Hid.mk hXL
      have HXH := Hid.mk hXH
      clear hXL hXH
      have HNL := Hid.mk (hnl.keep hb1)
      have HNH := Hid.mk (hnh.keep hb1)
      have HS1 := Hid.mk (HA.out.keep hb1)
      have HAl := Hid.mk ((Below.refl w1.heap.size w1).alloc (Nat.le_refl _) (zrow (ys.length + xs.length)))
      have HRow0 := Hid.mk (row_new w1 (ys.length + xs.length))
      have HB1 := Hid.mk hb1
      obtain ⟨lo, lc, hvl, q1, q2⟩ := hnl
      clear q1 q2
      obtain ⟨ho, hc, hvh, q1, q2⟩ := hnh
      clear q1 q2 hb1
      subst hvl
      subst hvh
      by_cases htwo : xs.length ≤ h
      · have htwo1 : (xs.length : Int) ≤ (h : Int) := by omega
        go_wp2_with fail
        refine (IH.out (XL.length + xs.length) (by omega) _ _ XL xs _ (Nat.le_refl _) (by omega) (HNL.out.keep HAl.out) (HS1.out.keep HAl.out) hdl hx).mono ?_
        rintro e w2 ⟨v2, z2, rfl, hf2, hv2⟩
        have hz2 : z2.length ≤ (ys.length + xs.length) := Pl.mul_len (B := 1000000000) (by decide) hdl hx hf2.2.2.1 hv2 (by omega)
        have hrow2 := HRow0.out.keep hf2.2.2.2.1
        obtain ⟨w3, hcp, HR3, HG3⟩ := run_copy_nums w2 w1.heap.size (ys.length + xs.length) (ys.length + xs.length) v2 _ z2 hrow2 (by simp) hf2.1 hz2
        have HBC : Hid (Below w1.heap.size w1 w3) := (HAl.out.trans (hf2.2.2.2.1.mono (by have := HAl.out.size; omega))).trans (below_grown HG3.out (Nat.le_refl _) (by have := HAl.out.size; have := hf2.2.2.2.1.size; omega))
        have HRl : Hid ((z2 ++ (List.replicate (ys.length + xs.length) 0).drop z2.length).length = (ys.length + xs.length)) := by show _ = _; simp; omega
        have HRd : Hid (Pl.dig 1000000000 (z2 ++ (List.replicate (ys.length + xs.length) 0).drop z2.length)) := Pl.dig_append.2 ⟨hf2.2.1, Pl.dig_drop _ (dig_zeros _ _ (by decide))⟩
        have HRv : Hid (Pl.val 1000000000 (z2 ++ (List.replicate (ys.length + xs.length) 0).drop z2.length) = Pl.val 1000000000 z2) := by show _ = _; rw [Pl.val_append, List.drop_replicate, val_zeros]; simp
        generalize z2 ++ (List.replicate (ys.length + xs.length) 0).drop z2.length = R at *
        have HV2 := Hid.mk hv2
        obtain ⟨ao2, cap2, hvv, q1, q2⟩ := hf2.1
        clear q1 q2 hz2 hrow2 hv2 hf2
        subst hvv
        go_wp2_with fail
        refine (IH.out (XH.length + xs.length) (by omega) _ _ XH xs _ (Nat.le_refl _) (by omega) (HNH.out.keep HBC.out) (HS1.out.keep HBC.out) hdh hx).mono ?_
        rintro e w4 ⟨v4, z4, rfl, hf4, hv4⟩
        have hz4 : z4.length ≤ (ys.length + xs.length) := Pl.mul_len (B := 1000000000) (by decide) hdh hx hf4.2.2.1 hv4 (by omega)
        have hoff4 : v4.ownBlock ≠ some w1.heap.size := fun e => by
          have := hf4.2.2.2.2 _ e
          have := HR3.out.lt
          omega
        have hRow4 := HR3.out.keep hf4.2.2.2.1
        have HRow4 : Hid (Row w4 w1.heap.size (R.take h ++ R.drop h ++ [])) := by show Row _ _ _; rw [List.append_nil, List.take_append_drop]; exact hRow4
        have HF4 := Hid.mk hf4
        have HV4 := Hid.mk hv4
        have HZ4 := Hid.mk hz4
        have HOff4 := Hid.mk hoff4
        obtain ⟨ao4, cap4, hvv, q1, q2⟩ := hf4.1
        clear q1 q2 hoff4 hRow4 hf4 hv4 hz4
        subst hvv
        go_wp2_with fail
        refine (w_addTo w1.heap.size h ((ys.length + xs.length) - h) ((ys.length + xs.length) - h) _ (R.take h) (R.drop h) [] z4 w4 HRow4.out (by have := HRl.out; simp; omega) (by have := HRl.out; simp; omega) (Nat.le_refl _) (by omega) (Pl.dig_drop h HRd.out) HF4.out.2.1 HF4.out.1 HOff4.out (by have := HZ4.out; omega)).mono ?_
        rintro e w5 ⟨rfl, hadd⟩
        obtain ⟨hg5, rs', hl5, hd5, hrow5, hv5⟩ := hadd
        have HFin := Hid.mk (Pl.two_end (B := 1000000000) (by decide) hy hx (by omega) HRl.out HRv.out (by rw [HXL.out]; exact HV2.out) (by rw [HXH.out]; exact HV4.out) hv5)
        have HRowE : Hid (Row w5 w1.heap.size (R.take h ++ rs')) := by have := hrow5; rw [List.append_nil] at this; exact this
        have HBE : Hid (Below w.heap.size w w5) := by
          have a1 := HB1.out.trans (HBC.out.mono HB1.out.size)
          have a2 := a1.trans (HF4.out.2.2.2.1.mono (by have := a1.size; omega))
          exact a2.trans (below_grown hg5 HB1.out.size (by have := a2.size; omega))
        have HDE := Hid.mk (Pl.dig_append.2 ⟨Pl.dig_take h HRd.out, hd5⟩)
        have HLE : Hid ((R.take h ++ rs').length = (ys.length + xs.length)) := by have := HRl.out; show _ = _; simp; omega
        generalize R.take h ++ rs' = FL at *
        clear hrow5 hv5 hd5 hl5 hg5
        go_wp2_with fail
        refine (w_tTrim _ FL _ (HRowE.out.nums (pre := []) (post := []) (cap := ys.length + xs.length) (by simp) rfl HLE.out (Nat.le_refl _)) (by rw [HLE.out]; unfold maxLen; omega)).mono ?_
        rintro e wz ⟨v', rfl, rfl, hn', ho'⟩
        have HF := Hid.mk (fresh_of HBE.out HB1.out.size HDE.out hn' ho' rfl)
        have HVal : Hid (Pl.val 1000000000 (Pl.trimN FL) = Pl.val 1000000000 ys * Pl.val 1000000000 xs) := (Pl.val_trim _ _).trans HFin.out
        obtain ⟨ao', cap', hvv, q1, q2⟩ := hn'
        clear q1 q2 ho'
        subst hvv
        go_wp2_with fail
        go_ret
        exact ⟨_, _, rfl, HF.out, (HVal.out).trans (Nat.mul_comm _ _)⟩
      · have htwo1 : ¬ (xs.length : Int) ≤ (h : Int) := by omega
        have b3 : (h : Int) < (xs.length : Int) := by omega
        have b4 : 2 * (h : Int) ≤ (ys.length : Int) + (xs.length : Int) := by omega
        have b5 : 2 * (h : Int) < (ys.length : Int) + (xs.length : Int) := by omega
        go_wp2_with fail
        refine (w_cut _ xs h _ (HS1.out.keep HAl.out) (by omega) hh0 (by omega)).mono ?_
        rintro e w2 ⟨vsl, vsh, rfl, hb2, hnsl, hnsh, o1, o2⟩
        have hsl := Pl.dig_trim (Pl.dig_take h hx)
        have hsh := Pl.dig_drop h hx
        have hlls : (Pl.trimN (xs.take h)).length ≤ h := Nat.le_trans (Pl.trim_len _) (by simp; omega)
        have hlhs : (xs.drop h).length ≤ xs.length - h := by simp
        obtain ⟨YL, hYL⟩ : ∃ YL, Pl.trimN (xs.take h) = YL := ⟨_, rfl⟩
        obtain ⟨YH, hYH⟩ : ∃ YH, xs.drop h = YH := ⟨_, rfl⟩
        rw [hYL] at hsl hlls hnsl
        rw [hYH] at hsh hlhs hnsh
        have HYL := Hid.mk hYL
        have HYH := Hid.mk hYH
        clear hYL hYH
        have HNSL := Hid.mk (hnsl.keep hb2)
        have HNSH := Hid.mk (hnsh.keep hb2)
        have HNL2 := Hid.mk ((HNL.out.keep HAl.out).keep hb2)
        have HNH2 := Hid.mk ((HNH.out.keep HAl.out).keep hb2)
        have HRow2 := Hid.mk (HRow0.out.keep hb2)
        have HBC2 : Hid (Below w1.heap.size w1 w2) := HAl.out.trans (hb2.mono HAl.out.size)
        have HOL := Hid.mk (show (Value.slice lo XL.length lc).ownBlock ≠ some w1.heap.size from HNL.out.older (Nat.le_refl _))
        have HOH := Hid.mk (show (Value.slice ho XH.length hc).ownBlock ≠ some w1.heap.size from HNH.out.older (Nat.le_refl _))
        have HOSL := Hid.mk (show vsl.ownBlock ≠ some w1.heap.size by rw [o1]; exact HS1.out.older (Nat.le_refl _))
        have HOSH := Hid.mk (show vsh.ownBlock ≠ some w1.heap.size by rw [o2]; exact HS1.out.older (Nat.le_refl _))
        obtain ⟨lo2, lc2, hvl, q1, q2⟩ := hnsl
        clear q1 q2
        obtain ⟨ho2, hc2, hvh, q1, q2⟩ := hnsh
        clear q1 q2 hb2 o1 o2
        subst hvl
        subst hvh
        go_wp2_with fail
        refine (IH.out (XL.length + YL.length) (by omega) _ _ XL YL _ (Nat.le_refl _) (by omega) HNL2.out HNSL.out hdl hsl).mono ?_
        rintro e w3 ⟨v3, zl, rfl, hf3, hv3⟩
        have HF3 := Hid.mk hf3
        have HV3 := Hid.mk hv3
        have HLl : Hid (zl.length ≤ 2 * h) := Pl.mul_len (B := 1000000000) (by decide) hdl hsl hf3.2.2.1 hv3 (by omega)
        have HO3 : Hid (v3.ownBlock ≠ some w1.heap.size) := fun e => by have := hf3.2.2.2.2 _ e; have := HRow2.out.lt; omega
        have HG23 : Hid (w2.grownBy w3 (some w1.heap.size)) := grown_below hf3.2.2.2.1
        have HRow3 := Hid.mk (HRow2.out.keep hf3.2.2.2.1)
        have HBC3 : Hid (Below w1.heap.size w1 w3) := HBC2.out.trans (hf3.2.2.2.1.mono HBC2.out.size)
        obtain ⟨ao3, cap3, hvv, q1, q2⟩ := hf3.1
        clear q1 q2 hf3 hv3
        subst hvv
        go_wp2_with fail
        refine (IH.out (XH.length + YH.length) (by omega) _ _ XH YH _ (Nat.le_refl _) (by omega) (HNH2.out.off HOH.out HG23.out) (HNSH.out.off HOSH.out HG23.out) hdh hsh).mono ?_
        rintro e w4 ⟨v4, zh, rfl, hf4, hv4⟩
        have HF4 := Hid.mk hf4
        have HV4 := Hid.mk hv4
        have HLh : Hid (zh.length ≤ (ys.length + xs.length) - 2 * h) := Pl.mul_len (B := 1000000000) (by decide) hdh hsh hf4.2.2.1 hv4 (by omega)
        have HO4 : Hid (v4.ownBlock ≠ some w1.heap.size) := fun e => by have := hf4.2.2.2.2 _ e; have := HRow3.out.lt; omega
        have HG34 : Hid (w3.grownBy w4 (some w1.heap.size)) := grown_below hf4.2.2.2.1
        have hrow4 := HRow3.out.keep hf4.2.2.2.1
        have HBC4 : Hid (Below w1.heap.size w1 w4) := HBC3.out.trans (hf4.2.2.2.1.mono HBC3.out.size)
        obtain ⟨w5, hcp, HR5, HG45⟩ := run_copy_nums w4 w1.heap.size (ys.length + xs.length) (ys.length + xs.length) _ _ zl hrow4 (by simp) (HF3.out.1.off HO3.out HG34.out) (by have := HLl.out; omega)
        have HRl : Hid ((zl ++ (List.replicate (ys.length + xs.length) 0).drop zl.length).length = (ys.length + xs.length)) := by have := HLl.out; show _ = _; simp; omega
        have HRd : Hid (Pl.dig 1000000000 (zl ++ (List.replicate (ys.length + xs.length) 0).drop zl.length)) := Pl.dig_append.2 ⟨HF3.out.2.1, Pl.dig_drop _ (dig_zeros _ _ (by decide))⟩
        have HRv : Hid (Pl.val 1000000000 (zl ++ (List.replicate (ys.length + xs.length) 0).drop zl.length) = Pl.val 1000000000 zl) := by show _ = _; rw [Pl.val_append, List.drop_replicate, val_zeros]; simp
        generalize zl ++ (List.replicate (ys.length + xs.length) 0).drop zl.length = R at *
        have HRow5 : Hid (Row w5 w1.heap.size (R.take (2 * h) ++ R.drop (2 * h) ++ [])) := by show Row _ _ _; rw [List.append_nil, List.take_append_drop]; exact HR5.out
        have HG35 : Hid (w3.grownBy w5 (some w1.heap.size)) := grown_trans HG34.out HG45.out
        have HG25 : Hid (w2.grownBy w5 (some w1.heap.size)) := grown_trans HG23.out HG35.out
        obtain ⟨ao4, cap4, hvv, q1, q2⟩ := hf4.1
        clear q1 q2 hf4 hv4 hrow4
        subst hvv
        go_wp2_with fail
        refine (w_addTo w1.heap.size (2 * h) ((ys.length + xs.length) - 2 * h) ((ys.length + xs.length) - 2 * h) _ (R.take (2 * h)) (R.drop (2 * h)) [] zh w5 HRow5.out (by have := HRl.out; simp; omega) (by have := HRl.out; simp; omega) (Nat.le_refl _) (by omega) (Pl.dig_drop _ HRd.out) HF4.out.2.1 (HF4.out.1.off HO4.out HG45.out) HO4.out (by have := HLh.out; omega)).mono ?_
        rintro e w6 ⟨rfl, hadd⟩
        obtain ⟨hg56, rs', hl6, hd6, hrow6, hv6⟩ := hadd
        have HR2v := Hid.mk (Pl.three_lay (B := 1000000000) (by decide) hy hx (by omega) (by omega) HRl.out HRv.out (by rw [HXL.out, HYL.out]; exact HV3.out) (by rw [HXH.out, HYH.out]; exact HV4.out) hv6 (by omega))
        have hRow6 : Row w6 w1.heap.size (R.take (2 * h) ++ rs') := by have := hrow6; rw [List.append_nil] at this; exact this
        have HR2d := Hid.mk (Pl.dig_append.2 ⟨Pl.dig_take (2 * h) HRd.out, hd6⟩)
        have HR2l : Hid ((R.take (2 * h) ++ rs').length = (ys.length + xs.length)) := by have := HRl.out; show _ = _; simp; omega
        generalize R.take (2 * h) ++ rs' = R2 at *
        have HRow6 := Hid.mk hRow6
        have HG36 : Hid (w3.grownBy w6 (some w1.heap.size)) := grown_trans HG35.out hg56
        have HG26 : Hid (w2.grownBy w6 (some w1.heap.size)) := grown_trans HG25.out hg56
        have HG46 : Hid (w4.grownBy w6 (some w1.heap.size)) := grown_trans HG45.out hg56
        clear hrow6 hRow6 hv6 hd6 hl6 hg56 HRow5 HR5 HRv HRd HRl HG25 HG35 HG45
        go_wp2_with fail
        refine (w_sum _ _ XL XH w6 (HNL2.out.off HOL.out HG26.out) (HNH2.out.off HOH.out HG26.out) (by omega) (by omega) hdl hdh).mono ?_
        rintro e w7 ⟨v7, s1, rfl, hf7, hv7⟩
        have HF7 := Hid.mk hf7
        have HV7 := Hid.mk hv7
        have HL7 : Hid (s1.length ≤ h + 1) := Pl.sum_len (B := 1000000000) (by decide) hdl hdh hf7.2.2.1 hv7 (by omega) (by omega)
        have HG67 : Hid (w6.grownBy w7 (some w1.heap.size)) := grown_below hf7.2.2.2.1
        have HRow7 := Hid.mk (HRow6.out.keep hf7.2.2.2.1)
        obtain ⟨ao7, cap7, hvv, q1, q2⟩ := hf7.1
        clear q1 q2 hf7 hv7
        subst hvv
        go_wp2_with fail
        refine (w_sum _ _ YL YH w7 (HNSL.out.off HOSL.out (grown_trans HG26.out HG67.out)) (HNSH.out.off HOSH.out (grown_trans HG26.out HG67.out)) (by omega) (by omega) hsl hsh).mono ?_
        rintro e w8 ⟨v8, s2, rfl, hf8, hv8⟩
        have HF8 := Hid.mk hf8
        have HV8 := Hid.mk hv8
        have HL8 : Hid (s2.length ≤ h + 1) := Pl.sum_len (B := 1000000000) (by decide) hsl hsh hf8.2.2.1 hv8 (by omega) (by omega)
        have HG68 : Hid (w6.grownBy w8 (some w1.heap.size)) := grown_trans HG67.out (grown_below hf8.2.2.2.1)
        have HRow8 := Hid.mk (HRow7.out.keep hf8.2.2.2.1)
        have HN7 := Hid.mk (HF7.out.1.keep hf8.2.2.2.1)
        obtain ⟨ao8, cap8, hvv, q1, q2⟩ := hf8.1
        clear q1 q2 hf8 hv8
        subst hvv
        go_wp2_with fail
        refine (IH.out (s1.length + s2.length) (by have := HL7.out; have := HL8.out; omega) _ _ s1 s2 _ (Nat.le_refl _) (by have := HL7.out; have := HL8.out; omega) HN7.out HF8.out.1 HF7.out.2.1 HF8.out.2.1).mono ?_
        rintro e w9 ⟨v9, m, rfl, hf9, hv9⟩
        have HF9 := Hid.mk hf9
        have HV9 : Hid (Pl.val 1000000000 m = (Pl.val 1000000000 XL + Pl.val 1000000000 XH) * (Pl.val 1000000000 YL + Pl.val 1000000000 YH)) := by show _ = _; rw [hv9, HV7.out, HV8.out]
        have HL9 : Hid (m.length ≤ 2 * h + 2) := Pl.mul_len (B := 1000000000) (by decide) HF7.out.2.1 HF8.out.2.1 hf9.2.2.1 hv9 (by have := HL7.out; have := HL8.out; omega)
        have HO9 : Hid (v9.ownBlock ≠ some w1.heap.size) := fun e => by have := hf9.2.2.2.2 _ e; have := HRow8.out.lt; omega
        have HG69 : Hid (w6.grownBy w9 (some w1.heap.size)) := grown_trans HG68.out (grown_below hf9.2.2.2.1)
        have HRow9 : Hid (Row w9 w1.heap.size (R2.take h ++ R2.drop h ++ [])) := by show Row _ _ _; rw [List.append_nil, List.take_append_drop]; exact HRow8.out.keep hf9.2.2.2.1
        have HG39 : Hid (w3.grownBy w9 (some w1.heap.size)) := grown_trans HG36.out HG69.out
        have HG49 : Hid (w4.grownBy w9 (some w1.heap.size)) := grown_trans HG46.out HG69.out
        obtain ⟨ao9, cap9, hvv, q1, q2⟩ := hf9.1
        clear q1 q2 hf9 hv9
        subst hvv
        go_wp2_with fail
        refine (w_addTo w1.heap.size h ((ys.length + xs.length) - h) ((ys.length + xs.length) - h) _ (R2.take h) (R2.drop h) [] m w9 HRow9.out (by have := HR2l.out; simp; omega) (by have := HR2l.out; simp; omega) (Nat.le_refl _) (by omega) (Pl.dig_drop _ HR2d.out) HF9.out.2.1 HF9.out.1 HO9.out (by have := HL9.out; omega)).mono ?_
        rintro e w10 ⟨rfl, hadd⟩
        obtain ⟨hg910, U2, hlU2, hdU2, hrow10, hvU2⟩ := hadd
        have HRow10 := Hid.mk hrow10
        have HVU2 := Hid.mk hvU2
        have HG310 : Hid (w3.grownBy w10 (some w1.heap.size)) := grown_trans HG39.out hg910
        have HG410 : Hid (w4.grownBy w10 (some w1.heap.size)) := grown_trans HG49.out hg910
        clear hrow10 hvU2 hg910
        go_wp2_with fail
        refine (w_takeFrom w1.heap.size h ((ys.length + xs.length) - h) ((ys.length + xs.length) - h) _ 1 (R2.take h) U2 [] zl w10 HRow10.out (by have := HR2l.out; simp; omega) hlU2 (Nat.le_refl _) (by omega) hdU2 HF3.out.2.1 (HF3.out.1.off HO3.out HG310.out) HO3.out (by have := HLl.out; omega) (by decide)).mono ?_
        rintro e w11 ⟨short, rfl, htk⟩
        obtain ⟨hg1011, U3, c, hlU3, hdU3, hrow11, hvU3, hs1, hs2⟩ := htk
        have HRow11 := Hid.mk hrow11
        have HVU3 := Hid.mk hvU3
        have HG411 : Hid (w4.grownBy w11 (some w1.heap.size)) := grown_trans HG410.out hg1011
        clear hrow11 hvU3 hg1011 hs1 hs2
        go_wp2_with fail
        refine (w_takeFrom w1.heap.size h ((ys.length + xs.length) - h) ((ys.length + xs.length) - h) _ 1 (R2.take h) U3 [] zh w11 HRow11.out (by have := HR2l.out; simp; omega) hlU3 (Nat.le_refl _) (by omega) hdU3 HF4.out.2.1 (HF4.out.1.off HO4.out HG411.out) HO4.out (by have := HLh.out; omega) (by decide)).mono ?_
        rintro e w12 ⟨short2, rfl, htk⟩
        obtain ⟨hg1112, U4, c2, hlU4, hdU4, hrow12, hvU4, hs1, hs2⟩ := htk
        have HFin := Hid.mk (Pl.three_end (B := 1000000000) (by decide) hy hx (by omega) (by omega) HR2l.out HR2v.out (by rw [HXL.out, HYL.out]; exact HV3.out) (by rw [HXH.out, HYH.out]; exact HV4.out) (by rw [HXL.out, HYL.out, HXH.out, HYH.out]; exact HV9.out) HVU2.out HVU3.out hvU4 hdU4 hlU4)
        have HRowE : Hid (Row w12 w1.heap.size (R2.take h ++ U4)) := by have := hrow12; rw [List.append_nil] at this; exact this
        have HBE : Hid (Below w.heap.size w w12) := by
          have a1 := HB1.out.trans (HBC4.out.mono HB1.out.size)
          have g1 := grown_trans HG411.out hg1112
          exact a1.trans (below_grown g1 HB1.out.size (by have := a1.size; omega))
        have HDE := Hid.mk (Pl.dig_append.2 ⟨Pl.dig_take h HR2d.out, hdU4⟩)
        have HLE : Hid ((R2.take h ++ U4).length = (ys.length + xs.length)) := by have := HR2l.out; show _ = _; simp; omega
        generalize R2.take h ++ U4 = FL at *
        clear hrow12 hvU4 hs1 hs2 hg1112
        go_wp2_with fail
        refine (w_tTrim _ FL _ (HRowE.out.nums (pre := []) (post := []) (cap := ys.length + xs.length) (by simp) rfl HLE.out (Nat.le_refl _)) (by rw [HLE.out]; unfold maxLen; omega)).mono ?_
        rintro e wz ⟨v', rfl, rfl, hn', ho'⟩
        have HF := Hid.mk (fresh_of HBE.out HB1.out.size HDE.out hn' ho' rfl)
        have HVal : Hid (Pl.val 1000000000 (Pl.trimN FL) = Pl.val 1000000000 ys * Pl.val 1000000000 xs) := (Pl.val_trim _ _).trans HFin.out
        obtain ⟨ao', cap', hvv, q1, q2⟩ := hn'
        clear q1 q2 ho'
        subst hvv
        go_wp2_with fail
        go_ret
        exact ⟨_, _, rfl, HF.out, (HVal.out).trans (Nat.mul_comm _ _)⟩

theorem w_product (N : Nat) : ∀ (va vb : Value) (xs ys : List Nat) (w : World), xs.length + ys.length ≤ N → N ≤ 274877906944 → Nums .u64 w va xs → Nums .u64 w vb ys → Pl.dig 1000000000 xs → Pl.dig 1000000000 ys →
    Calls Tryd.prog 83 #[va, vb] w fun e w' => ∃ v zs, e = .returned v ∧ Fresh w w' v zs ∧ Pl.val 1000000000 zs = Pl.val 1000000000 xs * Pl.val 1000000000 ys := by
  induction N using Nat.strongRecOn with
  | _ N ih =>
    intro va vb xs ys w hN hNb ha hb hx hy
    rcases (show ys.length ≤ xs.length ∨ xs.length < ys.length by omega) with h | h
    · exact w_product_long N ih va vb xs ys w hN hNb ha hb hx hy h
    · exact w_product_short N ih va vb xs ys w hN hNb ha hb hx hy h
end Go.Proofs.YtfcbeohkhljboaaDoor
namespace Go.Proofs.YtfcbeohkhljboaaDoor
open Go.RowKit
set_option linter.unusedVariables false
set_option linter.unusedSimpArgs false

theorem guess_start (B : Nat) {b1 b0 top w0 : Nat} (hb : 0 < b1) (hw : w0 < B) : top * B + w0 < (top / b1 + 1) * (b1 * B + b0) := by
  have h1 : top < (top / b1 + 1) * b1 := by
    have := Nat.div_add_mod top b1
    have h2 := Nat.mod_lt top hb
    rw [Nat.add_mul, Nat.mul_comm (top / b1)]; omega
  generalize top / b1 + 1 = o at *
  have h2 : (top + 1) * B ≤ (o * b1) * B := Nat.mul_le_mul_right _ h1
  rw [Nat.mul_add, ← Nat.mul_assoc]
  rw [Nat.add_mul] at h2
  omega

theorem guess_less (B : Nat) {b1 b0 top w0 o r : Nat} (h : o * b1 + r = top) (hc : r * B + w0 < o * b0) : (o - 1) * b1 + (r + b1) = top ∧ top * B + w0 < (o - 1 + 1) * (b1 * B + b0) ∧ 0 < o := by
  have ho : 0 < o := by
    rcases Nat.eq_zero_or_pos o with e | e
    · subst e; simp at hc
    · exact e
  obtain ⟨p, rfl⟩ : ∃ p, o = p + 1 := ⟨o - 1, by omega⟩
  refine ⟨?_, ?_, ho⟩
  · rw [Nat.add_sub_cancel, ← h, Nat.add_mul]; omega
  · rw [Nat.add_sub_cancel, ← h, Nat.mul_add, Nat.add_mul ((p + 1) * b1), ← Nat.mul_assoc]; omega

theorem guess_end (B : Nat) {b1 b0 top w0 o r : Nat} (h : o * b1 + r = top) (hc : ¬ r * B + w0 < o * b0) : o * (b1 * B + b0) ≤ top * B + w0 := by
  rw [← h, Nat.mul_add, Nat.add_mul, ← Nat.mul_assoc]; omega

theorem guess_bound {b1 top o r : Nat} (h : o * b1 + r = top) (hb : 250000000 ≤ b1) (ht : top < 1000000000000000000) : o < 4000000000 := by
  rcases Nat.lt_or_ge o 4000000000 with e | e
  · exact e
  · have := Nat.mul_le_mul e hb
    omega

/-- what guess answers -/
def Guessed (q top w0 b1 b0 : Nat) : Prop := q * (b1 * 1000000000 + b0) ≤ top * 1000000000 + w0 ∧ top * 1000000000 + w0 < (q + 1) * (b1 * 1000000000 + b0)

set_option maxHeartbeats 3200000 in
theorem w_guess (vw vb : Value) (ws bs : List Nat) (n : Nat) (w : World) (hw : Nums .u64 w vw ws) (hb : Nums .u64 w vb bs) (hlw : ws.length = n + 1) (hlb : bs.length = n) (hn : 2 ≤ n) (hm : n ≤ 274877906944) (hdw : Pl.dig 1000000000 ws) (hdb : Pl.dig 1000000000 bs) (htop : 250000000 ≤ bs.getD (n - 1) 0) :
    Calls Tryd.prog 92 #[vw, vb] w fun e w' => ∃ q : Nat, e = .returned (.int .u64 (q : Int)) ∧ Below w.heap.size w w' ∧ Guessed q (ws.getD n 0 * 1000000000 + ws.getD (n - 1) 0) (ws.getD (n - 2) 0) (bs.getD (n - 1) 0) (bs.getD (n - 2) 0) := by
  rcases hw.open' with ⟨rfl, _⟩ | ⟨hp, bw, offw, capw, rfl, hcw, hltw, hcellw⟩
  · simp at hlw
  rcases hb.open' with ⟨rfl, _⟩ | ⟨hpb, bb, offb, capb, rfl, hcb, hltb, hcellb⟩
  · simp at hlb; omega
  have k2 := hcellw n (by omega)
  have k1 := hcellw (n - 1) (by omega)
  have k0 := hcellw (n - 2) (by omega)
  have j1 := hcellb (n - 1) (by omega)
  have j0 := hcellb (n - 2) (by omega)
  have m2 := Pl.dig_getD (by decide) hdw n
  have m1 := Pl.dig_getD (by decide) hdw (n - 1)
  have m0 := Pl.dig_getD (by decide) hdw (n - 2)
  have d1 := Pl.dig_getD (by decide) hdb (n - 1)
  have d0 := Pl.dig_getD (by decide) hdb (n - 2)
  rw [hlw, hlb] at *
  clear hcellw hcellb hw hb
  generalize ws.getD n 0 = w2 at *
  generalize ws.getD (n - 1) 0 = w1 at *
  generalize ws.getD (n - 2) 0 = w0 at *
  generalize bs.getD (n - 1) 0 = b1 at *
  generalize bs.getD (n - 2) 0 = b0 at *
  clear hlw hlb hp hpb
  have e1 : (((n : Int)) - 1).toNat = n - 1 := by omega
  have e2 : (((n : Int)) - 2).toNat = n - 2 := by omega
  have hb0 : (((b1 : Nat) : Int) == 0) = false := by simp; omega
  go_enter Tryd.func92, Tryd.ntmps92
  go_wp2
  go_quiet (fail)
  go_wp2
  have ht : w2 * 1000000000 + w1 < 1000000000000000000 := by omega
  have et : (w2 : Int) * 1000000000 + (w1 : Int) = ((w2 * 1000000000 + w1 : Nat) : Int) := by simp
  rw [et]
  generalize hTop : w2 * 1000000000 + w1 = top at *
  have HTop := Hid.mk hTop
  clear et hTop
  go_quiet (fail)
  go_wp2
  go_loopw [7, 8] (fun o r wr => ∃ oo rr : Nat, o = .int .u64 (oo : Int) ∧ r = .int .u64 (rr : Int) ∧ Hid (oo * b1 + rr = top) ∧ rr ≤ 5000000000 ∧ oo < 4000000000 ∧ Below w.heap.size w wr ∧ Hid (top * 1000000000 + w0 < (oo + 1) * (b1 * 1000000000 + b0))) (fun o _ _ => (intOf o).toNat)
  case atStart =>
    have hq : top / b1 * b1 + top % b1 = top := Nat.div_add_mod' top b1
    have hr := Nat.mod_lt top (show 0 < b1 by omega)
    have ho := guess_bound hq htop ht
    refine ⟨top / b1, top % b1, int_eq ?_, int_eq (by simp), hq, by omega, ho, below_drewN (below_drewN (Below.refl _ _) _) _, guess_start _ (by omega) m0⟩
    rw [IntKind.wrap_u64, show (top : Int) / (b1 : Int) = ((top / b1 : Nat) : Int) by simp]
    clear hq
    generalize top / b1 = z at ho ⊢
    omega
  case round =>
    obtain ⟨oo, rr, rfl, rfl, HQ, hrr, hoo, hbw, HG⟩ := hrel
    have k0' := below_cells hbw hltw k0
    have j1' := below_cells hbw hltb j1
    have j0' := below_cells hbw hltb j0
    have hob : oo * b0 ≤ 4000000000 * 1000000000 := Nat.mul_le_mul (by omega) (by omega)
    have hob2 : (oo : Int) * (b0 : Int) ≤ 4000000000000000000 := by
      have : ((oo * b0 : Nat) : Int) ≤ 4000000000000000000 := by omega
      simpa using this
    have hob0 : 0 ≤ (oo : Int) * (b0 : Int) := Int.mul_nonneg (by omega) (by omega)
    clear k0 k1 k2 j1 j0
    by_cases hc : rr * 1000000000 + w0 < oo * b0
    · have hci : (rr : Int) * 1000000000 + (w0 : Int) < (oo : Int) * (b0 : Int) := by
        have : ((rr * 1000000000 + w0 : Nat) : Int) < ((oo * b0 : Nat) : Int) := by omega
        simpa using this
      obtain ⟨g1, g2, g3⟩ := guess_less 1000000000 HQ.out hc
      have G1 := Hid.mk g1
      have G2 := Hid.mk g2
      have hr4 : rr < 4000000000 := by omega
      clear g1 g2 hc hob
      go_wp2
      go_quiet (fail)
      go_wp2
      go_roundw
      case measure => simp [intOf]; omega
      exact ⟨oo - 1, rr + b1, int_eq (by omega), int_eq (by omega), G1, by omega, by omega, below_drewN hbw _, G2⟩
    · have hci : ¬ (rr : Int) * 1000000000 + (w0 : Int) < (oo : Int) * (b0 : Int) := by
        have : ¬ ((rr * 1000000000 + w0 : Nat) : Int) < ((oo * b0 : Nat) : Int) := by omega
        simpa using this
      have G1 := Hid.mk (guess_end 1000000000 HQ.out hc)
      clear hc hob
      go_wp2
      go_quiet (fail)
      go_wp2
      go_ret
      exact ⟨oo, rfl, below_drewN hbw _, by rw [HTop.out]; exact ⟨G1.out, HG.out⟩⟩
end Go.Proofs.YtfcbeohkhljboaaDoor
