import Derived.Test.YtdegoefedkidcaaDoorM34
namespace Go.Proofs.YtdegoefedkidcaaDoor
open Go.RowKit
set_option linter.unusedVariables false
set_option linter.unusedSimpArgs false

/-- while a row is put together -/
structure CpSt (w0 wr : World) (v : Value) (xs : List Nat) : Prop where
  own : wr.ownsRow w0.heap.size 3 1 v xs.length (vals .i64 xs)
  below : Below w0.heap.size w0 wr

theorem cp_one (w0 : World) (x : Nat) : CpSt w0 (w0.alloc (.cells #[.int .i64 (x : Int)] 3)) (.slice (some ⟨w0.heap.size, 0, none⟩) 1 1) [x] :=
  ⟨⟨rfl, Or.inr ⟨w0.heap.size, 1, #[.int .i64 (x : Int)], rfl, Nat.le_refl _, heap_alloc_new w0 _, Nat.le_refl _, by decide, rfl, rfl⟩⟩, (Below.refl _ _).alloc (Nat.le_refl _) _⟩

theorem CpSt.step {w0 wr w1 : World} {v v' : Value} {xs : List Nat} {x : Nat} {z : Int} {o : Obj} (h : CpSt w0 wr v xs) (hz : z = (x : Int)) (hown : w1.ownsRow w0.heap.size 3 1 v' (xs.length + 1) (vals .i64 xs ++ [.int .i64 z])) (hg : (wr.alloc o).grownBy w1 v.ownBlock) : CpSt w0 w1 v' (xs ++ [x]) := by
  refine ⟨?_, below_app h.own h.below hg⟩
  rw [vals_snoc .i64 xs x z hz] at hown
  rw [List.length_append]
  exact hown

theorem CpSt.ru {w0 wr : World} {v : Value} {x : Nat} {ls : List Nat} (h : CpSt w0 wr v (x :: ls)) (hx : x < 10) (hd : Pl.dig 10 ls) (hl : ls.length + 1 ≤ 1099511627776) : RU wr v (x + 10 * Pl.val 10 ls) :=
  ⟨x :: ls, own_nums h.own, Pl.dig_cons.2 ⟨hx, hd⟩, rfl, by simpa using hl⟩

theorem cons_take {x j : Nat} {ls : List Nat} (hj : j < ls.length) : x :: ls.take (j + 1) = (x :: ls.take j) ++ [ls.getD j 0] := by
  rw [List.cons_append, List.take_succ_eq_append_getElem hj, List.getD_eq_getElem?_getD, List.getElem?_eq_getElem hj]; rfl
theorem len_take1 {x j n : Nat} {ls : List Nat} (hl : ls.length = n) (hj : j ≤ n) : (x :: ls.take j).length = j + 1 := by simp; omega

/-- behind the digits from place k on -/
structure OvSt (w wr : World) (qv lv : Value) (xs : List Nat) (y k : Nat) : Prop where
  out : ∃ (qs : List Nat) (l : Nat), Nums .i64 wr qv qs ∧ Pl.dig 10 qs ∧ qs.length = xs.length - k ∧ RV wr lv l ∧ l < y ∧ Pl.val 10 qs * y + l = Pl.val 10 (xs.drop k) ∧ Below w.heap.size w wr

/-- what over answers -/
def OverR (w w' : World) (e : Ending) (q l : Nat) : Prop := ∃ ro rn rc so sn sc, e = .returned (.tuple #[.slice ro rn rc, .slice so sn sc]) ∧ Hid (RU w' (.slice ro rn rc) q) ∧ Hid (RV w' (.slice so sn sc) l) ∧ Below w.heap.size w w'

theorem ov_end {w wr : World} {qv lv : Value} {xs : List Nat} {x y : Nat} (h : OvSt w wr qv lv xs y 0) (hx : Pl.val 10 xs = x) (hl : xs.length ≤ 1099511627776) : RU wr qv (x / y) ∧ RV wr lv (x % y) ∧ Below w.heap.size w wr := by
  obtain ⟨qs, l, h1, h2, h3, h4, h5, h6, h7⟩ := h.out
  rw [List.drop_zero, hx] at h6
  have e1 : x / y = Pl.val 10 qs := by
    rw [← h6, Nat.mul_comm, Nat.mul_add_div (by omega), Nat.div_eq_of_lt h5]; rfl
  have e2 : x % y = l := by
    rw [← h6, Nat.mul_comm, Nat.mul_add_mod, Nat.mod_eq_of_lt h5]
  rw [e1, e2]
  exact ⟨⟨qs, h1, h2, rfl, by omega⟩, h4, h7⟩

theorem ov_step {w wr : World} {qv lv : Value} {xs : List Nat} {q y x d l l2 m : Nat} {qs : List Nat} (hm : m < xs.length) (hx : xs.getD m 0 = x) (hq : qs.length = xs.length - (m + 1)) (hv : Pl.val 10 qs * y + l = Pl.val 10 (xs.drop (m + 1))) (hd : d * y + l2 = x + 10 * l) (hl2 : l2 < y) (hd9 : d < 10) (hdq : Pl.dig 10 qs)
    (hn : Nums .i64 wr qv (d :: qs)) (hr : RV wr lv l2) (hb : Below w.heap.size w wr) : OvSt w wr qv lv xs y m := by
  refine ⟨d :: qs, l2, hn, Pl.dig_cons.2 ⟨hd9, hdq⟩, by simp; omega, hr, hl2, ?_, hb⟩
  obtain ⟨r, t, h1, h2, h3⟩ := Pl.drop_parts hm
  rw [h1, Pl.val_cons, Pl.val_cons, show r = x by rw [← h2, hx], ← h3, ← hv, Nat.add_mul, Nat.mul_add, Nat.mul_assoc]
  omega

set_option maxRecDepth 100000 in
set_option maxHeartbeats 6400000 in
theorem w_rover (v1 v2 : Value) (x1 y K : Nat) (w : World) (h1 : RV w v1 x1) (h2 : RV w v2 y) (k1 : x1 < 10 ^ K) (k2 : y < 10 ^ K) (hK : K ≤ 274877906944) (hy : 0 < y) :
    Calls Tryd.prog 62 #[v1, v2] w fun e w' => OverR w w' e (x1 / y) (x1 % y) := by
  obtain ⟨i0, hi0, hz0, hz1, hz2⟩ := info_parts Tryd.info3
  obtain ⟨xs, a1, a2, a3, a4, a5⟩ := h1.fits k1
  have HA := Hid.mk a1
  have HDX := Hid.mk a2
  have HX1 := Hid.mk a4
  have HY := Hid.mk h2
  have HKY := Hid.mk k2
  obtain ⟨ao, ca, rfl, q1, q2⟩ := a1
  obtain ⟨bo, nb, cb, hv⟩ : ∃ ao na ca, v2 = .slice ao na ca := by obtain ⟨_, ⟨ao, ca, rfl, _⟩, _⟩ := h2; exact ⟨ao, _, ca, rfl⟩
  subst hv
  clear q1 q2 a2 a3 a4 h1 h2 k1 k2
  generalize hla : xs.length = la at *
  have HLA := Hid.mk hla
  clear hla
  have HS : Hid (OvSt w w (.slice none 0 0) (.slice none 0 0) xs y la) := ⟨[], 0, Nums.nil _ _ _ _ (fun a e => by cases e), Pl.dig_nil _, by rw [HLA.out]; simp, ⟨[], Nums.nil _ _ _ _ (fun a e => by cases e), Pl.dig_nil _, rfl, rfl⟩, hy, by rw [← HLA.out, List.drop_eq_nil_of_le (Nat.le_refl _)]; simp [Pl.val], Below.refl _ _⟩
  go_enter Tryd.func62, Tryd.ntmps62
  go_wp2_with fail
  go_loopw [4, 5, 6] (fun q l i wr => ∃ (k : Nat) (qo : Option Addr) (qn qc : Nat) (lo : Option Addr) (ln lc : Nat), k ≤ la ∧ q = .slice qo qn qc ∧ l = .slice lo ln lc ∧ i = .int .i64 ((k : Int) - 1) ∧ Hid (OvSt w wr (.slice qo qn qc) (.slice lo ln lc) xs y k)) (fun _ _ i _ => (intOf i + 1).toNat)
  case atStart => exact ⟨la, none, 0, 0, none, 0, 0, Nat.le_refl _, rfl, rfl, rfl, HS⟩
  case round =>
    obtain ⟨k, qo, qn, qc, lo, ln, lc, hk, rfl, rfl, rfl, HR⟩ := hrel
    cases k with
    | zero =>
      have he := ov_end HR.out HX1.out (by have := HLA.out; omega)
      have HE := Hid.mk he
      clear he
      rw [show ((0 : Nat) : Int) - 1 = -1 from rfl]
      go_wp2_with fail
      go_ret2
      exact ⟨_, _, _, _, _, _, rfl, HE.out.1, HE.out.2.1, HE.out.2.2⟩
    | succ m =>
      obtain ⟨qs, l, o1, o2, o3, o4, o5, o6, o7⟩ := HR.out.out
      obtain ⟨ls, r1, r2, r3, r4, r5⟩ := o4.fits (Nat.lt_trans o5 HKY.out)
      have hql : qs.length = qn := by obtain ⟨_, _, e, _⟩ := o1; cases e; rfl
      have hll : ls.length = ln := by obtain ⟨_, _, e, _⟩ := r1; cases e; rfl
      have hqn : qn ≤ 274877906944 := by rw [HLA.out] at o3; omega
      have hln : ln ≤ 274877906944 := by omega
      obtain ⟨x, hxx⟩ : ∃ x, x = xs.getD m 0 := ⟨_, rfl⟩
      have hx9 : x < 10 := by rw [hxx]; exact Pl.dig_getD (by decide) HDX.out m
      obtain ⟨ba, offa, hao, cx⟩ : ∃ ba offa, ao = some ⟨ba, offa, none⟩ ∧ wr.cell? ⟨ba, offa + m, none⟩ = some (.int .i64 (x : Int)) := by
        rcases (HA.out.keep o7).open' with ⟨e, _⟩ | ⟨hp, ba, offa, cap, e, hc, hlt2, hcell⟩
        · have := HLA.out; rw [e] at this; simp at this; omega
        · cases e
          exact ⟨ba, offa, rfl, by rw [hxx]; exact hcell m (by have := HLA.out; omega)⟩
      subst hao
      have HXX := Hid.mk hxx
      have HQ := Hid.mk o1
      have HDQ := Hid.mk o2
      have HQL := Hid.mk o3
      have HOV := Hid.mk o6
      have HLY := Hid.mk o5
      have HBW := Hid.mk o7
      have HL := Hid.mk r1
      have HDL := Hid.mk r2
      have HVL := Hid.mk r4
      have HLL := Hid.mk hll
      have HQQ := Hid.mk hql
      have hYw := Hid.mk (HY.out.keep o7)
      clear hxx o1 o2 o3 o4 o5 o6 o7 r1 r2 r3 r4 r5 HR hll hql
      have hmla : (m : Int) < (la : Int) := by omega
      have HC0 := Hid.mk (cp_one wr x)
      obtain ⟨wo, hwo⟩ : ∃ wo : World, wo = wr := ⟨_, rfl⟩
      subst hwo
      rw [show ((m + 1 : Nat) : Int) - 1 = (m : Int) by omega]
      go_wp2_with fail
      go_loopw [7, 8] (fun nx j wr => ∃ (t : Nat) (so : Option Addr) (sc : Nat), t ≤ ln ∧ nx = .slice so (t + 1) sc ∧ j = .int .i64 t ∧ Hid (CpSt wo wr (.slice so (t + 1) sc) (x :: ls.take t))) (fun _ j _ => ln - (intOf j).toNat)
      case atStart => exact ⟨0, _, _, Nat.zero_le _, rfl, rfl, HC0⟩
      case round =>
        obtain ⟨t, so, sc, ht, rfl, rfl, HP⟩ := hrel
        by_cases htl : t < ln
        · have htl' : (t : Int) < (ln : Int) := by omega
          obtain ⟨z, hzz⟩ : ∃ z, z = ls.getD t 0 := ⟨_, rfl⟩
          obtain ⟨bl, offl, hlo, cz⟩ : ∃ bl offl, lo = some ⟨bl, offl, none⟩ ∧ wr.cell? ⟨bl, offl + t, none⟩ = some (.int .i64 (z : Int)) := by
            rcases (HL.out.keep HP.out.below).open' with ⟨e, _⟩ | ⟨hp, bl, offl, cap, e, hc, hlt2, hcell⟩
            · have := HLL.out; rw [e] at this; simp at this; omega
            · cases e
              exact ⟨bl, offl, rfl, by rw [hzz]; exact hcell t (by have := HLL.out; omega)⟩
          subst hlo
          have hown := HP.out.own
          rw [len_take1 HLL.out ht] at hown
          have hsz := HP.out.below.size
          have HZ := Hid.mk hzz
          clear hzz
          go_wp2_with (at_builtin; refine wpList_append_own _ rfl _ _ 46 rfl wo.heap.size 3 i0 (.int .i64 0) 1 8 Tryd.underlying46 hi0 hz0 hz1 hz2 rfl (by decide) _ _ _ rfl (hown.alloc _) ⟨wr.heap.size, 0, none⟩ 1 1 [.int .i64 (z : Int)] rfl rfl (by intro j u hj; match j, hj with | 0, hj => simp at hj; subst hj; simp [Addr.add]) (by intro u hu; simp at hu; subst hu; rfl) (by unfold maxLen; omega) (by omega) (by simp; omega) ?_)
          intro v1 w1 hown1 hgrow1 hnn
          obtain ⟨so1, sc1, hv1⟩ := own_shape hown1
          have HN : Hid (CpSt wo w1 v1 (x :: ls.take (t + 1))) := by
            show CpSt _ _ _ _
            rw [cons_take (by rw [HLL.out]; exact htl)]
            exact HP.out.step (z := (z : Int)) (by rw [HZ.out]) (by rw [len_take1 HLL.out ht]; exact hown1) hgrow1
          subst hv1
          clear hown1 hgrow1 hnn hown
          go_wp2_with fail
          go_roundw
          case rel => exact ⟨t + 1, so1, sc1, by omega, rfl, by go_num, HN⟩
          case measure => simp [intOf]; omega
        · obtain rfl : t = ln := by omega
          have hnl : ¬ (t : Int) < (t : Int) := by omega
          have HU : Hid (RU wr (.slice so (t + 1) sc) (x + 10 * l)) := by
            have h := HP.out
            rw [List.take_of_length_le (by rw [HLL.out]; exact Nat.le_refl _)] at h
            have := h.ru hx9 HDL.out (by rw [HLL.out]; omega)
            rw [HVL.out] at this
            exact this
          have HBo := Hid.mk HP.out.below
          clear HP
          go_wp2_with fail
          refine (w_trimR false _ _ _ HU.out).mono ?_
          rintro e w2 ⟨ro, rn, rc, rfl, HV, hb2⟩
          rw [Bool.false_and]
          have hfd := run_field1 false ro rn rc
          have HB2 := Hid.mk (below_more HBo.out hb2)
          clear hb2 HU HBo
          go_wp2_with fail
          go_loopw [5, 9] (fun lv d wr => ∃ (dd : Nat) (po : Option Addr) (pn pc l2 : Nat), dd ≤ 9 ∧ lv = .slice po pn pc ∧ d = .int .i64 dd ∧ Hid (RV wr (.slice po pn pc) l2 ∧ dd * y + l2 = x + 10 * l ∧ Below wo.heap.size wo wr)) (fun _ d _ => 9 - (intOf d).toNat)
          case atStart => exact ⟨0, ro, rn, rc, x + 10 * l, by omega, rfl, rfl, ⟨HV.out, by omega, HB2.out⟩⟩
          case round =>
            clear hfd
            obtain ⟨dd, po, pn, pc, l2, hdd, rfl, rfl, HT⟩ := hrel
            have HKL : Hid (l2 < 10 ^ (K + 1) ∧ y < 10 ^ (K + 1)) := by
              have h1 := HT.out.2.1
              have h2 := HLY.out
              have h3 := HKY.out
              show _ ∧ _
              rw [Nat.pow_succ]
              generalize dd * y = P at *
              generalize 10 ^ K = Q at *
              omega
            have HYr := Hid.mk (hYw.out.keep HT.out.2.2)
            have HC := Hid.mk (rsize_any HT.out.1 HYr.out HKL.out.1 HKL.out.2 (by omega) wr (Below.refl _ _))
            by_cases hlt : l2 < y
            · have hcm : Pl.cmpI l2 y = -1 := Pl.cmp_less hlt
              have HLT := Hid.mk hlt
              clear hlt
              go_wp2_with fail
              refine HC.out.mono ?_
              rintro e w3 ⟨rfl, hb3⟩
              rw [hcm]
              have HT3 : Hid (RV w3 (.slice po pn pc) l2 ∧ Below wo.heap.size wo w3) := ⟨HT.out.1.keep hb3, below_more HT.out.2.2 hb3⟩
              have HEq := Hid.mk HT.out.2.1
              have HC1 := Hid.mk (cp_one w3 dd)
              clear hb3 hcm HC HT HYr
              go_wp2_with fail
              go_loopw [10, 11] (fun nx j wr => ∃ (t : Nat) (so : Option Addr) (sc : Nat), t ≤ qn ∧ nx = .slice so (t + 1) sc ∧ j = .int .i64 t ∧ Hid (CpSt w3 wr (.slice so (t + 1) sc) (dd :: qs.take t))) (fun _ j _ => qn - (intOf j).toNat)
              case atStart => exact ⟨0, _, _, Nat.zero_le _, rfl, rfl, HC1⟩
              case round =>
                obtain ⟨t, so, sc, ht, rfl, rfl, HP⟩ := hrel
                by_cases htl : t < qn
                · have htl' : (t : Int) < (qn : Int) := by omega
                  obtain ⟨z, hzz⟩ : ∃ z, z = qs.getD t 0 := ⟨_, rfl⟩
                  obtain ⟨bl, offl, hlo, cz⟩ : ∃ bl offl, qo = some ⟨bl, offl, none⟩ ∧ wr.cell? ⟨bl, offl + t, none⟩ = some (.int .i64 (z : Int)) := by
                    rcases ((HQ.out.keep HT3.out.2).keep HP.out.below).open' with ⟨e, _⟩ | ⟨hp, bl, offl, cap, e, hc, hlt2, hcell⟩
                    · have := HQQ.out; rw [e] at this; simp at this; omega
                    · cases e
                      exact ⟨bl, offl, rfl, by rw [hzz]; exact hcell t (by have := HQQ.out; omega)⟩
                  subst hlo
                  have hown := HP.out.own
                  rw [len_take1 HQQ.out ht] at hown
                  have hsz := HP.out.below.size
                  have HZ := Hid.mk hzz
                  clear hzz
                  go_wp2_with (at_builtin; refine wpList_append_own _ rfl _ _ 46 rfl w3.heap.size 3 i0 (.int .i64 0) 1 8 Tryd.underlying46 hi0 hz0 hz1 hz2 rfl (by decide) _ _ _ rfl (hown.alloc _) ⟨wr.heap.size, 0, none⟩ 1 1 [.int .i64 (z : Int)] rfl rfl (by intro j u hj; match j, hj with | 0, hj => simp at hj; subst hj; simp [Addr.add]) (by intro u hu; simp at hu; subst hu; rfl) (by unfold maxLen; omega) (by omega) (by simp; omega) ?_)
                  intro v1 w1 hown1 hgrow1 hnn
                  obtain ⟨so1, sc1, hv1⟩ := own_shape hown1
                  have HN : Hid (CpSt w3 w1 v1 (dd :: qs.take (t + 1))) := by
                    show CpSt _ _ _ _
                    rw [cons_take (by rw [HQQ.out]; exact htl)]
                    exact HP.out.step (z := (z : Int)) (by rw [HZ.out]) (by rw [len_take1 HQQ.out ht]; exact hown1) hgrow1
                  subst hv1
                  clear hown1 hgrow1 hnn hown
                  go_wp2_with fail
                  go_roundw
                  case rel => exact ⟨t + 1, so1, sc1, by omega, rfl, by go_num, HN⟩
                  case measure => simp [intOf]; omega
                · obtain rfl : t = qn := by omega
                  have hnl : ¬ (t : Int) < (t : Int) := by omega
                  have HN : Hid (OvSt w wr (.slice so (t + 1) sc) (.slice po pn pc) xs y m) := by
                    have h := HP.out
                    rw [List.take_of_length_le (by rw [HQQ.out]; exact Nat.le_refl _)] at h
                    exact ov_step (q := 0) (by rw [HLA.out]; omega) HXX.out.symm HQL.out HOV.out HEq.out HLT.out (by omega) HDQ.out (own_nums h.own) (HT3.out.1.keep h.below) (below_more HBW.out (below_more HT3.out.2 h.below))
                  clear HP
                  go_wp2_with fail
                  go_roundw
                  case measure => simp [intOf]
                  exact ⟨m, so, t + 1, sc, po, pn, pc, by omega, rfl, rfl, r_int_eq (by omega), HN⟩
            · have hd9 : dd < 9 := by
                have h1 := HT.out.2.1
                have h2 := HLY.out
                rcases Nat.lt_or_ge dd 9 with h | h
                · exact h
                · obtain rfl : dd = 9 := by omega
                  omega
              obtain ⟨cm, hcm, hcv⟩ : ∃ cm : Int, Pl.cmpI l2 y = cm ∧ 0 ≤ cm := ⟨_, rfl, by unfold Pl.cmpI; split <;> first | omega | (split <;> omega)⟩
              have HLT := Hid.mk hlt
              have HCM := Hid.mk hcm
              clear hlt hcm
              go_wp2_with fail
              refine HC.out.mono ?_
              rintro e w3 ⟨rfl, hb3⟩
              rw [HCM.out]
              have HD := Hid.mk (rrest_any HT.out.1 HYr.out HKL.out.1 (by have := HLT.out; omega) (by omega) w3 hb3)
              have HB3 := Hid.mk (below_more HT.out.2.2 hb3)
              clear hb3 HC
              go_wp2_with fail
              refine HD.out.mono ?_
              rintro e w4 ⟨so2, sn2, sc2, rfl, HN, hb4⟩
              have HB4 := Hid.mk (below_more HB3.out hb4)
              clear hb4 HD
              go_wp2_with fail
              refine (w_trimR false _ _ _ HN.out).mono ?_
              rintro e w5 ⟨so3, sn3, sc3, rfl, HV5, hb5⟩
              rw [Bool.false_and]
              have hfd := run_field1 false so3 sn3 sc3
              have HB5 := Hid.mk (below_more HB4.out hb5)
              clear hb5
              go_wp2_with fail
              go_roundw
              case measure => simp [intOf]; omega
              refine ⟨dd + 1, so3, sn3, sc3, l2 - y, by omega, rfl, by go_num, ⟨HV5.out, ?_, HB5.out⟩⟩
              have h1 := HT.out.2.1
              have h2 := HLT.out
              rw [Nat.add_mul]
              omega
end Go.Proofs.YtdegoefedkidcaaDoor
namespace Go.Proofs.YtdegoefedkidcaaDoor
open Go.RowKit
set_option linter.unusedVariables false
set_option linter.unusedSimpArgs false

theorem sgn_abs (b : Bool) (x : Nat) : (sgn b x).natAbs = x := by cases b <;> simp [sgn]
theorem sgn_mul_bound {b1 b2 bl : Bool} {x1 x2 x K : Nat} (h1 : x1 < 10 ^ K) (h2 : x2 < 10 ^ K) (h : sgn bl x = sgn b1 x1 * sgn b2 x2) : x < 10 ^ (K + K) := by
  have : x = x1 * x2 := by
    have := congrArg Int.natAbs h
    rw [Int.natAbs_mul, sgn_abs, sgn_abs, sgn_abs] at this
    exact this
  rw [this, Nat.pow_add]
  exact Nat.mul_lt_mul'' h1 h2

set_option maxRecDepth 100000 in
set_option maxHeartbeats 1600000 in
theorem w_rMul (a b : ByteArray) (w : World) (ha : a.size ≤ 4294967296) (hb : b.size ≤ 4294967296) (fa : Pl.formed a.data.toList = true) (fb : Pl.formed b.data.toList = true) :
    Calls Tryd.prog 29 #[.string a, .string b] w fun e w' => Ans w w' e (Pl.ival a.data.toList * Pl.ival b.data.toList) := by
  have HF := Hid.mk fa
  have HG := Hid.mk fb
  have hm : a.size ≤ maxLen := by unfold maxLen; omega
  have hm2 : b.size ≤ maxLen := by unfold maxLen; omega
  obtain ⟨K, hK⟩ : ∃ K, K = max a.size b.size := ⟨_, rfl⟩
  have KA : Hid (Pl.dvl (Pl.body a.data.toList) < 10 ^ K) := pow_up (dvl_size fa) (by omega)
  have KB : Hid (Pl.dvl (Pl.body b.data.toList) < 10 ^ K) := pow_up (dvl_size fb) (by omega)
  have hK2 : K ≤ 4294967296 := by omega
  clear fa fb hK
  go_enter Tryd.func29, Tryd.ntmps29
  go_wp2_with fail
  refine (w_rFormed a _ hm).mono ?_
  rintro e w0 ⟨rfl, hw⟩
  obtain rfl := hw.symm
  rw [HF.out]
  go_wp2_with fail
  refine (w_rFormed b _ hm2).mono ?_
  rintro e w0 ⟨rfl, hw⟩
  obtain rfl := hw.symm
  rw [HG.out]
  go_wp2_with fail
  refine (w_readV a _ ha HF.out).mono ?_
  rintro e w1 ⟨ro, rn, rc, rfl, HV, hb1⟩
  have HB1 := Hid.mk hb1
  clear hb1
  go_wp2_with fail
  refine (w_readV b _ hb HG.out).mono ?_
  rintro e w2 ⟨qo, qn, qc, rfl, HW, hb2⟩
  have HV2 := Hid.mk (HV.out.keep hb2)
  have HB2 := Hid.mk (below_more HB1.out hb2)
  clear hb2
  go_wp2_with fail
  refine (w_rtimes _ _ _ _ _ _ K _ HV2.out HW.out KA.out KB.out (by omega)).mono ?_
  rintro e w3 ⟨bl, so, sn, sc, x, rfl, HX, HS, HP, hb3⟩
  have HB3 := Hid.mk (below_more HB2.out hb3)
  have HXK : Hid (x < 10 ^ (K + K)) := sgn_mul_bound KA.out KB.out HS.out
  clear hb3
  go_wp2_with fail
  refine (w_rwrite bl _ x (K + K) _ HX.out HXK.out (by omega) HP.out).mono ?_
  rintro e w4 ⟨r, rfl, h1, h2, hb4⟩
  have HR := Hid.mk (And.intro h1 (And.intro h2 (below_more HB3.out hb4)))
  clear h1 h2 hb4
  go_wp2_with fail
  go_ret2
  exact ⟨r, rfl, HR.out.1, by rw [HR.out.2.1, HS.out]; rfl, HR.out.2.2⟩

end Go.Proofs.YtdegoefedkidcaaDoor
