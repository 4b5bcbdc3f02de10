import Derived.Test.YtdegoefedkidcaaDoorM35
namespace Go.Proofs.YtdegoefedkidcaaDoor
open Go.RowKit
set_option linter.unusedVariables false
set_option linter.unusedSimpArgs false

theorem sgn_div' (b1 b2 : Bool) (x1 x2 : Nat) : sgn (!(b1 == b2)) (x1 / x2) = Int.tdiv (sgn b1 x1) (sgn b2 x2) := by
  rw [← sgn_div]; rfl

set_option maxRecDepth 100000 in
set_option maxHeartbeats 800000 in
theorem w_rDiv_zero (a b : ByteArray) (w : World) (ha : a.size ≤ 4294967296) (hb : b.size ≤ 4294967296) (fa : Pl.formed a.data.toList = true) (h0 : b.data.toList = [48]) :
    Calls Tryd.prog 31 #[.string a, .string b] w fun e w' => e = .returned (.tuple #[.string ⟨#[]⟩, .int .i64 10]) ∧ Below w.heap.size w w' := by
  have HF := Hid.mk fa
  have HG : Hid (Pl.formed b.data.toList = true) := by show _ = _; rw [h0]; rfl
  have hm : a.size ≤ maxLen := by unfold maxLen; omega
  have hm2 : b.size ≤ maxLen := by unfold maxLen; omega
  have hne : (b.toList == [48]) = true := by rw [Lib.toList_data, h0]; rfl
  clear fa h0
  go_enter Tryd.func31, Tryd.ntmps31
  go_wp2_with fail
  refine (w_rFormed a _ hm).mono ?_
  rintro e w0 ⟨rfl, hw⟩
  obtain rfl := hw.symm
  rw [HF.out]
  go_wp2_with fail
  refine (w_rFormed b _ hm2).mono ?_
  rintro e w0 ⟨rfl, hw⟩
  obtain rfl := hw.symm
  rw [HG.out]
  go_wp2_with fail
  go_ret2
  exact ⟨rfl, Below.refl _ _⟩

set_option maxRecDepth 100000 in
set_option maxHeartbeats 800000 in
theorem w_rMod_zero (a b : ByteArray) (w : World) (ha : a.size ≤ 4294967296) (hb : b.size ≤ 4294967296) (fa : Pl.formed a.data.toList = true) (h0 : b.data.toList = [48]) :
    Calls Tryd.prog 33 #[.string a, .string b] w fun e w' => e = .returned (.tuple #[.string ⟨#[]⟩, .int .i64 10]) ∧ Below w.heap.size w w' := by
  have HF := Hid.mk fa
  have HG : Hid (Pl.formed b.data.toList = true) := by show _ = _; rw [h0]; rfl
  have hm : a.size ≤ maxLen := by unfold maxLen; omega
  have hm2 : b.size ≤ maxLen := by unfold maxLen; omega
  have hne : (b.toList == [48]) = true := by rw [Lib.toList_data, h0]; rfl
  clear fa h0
  go_enter Tryd.func33, Tryd.ntmps33
  go_wp2_with fail
  refine (w_rFormed a _ hm).mono ?_
  rintro e w0 ⟨rfl, hw⟩
  obtain rfl := hw.symm
  rw [HF.out]
  go_wp2_with fail
  refine (w_rFormed b _ hm2).mono ?_
  rintro e w0 ⟨rfl, hw⟩
  obtain rfl := hw.symm
  rw [HG.out]
  go_wp2_with fail
  go_ret2
  exact ⟨rfl, Below.refl _ _⟩

set_option maxRecDepth 100000 in
set_option maxHeartbeats 1600000 in
theorem w_rDiv (a b : ByteArray) (w : World) (ha : a.size ≤ 4294967296) (hb : b.size ≤ 4294967296) (fa : Pl.formed a.data.toList = true) (fb : Pl.formed b.data.toList = true) (h0 : b.data.toList ≠ [48]) :
    Calls Tryd.prog 31 #[.string a, .string b] w fun e w' => Ans w w' e (Int.tdiv (Pl.ival a.data.toList) (Pl.ival b.data.toList)) := by
  have HF := Hid.mk fa
  have HG := Hid.mk fb
  have hm : a.size ≤ maxLen := by unfold maxLen; omega
  have hm2 : b.size ≤ maxLen := by unfold maxLen; omega
  obtain ⟨K, hK⟩ : ∃ K, K = max a.size b.size := ⟨_, rfl⟩
  have KA : Hid (Pl.dvl (Pl.body a.data.toList) < 10 ^ K) := pow_up (dvl_size fa) (by omega)
  have KB : Hid (Pl.dvl (Pl.body b.data.toList) < 10 ^ K) := pow_up (dvl_size fb) (by omega)
  have HPos : Hid (0 < Pl.dvl (Pl.body b.data.toList)) := dvl_pos fb h0
  have hne : (b.toList == [48]) = false := by rw [Lib.toList_data]; simpa using h0
  have hK2 : K ≤ 4294967296 := by omega
  clear fa fb hK h0
  go_enter Tryd.func31, Tryd.ntmps31
  go_wp2_with fail
  refine (w_rFormed a _ hm).mono ?_
  rintro e w0 ⟨rfl, hw⟩
  obtain rfl := hw.symm
  rw [HF.out]
  go_wp2_with fail
  refine (w_rFormed b _ hm2).mono ?_
  rintro e w0 ⟨rfl, hw⟩
  obtain rfl := hw.symm
  rw [HG.out]
  go_wp2_with fail
  refine (w_readV a _ ha HF.out).mono ?_
  rintro e w1 ⟨ro, rn, rc, rfl, HV, hb1⟩
  have HB1 := Hid.mk hb1
  clear hb1 hne
  go_wp2_with fail
  refine (w_readV b _ hb HG.out).mono ?_
  rintro e w2 ⟨qo, qn, qc, rfl, HW, hb2⟩
  generalize hna : Pl.neg a.data.toList = ba at *
  generalize hnb : Pl.neg b.data.toList = bb at *
  have HNA := Hid.mk hna
  have HNB := Hid.mk hnb
  clear hna hnb
  have hsz : w1.heap.size + 1 ≤ w2.heap.size := by have := hb2.size; simpa using this
  have c00 : w2.cell? ⟨w1.heap.size, 0, none⟩ = some (.bool ba) := below_cells hb2 (by simp) (by simp [go_sem])
  have c01 : w2.cell? ⟨w1.heap.size, 1, none⟩ = some (.slice ro rn rc) := below_cells hb2 (by simp) (by simp [go_sem])
  have HV2 : Hid (RV w2 (.slice ro rn rc) (Pl.dvl (Pl.body a.data.toList))) := (HV.out.keep (below1 w1 _)).keep hb2
  have HB2 : Hid (Below w.heap.size w w2) := below_more (below_more HB1.out (below1 w1 _)) hb2
  clear hb2 HV HB1
  have e00 : ∀ o, (w2.alloc o).cell? ⟨w1.heap.size, 0, none⟩ = some (.bool ba) := fun o => below_cells (below1 w2 o) (by omega) c00
  have e01 : ∀ o, (w2.alloc o).cell? ⟨w1.heap.size, 1, none⟩ = some (.slice ro rn rc) := fun o => below_cells (below1 w2 o) (by omega) c01
  go_wp2_with fail
  obtain ⟨w3, hw3⟩ : ∃ w3 : World, w3 = w2.alloc (.cells #[.bool bb, .slice qo qn qc] 48) := ⟨_, rfl⟩
  have d00 : w3.cell? ⟨w1.heap.size, 0, none⟩ = some (.bool ba) := by rw [hw3]; exact e00 _
  have d10 : w3.cell? ⟨w2.heap.size, 0, none⟩ = some (.bool bb) := by rw [hw3]; simp [go_sem]
  have HV3 : Hid (RV w3 (.slice ro rn rc) (Pl.dvl (Pl.body a.data.toList))) := by show RV _ _ _; rw [hw3]; exact HV2.out.keep (below1 w2 _)
  have HW3 : Hid (RV w3 (.slice qo qn qc) (Pl.dvl (Pl.body b.data.toList))) := by show RV _ _ _; rw [hw3]; exact HW.out.keep (below1 w2 _)
  have HB3 : Hid (Below w.heap.size w w3) := by show Below _ _ _; rw [hw3]; exact below_more HB2.out (below1 w2 _)
  have hsz3 : w2.heap.size + 1 ≤ w3.heap.size := by rw [hw3]; simp
  rw [← hw3]
  clear hw3 e00 e01 c00 c01 HV2 HW HB2
  refine (w_rover _ _ _ _ K _ HV3.out HW3.out KA.out KB.out (by omega) HPos.out).mono ?_
  rintro e w4 ⟨so, sn, sc, to, tn, tc, rfl, HQ, HL, hb4⟩
  have f00 := below_cells hb4 (by omega) d00
  have f10 := below_cells hb4 (by omega) d10
  have HB4 := Hid.mk (below_more HB3.out hb4)
  clear hb4 d00 d10
  go_wp2_with fail
  refine (w_trimR (!(ba == bb)) _ _ _ HQ.out).mono ?_
  rintro e w5 ⟨xo, xn, xc, rfl, HX, hb5⟩
  have HB5 := Hid.mk (below_more HB4.out hb5)
  clear hb5 f00 f10
  generalize hfl : (!(ba == bb) && decide (0 < Pl.dvl (Pl.body a.data.toList) / Pl.dvl (Pl.body b.data.toList))) = bl
  have HFL := Hid.mk hfl
  clear hfl
  have HXK : Hid (Pl.dvl (Pl.body a.data.toList) / Pl.dvl (Pl.body b.data.toList) < 10 ^ K) := Nat.lt_of_le_of_lt (Nat.div_le_self _ _) KA.out
  go_wp2_with fail
  refine (w_rwrite bl _ _ K _ HX.out HXK.out (by omega) (flag_pos HFL.out)).mono ?_
  rintro e w6 ⟨r, rfl, h1, h2, hb6⟩
  have HR := Hid.mk (And.intro h1 (And.intro h2 (below_more HB5.out hb6)))
  clear h1 h2 hb6
  go_wp2_with fail
  go_ret2
  exact ⟨r, rfl, HR.out.1, by rw [HR.out.2.1, flag_sgn HFL.out rfl, sgn_div', HNA.out.symm, HNB.out.symm, sgn_ival, sgn_ival], HR.out.2.2⟩

set_option maxRecDepth 100000 in
set_option maxHeartbeats 1600000 in
theorem w_rMod (a b : ByteArray) (w : World) (ha : a.size ≤ 4294967296) (hb : b.size ≤ 4294967296) (fa : Pl.formed a.data.toList = true) (fb : Pl.formed b.data.toList = true) (h0 : b.data.toList ≠ [48]) :
    Calls Tryd.prog 33 #[.string a, .string b] w fun e w' => Ans w w' e (Int.tmod (Pl.ival a.data.toList) (Pl.ival b.data.toList)) := by
  have HF := Hid.mk fa
  have HG := Hid.mk fb
  have hm : a.size ≤ maxLen := by unfold maxLen; omega
  have hm2 : b.size ≤ maxLen := by unfold maxLen; omega
  obtain ⟨K, hK⟩ : ∃ K, K = max a.size b.size := ⟨_, rfl⟩
  have KA : Hid (Pl.dvl (Pl.body a.data.toList) < 10 ^ K) := pow_up (dvl_size fa) (by omega)
  have KB : Hid (Pl.dvl (Pl.body b.data.toList) < 10 ^ K) := pow_up (dvl_size fb) (by omega)
  have HPos : Hid (0 < Pl.dvl (Pl.body b.data.toList)) := dvl_pos fb h0
  have hne : (b.toList == [48]) = false := by rw [Lib.toList_data]; simpa using h0
  have hK2 : K ≤ 4294967296 := by omega
  clear fa fb hK h0
  go_enter Tryd.func33, Tryd.ntmps33
  go_wp2_with fail
  refine (w_rFormed a _ hm).mono ?_
  rintro e w0 ⟨rfl, hw⟩
  obtain rfl := hw.symm
  rw [HF.out]
  go_wp2_with fail
  refine (w_rFormed b _ hm2).mono ?_
  rintro e w0 ⟨rfl, hw⟩
  obtain rfl := hw.symm
  rw [HG.out]
  go_wp2_with fail
  refine (w_readV a _ ha HF.out).mono ?_
  rintro e w1 ⟨ro, rn, rc, rfl, HV, hb1⟩
  have HB1 := Hid.mk hb1
  clear hb1 hne
  go_wp2_with fail
  refine (w_readV b _ hb HG.out).mono ?_
  rintro e w2 ⟨qo, qn, qc, rfl, HW, hb2⟩
  generalize hna : Pl.neg a.data.toList = ba at *
  generalize hnb : Pl.neg b.data.toList = bb at *
  have HNA := Hid.mk hna
  have HNB := Hid.mk hnb
  clear hna hnb
  have hsz : w1.heap.size + 1 ≤ w2.heap.size := by have := hb2.size; simpa using this
  have c00 : w2.cell? ⟨w1.heap.size, 0, none⟩ = some (.bool ba) := below_cells hb2 (by simp) (by simp [go_sem])
  have c01 : w2.cell? ⟨w1.heap.size, 1, none⟩ = some (.slice ro rn rc) := below_cells hb2 (by simp) (by simp [go_sem])
  have HV2 : Hid (RV w2 (.slice ro rn rc) (Pl.dvl (Pl.body a.data.toList))) := (HV.out.keep (below1 w1 _)).keep hb2
  have HB2 : Hid (Below w.heap.size w w2) := below_more (below_more HB1.out (below1 w1 _)) hb2
  clear hb2 HV HB1
  have e00 : ∀ o, (w2.alloc o).cell? ⟨w1.heap.size, 0, none⟩ = some (.bool ba) := fun o => below_cells (below1 w2 o) (by omega) c00
  have e01 : ∀ o, (w2.alloc o).cell? ⟨w1.heap.size, 1, none⟩ = some (.slice ro rn rc) := fun o => below_cells (below1 w2 o) (by omega) c01
  go_wp2_with fail
  obtain ⟨w3, hw3⟩ : ∃ w3 : World, w3 = w2.alloc (.cells #[.bool bb, .slice qo qn qc] 48) := ⟨_, rfl⟩
  have d00 : w3.cell? ⟨w1.heap.size, 0, none⟩ = some (.bool ba) := by rw [hw3]; exact e00 _
  have d10 : w3.cell? ⟨w2.heap.size, 0, none⟩ = some (.bool bb) := by rw [hw3]; simp [go_sem]
  have HV3 : Hid (RV w3 (.slice ro rn rc) (Pl.dvl (Pl.body a.data.toList))) := by show RV _ _ _; rw [hw3]; exact HV2.out.keep (below1 w2 _)
  have HW3 : Hid (RV w3 (.slice qo qn qc) (Pl.dvl (Pl.body b.data.toList))) := by show RV _ _ _; rw [hw3]; exact HW.out.keep (below1 w2 _)
  have HB3 : Hid (Below w.heap.size w w3) := by show Below _ _ _; rw [hw3]; exact below_more HB2.out (below1 w2 _)
  have hsz3 : w2.heap.size + 1 ≤ w3.heap.size := by rw [hw3]; simp
  rw [← hw3]
  clear hw3 e00 e01 c00 c01 HV2 HW HB2
  refine (w_rover _ _ _ _ K _ HV3.out HW3.out KA.out KB.out (by omega) HPos.out).mono ?_
  rintro e w4 ⟨so, sn, sc, to, tn, tc, rfl, HQ, HL, hb4⟩
  have f00 := below_cells hb4 (by omega) d00
  have f10 := below_cells hb4 (by omega) d10
  have HB4 := Hid.mk (below_more HB3.out hb4)
  clear hb4 d00 d10
  go_wp2_with fail
  refine (w_trimR (ba) _ _ _ (HL.out.ru (K := K) (Nat.lt_of_le_of_lt (Nat.mod_le _ _) KA.out) (by omega))).mono ?_
  rintro e w5 ⟨xo, xn, xc, rfl, HX, hb5⟩
  have HB5 := Hid.mk (below_more HB4.out hb5)
  clear hb5 f00 f10
  generalize hfl : (ba && decide (0 < Pl.dvl (Pl.body a.data.toList) % Pl.dvl (Pl.body b.data.toList))) = bl
  have HFL := Hid.mk hfl
  clear hfl
  have HXK : Hid (Pl.dvl (Pl.body a.data.toList) % Pl.dvl (Pl.body b.data.toList) < 10 ^ K) := Nat.lt_of_le_of_lt (Nat.mod_le _ _) KA.out
  go_wp2_with fail
  refine (w_rwrite bl _ _ K _ HX.out HXK.out (by omega) (flag_pos HFL.out)).mono ?_
  rintro e w6 ⟨r, rfl, h1, h2, hb6⟩
  have HR := Hid.mk (And.intro h1 (And.intro h2 (below_more HB5.out hb6)))
  clear h1 h2 hb6
  go_wp2_with fail
  go_ret2
  exact ⟨r, rfl, HR.out.1, by rw [HR.out.2.1, flag_sgn HFL.out rfl, sgn_mod ba bb, HNA.out.symm, HNB.out.symm, sgn_ival, sgn_ival], HR.out.2.2⟩

end Go.Proofs.YtdegoefedkidcaaDoor
namespace Go.Proofs.YtdegoefedkidcaaDoor
open Go.RowKit
set_option linter.unusedVariables false
set_option linter.unusedSimpArgs false

/-- while a root is sought: the digits from place k on are found -/
structure RtSt (u1 wr : World) (N X k : Nat) (hi : List Nat) : Prop where
  row : IRow wr u1.heap.size (List.replicate k 0 ++ hi)
  len : k + hi.length = N
  dig : Pl.dig 10 hi
  below : Below u1.heap.size u1 wr
  lo : (10 ^ k * Pl.val 10 hi) * (10 ^ k * Pl.val 10 hi) ≤ X
  up : X < (10 ^ k * Pl.val 10 hi + 10 ^ k) * (10 ^ k * Pl.val 10 hi + 10 ^ k)

/-- while a digit of it is sought: all above dd are too much -/
structure RiSt (u1 wr : World) (X m dd : Nat) (hi : List Nat) : Prop where
  row : IRow wr u1.heap.size (List.replicate (m + 1) 0 ++ hi)
  below : Below u1.heap.size u1 wr
  up : X < (10 ^ (m + 1) * Pl.val 10 hi + (dd + 1) * 10 ^ m) * (10 ^ (m + 1) * Pl.val 10 hi + (dd + 1) * 10 ^ m)

theorem val_high (m : Nat) (hi : List Nat) : Pl.val 10 (List.replicate m 0 ++ hi) = 10 ^ m * Pl.val 10 hi := by
  rw [Pl.val_append, val_zeros]; simp
theorem zeros_cons (m : Nat) (hi : List Nat) : List.replicate (m + 1) 0 ++ hi = List.replicate m 0 ++ (0 :: hi) := by
  rw [List.replicate_succ', List.append_assoc]; rfl

theorem ri_start {u1 wr : World} {N X m : Nat} {hi : List Nat} (h : RtSt u1 wr N X (m + 1) hi) : RiSt u1 wr X m 9 hi :=
  ⟨h.row, h.below, by have := h.up; rw [show 10 ^ (m + 1) = (9 + 1) * 10 ^ m by rw [Nat.pow_succ]; omega] at this ⊢; exact this⟩

theorem high_zero (m v : Nat) : 10 ^ m * (0 + 10 * v) = 10 ^ (m + 1) * v := by rw [Nat.zero_add, Nat.pow_succ, Nat.mul_assoc]
theorem high_dd (m v d : Nat) : 10 ^ m * (d + 10 * v) = 10 ^ (m + 1) * v + d * 10 ^ m := by rw [Nat.mul_add, Nat.pow_succ, Nat.mul_assoc, Nat.mul_comm (10 ^ m) d]; omega

theorem ri_zero {u1 wr : World} {N X m : Nat} {hi : List Nat} (h : RiSt u1 wr X m 0 hi) (hl : m + 1 + hi.length = N) (hd : Pl.dig 10 hi) (hlo : (10 ^ (m + 1) * Pl.val 10 hi) * (10 ^ (m + 1) * Pl.val 10 hi) ≤ X) : RtSt u1 wr N X m (0 :: hi) := by
  refine ⟨by rw [← zeros_cons]; exact h.row, by simp; omega, Pl.dig_cons.2 ⟨by decide, hd⟩, h.below, ?_, ?_⟩
  · rw [Pl.val_cons, high_zero]; exact hlo
  · rw [Pl.val_cons, high_zero]; have := h.up; simpa using this

theorem ri_put {u1 wr : World} {X m dd : Nat} {hi : List Nat} (h : RiSt u1 wr X m dd hi) : IRow (wr.setCell ⟨u1.heap.size, m, none⟩ (.int .i64 (dd : Int))) u1.heap.size (List.replicate m 0 ++ (dd :: hi)) ∧ Below u1.heap.size u1 (wr.setCell ⟨u1.heap.size, m, none⟩ (.int .i64 (dd : Int))) := by
  refine ⟨?_, h.below.setCell (Nat.le_refl _) _⟩
  have := h.row.set m dd (by simp; omega)
  rw [set_zeros] at this
  exact this

theorem ri_hit {u1 wr : World} {N X m dd : Nat} {hi : List Nat} (hrow : IRow wr u1.heap.size (List.replicate m 0 ++ (dd :: hi))) (hb : Below u1.heap.size u1 wr) (hl : m + 1 + hi.length = N) (hd : Pl.dig 10 hi) (hd9 : dd < 10) (hle : (10 ^ m * (dd + 10 * Pl.val 10 hi)) * (10 ^ m * (dd + 10 * Pl.val 10 hi)) ≤ X)
    (hup : X < (10 ^ (m + 1) * Pl.val 10 hi + (dd + 1) * 10 ^ m) * (10 ^ (m + 1) * Pl.val 10 hi + (dd + 1) * 10 ^ m)) : RtSt u1 wr N X m (dd :: hi) := by
  refine ⟨hrow, by simp; omega, Pl.dig_cons.2 ⟨hd9, hd⟩, hb, hle, ?_⟩
  rw [Pl.val_cons, high_dd, Nat.add_assoc, ← Nat.succ_mul]
  exact hup

theorem ri_miss {u1 wr : World} {X m dd : Nat} {hi : List Nat} (hrow : IRow wr u1.heap.size (List.replicate m 0 ++ (dd :: hi))) (hb : Below u1.heap.size u1 wr) (hdd : 0 < dd) (hgt : X < (10 ^ m * (dd + 10 * Pl.val 10 hi)) * (10 ^ m * (dd + 10 * Pl.val 10 hi))) :
    RiSt u1 (wr.setCell ⟨u1.heap.size, m, none⟩ (.int .i64 0)) X m (dd - 1) hi := by
  refine ⟨?_, hb.setCell (Nat.le_refl _) _, ?_⟩
  · have := hrow.set m 0 (by simp)
    rw [List.set_append_right _ _ (by simp)] at this
    rw [zeros_cons]
    simpa using this
  · rw [high_dd] at hgt
    rw [show dd - 1 + 1 = dd by omega]
    exact hgt

theorem row_ru {wr : World} {g N : Nat} {ls : List Nat} (hrow : IRow wr g ls) (hl : ls.length = N) (hd : Pl.dig 10 ls) (hN : N ≤ 1099511627776) : RU wr (.slice (some ⟨g, 0, none⟩) N N) (Pl.val 10 ls) :=
  ⟨ls, hrow.nums (pre := []) (post := []) (by simp) rfl hl (Nat.le_refl _), hd, rfl, by omega⟩

theorem IRow.keepB {w w' : World} {g : Nat} {xs : List Nat} (h : IRow w g xs) (hb : Below w.heap.size w w') : IRow w' g xs := h.keep hb

theorem rt_start {u1 : World} {N X L : Nat} (hX : X < 10 ^ L) (hL : L ≤ N + N) : RtSt u1 (u1.alloc (izrow N)) N X N [] := by
  refine ⟨by simpa using irow_new u1 N, by simp, Pl.dig_nil _, (Below.refl _ _).alloc (Nat.le_refl _) _, by simp [Pl.val], ?_⟩
  simp only [Pl.val_nil, Nat.mul_zero, Nat.zero_add]
  rw [← Nat.pow_add]
  exact Nat.lt_of_lt_of_le hX (Nat.pow_le_pow_right (by decide) hL)

theorem rn_pos {bl : Bool} {x v : Nat} (h : sgn bl x = sgn false v * sgn false v) (hp : bl = true → 0 < x) : x = v * v := by
  cases bl with
  | false => simp only [sgn] at h; simp at h; exact_mod_cast h
  | true =>
    have := hp rfl
    simp only [sgn] at h
    simp at h
    have h2 : (0 : Int) ≤ (v : Int) * (v : Int) := Int.mul_nonneg (by omega) (by omega)
    omega
end Go.Proofs.YtdegoefedkidcaaDoor
