import Derived.Test.YtfcbeohkhljboaaDoorM34
import Derived.Test.YtfcbeohkhljboaaDoorM40
namespace Go.Proofs.YtfcbeohkhljboaaDoor
open Go.RowKit
set_option linter.unusedVariables false
set_option linter.unusedSimpArgs false

theorem run_field1 (b : Bool) (ro : Option Addr) (rn rc : Nat) (u : World) : (Instr.field 48 (.agg #[.bool b, .slice ro rn rc]) 1).run Tryd.prog u = .ok (.slice ro rn rc) u := by kernel_rfl

theorem neg_pos {l : List UInt8} (h : Pl.formed l = true) (hn : Pl.neg l = true) : 0 < Pl.dvl (Pl.body l) := Pl.plain_pos (Pl.formed_neg h hn)
theorem dvl_size {s : ByteArray} (h : Pl.formed s.data.toList = true) : Pl.dvl (Pl.body s.data.toList) < 10 ^ s.size :=
  Nat.lt_of_lt_of_le (Pl.dvl_lt _ (Pl.canon_dig (Pl.formed_canon h))) (Nat.pow_le_pow_right (by decide) (Pl.body_le s))

theorem w_readV (s : ByteArray) (w : World) (hs : s.size ≤ 4294967296) (h : Pl.formed s.data.toList = true) :
    Calls Tryd.prog 38 #[.string s] w fun e w' => ∃ ro rn rc, e = .returned (.agg #[.bool (Pl.neg s.data.toList), .slice ro rn rc]) ∧ Hid (RV w' (.slice ro rn rc) (Pl.dvl (Pl.body s.data.toList))) ∧ Below w.heap.size w w' := by
  refine (w_read s w (by omega) h).mono ?_
  rintro e w' ⟨v, rfl, hn, hb⟩
  obtain ⟨ao, cap, rfl, q⟩ := id hn
  exact ⟨ao, _, cap, rfl, ⟨_, hn, Pl.dig_trim (Pl.digs_dig _ (Pl.canon_dig (Pl.formed_canon h))), Pl.top_trim _, by rw [Pl.val_trim]; rfl⟩, hb⟩

set_option maxRecDepth 100000 in
set_option maxHeartbeats 800000 in
theorem w_rNeg (a : ByteArray) (w : World) (ha : a.size ≤ 4294967296) (fa : Pl.formed a.data.toList = true) :
    Calls Tryd.prog 17 #[.string a] w fun e w' => Ans w w' e (-(Pl.ival a.data.toList)) := by
  have HF := Hid.mk fa
  have hm : a.size ≤ maxLen := by unfold maxLen; omega
  clear fa
  go_enter Tryd.func17, Tryd.ntmps17
  go_wp2_with fail
  refine (w_rFormed a _ hm).mono ?_
  rintro e w0 ⟨rfl, hw⟩
  obtain rfl := hw.symm
  rw [HF.out]
  go_wp2_with fail
  refine (w_readV a _ ha HF.out).mono ?_
  rintro e w1 ⟨ro, rn, rc, rfl, HV, hb1⟩
  have HB1 := Hid.mk hb1
  clear hb1
  go_wp2_with fail
  refine (w_ropposite _ _ _ a.size _ HV.out (dvl_size HF.out) (by omega)).mono ?_
  rintro e w2 ⟨bl, so, sn, sc, x, rfl, HX, HS, HP, hb2⟩
  have HB2 := Hid.mk (below_more HB1.out hb2)
  clear hb2
  have HK : Hid (x < 10 ^ a.size) := by
    have h1 := HS.out
    have h2 := dvl_size HF.out
    show _ < _
    cases bl <;> cases Pl.neg a.data.toList <;> simp [sgn] at h1 <;> omega
  go_wp2_with fail
  refine (w_rwrite bl _ x a.size _ HX.out HK.out (by omega) HP.out).mono ?_
  rintro e w3 ⟨r, rfl, h1, h2, hb3⟩
  have HR := Hid.mk (And.intro h1 (And.intro h2 (below_more HB2.out hb3)))
  clear h1 h2 hb3
  go_wp2_with fail
  go_ret2
  exact ⟨r, rfl, HR.out.1, by rw [HR.out.2.1, HS.out]; rfl, HR.out.2.2⟩

set_option maxRecDepth 100000 in
set_option maxHeartbeats 800000 in
theorem w_rNeg_no (a : ByteArray) (w : World) (ha : a.size ≤ 4294967296) (fa : Pl.formed a.data.toList = false) :
    Calls Tryd.prog 17 #[.string a] w fun e w' => Shape w w' e := by
  have HF := Hid.mk fa
  have hm : a.size ≤ maxLen := by unfold maxLen; omega
  clear fa
  go_enter Tryd.func17, Tryd.ntmps17
  go_wp2_with fail
  refine (w_rFormed a _ hm).mono ?_
  rintro e w0 ⟨rfl, hw⟩
  obtain rfl := hw.symm
  rw [HF.out]
  go_wp2_with fail
  go_ret2
  exact ⟨rfl, Below.refl _ _⟩

set_option maxRecDepth 100000 in
set_option maxHeartbeats 800000 in
theorem w_rAbs (a : ByteArray) (w : World) (ha : a.size ≤ 4294967296) (fa : Pl.formed a.data.toList = true) :
    Calls Tryd.prog 20 #[.string a] w fun e w' => Ans w w' e ((Pl.dvl (Pl.body a.data.toList) : Nat) : Int) := by
  have HF := Hid.mk fa
  have hm : a.size ≤ maxLen := by unfold maxLen; omega
  clear fa
  go_enter Tryd.func20, Tryd.ntmps20
  go_wp2_with fail
  refine (w_rFormed a _ hm).mono ?_
  rintro e w0 ⟨rfl, hw⟩
  obtain rfl := hw.symm
  rw [HF.out]
  go_wp2_with fail
  refine (w_readV a _ ha HF.out).mono ?_
  rintro e w1 ⟨ro, rn, rc, rfl, HV, hb1⟩
  have HB1 := Hid.mk hb1
  clear hb1
  have hfd := run_field1 (Pl.neg a.data.toList) ro rn rc
  go_wp2_with fail
  refine (w_trimR false _ _ _ (HV.out.ru (dvl_size HF.out) (by omega))).mono ?_
  rintro e w2 ⟨so, sn, sc, rfl, HX, hb2⟩
  have HB2 := Hid.mk (below_more HB1.out hb2)
  clear hb2
  rw [Bool.false_and]
  go_wp2_with fail
  refine (w_rwrite false _ _ a.size _ HX.out (dvl_size HF.out) (by omega) (fun h => by cases h)).mono ?_
  rintro e w3 ⟨r, rfl, h1, h2, hb3⟩
  have HR := Hid.mk (And.intro h1 (And.intro h2 (below_more HB2.out hb3)))
  clear h1 h2 hb3
  go_wp2_with fail
  go_ret2
  exact ⟨r, rfl, HR.out.1, by rw [HR.out.2.1]; rfl, HR.out.2.2⟩

set_option maxRecDepth 100000 in
set_option maxHeartbeats 800000 in
theorem w_rAbs_no (a : ByteArray) (w : World) (ha : a.size ≤ 4294967296) (fa : Pl.formed a.data.toList = false) :
    Calls Tryd.prog 20 #[.string a] w fun e w' => Shape w w' e := by
  have HF := Hid.mk fa
  have hm : a.size ≤ maxLen := by unfold maxLen; omega
  clear fa
  go_enter Tryd.func20, Tryd.ntmps20
  go_wp2_with fail
  refine (w_rFormed a _ hm).mono ?_
  rintro e w0 ⟨rfl, hw⟩
  obtain rfl := hw.symm
  rw [HF.out]
  go_wp2_with fail
  go_ret2
  exact ⟨rfl, Below.refl _ _⟩
end Go.Proofs.YtfcbeohkhljboaaDoor
namespace Go.Proofs.YtfcbeohkhljboaaDoor
open Go.RowKit
set_option linter.unusedVariables false
set_option linter.unusedSimpArgs false

theorem sgn_bound {b1 b2 bl : Bool} {x1 x2 x K : Nat} (h1 : x1 < 10 ^ K) (h2 : x2 < 10 ^ K) (h : sgn bl x = sgn b1 x1 + sgn b2 x2) : x < 10 ^ (K + 1) := by
  rw [Nat.pow_succ]
  generalize 10 ^ K = P at *
  cases bl <;> cases b1 <;> cases b2 <;> simp [sgn] at h <;> omega
theorem pow_up {x n K : Nat} (h : x < 10 ^ n) (hn : n ≤ K) : x < 10 ^ K := Nat.lt_of_lt_of_le h (Nat.pow_le_pow_right (by decide) hn)

set_option maxRecDepth 100000 in
set_option maxHeartbeats 800000 in
theorem w_rAdd_no (a b : ByteArray) (w : World) (ha : a.size ≤ 4294967296) (hb : b.size ≤ 4294967296) (hbad : (Pl.formed a.data.toList && Pl.formed b.data.toList) = false) :
    Calls Tryd.prog 25 #[.string a, .string b] w fun e w' => Shape w w' e := by
  have hm : a.size ≤ maxLen := by unfold maxLen; omega
  have hm2 : b.size ≤ maxLen := by unfold maxLen; omega
  cases hfa : Pl.formed a.data.toList with
  | false =>
    have HF := Hid.mk hfa
    clear hfa hbad
    go_enter Tryd.func25, Tryd.ntmps25
    go_wp2_with fail
    refine (w_rFormed a _ hm).mono ?_
    rintro e w0 ⟨rfl, hw⟩
    obtain rfl := hw.symm
    rw [HF.out]
    go_wp2_with fail
    go_ret2
    exact ⟨rfl, Below.refl _ _⟩
  | true =>
    rw [hfa, Bool.true_and] at hbad
    have HF := Hid.mk hfa
    have HG := Hid.mk hbad
    clear hfa hbad
    go_enter Tryd.func25, Tryd.ntmps25
    go_wp2_with fail
    refine (w_rFormed a _ hm).mono ?_
    rintro e w0 ⟨rfl, hw⟩
    obtain rfl := hw.symm
    rw [HF.out]
    go_wp2_with fail
    refine (w_rFormed b _ hm2).mono ?_
    rintro e w0 ⟨rfl, hw⟩
    obtain rfl := hw.symm
    rw [HG.out]
    go_wp2_with fail
    go_ret2
    exact ⟨rfl, Below.refl _ _⟩

set_option maxRecDepth 100000 in
set_option maxHeartbeats 800000 in
theorem w_rSub_no (a b : ByteArray) (w : World) (ha : a.size ≤ 4294967296) (hb : b.size ≤ 4294967296) (hbad : (Pl.formed a.data.toList && Pl.formed b.data.toList) = false) :
    Calls Tryd.prog 27 #[.string a, .string b] w fun e w' => Shape w w' e := by
  have hm : a.size ≤ maxLen := by unfold maxLen; omega
  have hm2 : b.size ≤ maxLen := by unfold maxLen; omega
  cases hfa : Pl.formed a.data.toList with
  | false =>
    have HF := Hid.mk hfa
    clear hfa hbad
    go_enter Tryd.func27, Tryd.ntmps27
    go_wp2_with fail
    refine (w_rFormed a _ hm).mono ?_
    rintro e w0 ⟨rfl, hw⟩
    obtain rfl := hw.symm
    rw [HF.out]
    go_wp2_with fail
    go_ret2
    exact ⟨rfl, Below.refl _ _⟩
  | true =>
    rw [hfa, Bool.true_and] at hbad
    have HF := Hid.mk hfa
    have HG := Hid.mk hbad
    clear hfa hbad
    go_enter Tryd.func27, Tryd.ntmps27
    go_wp2_with fail
    refine (w_rFormed a _ hm).mono ?_
    rintro e w0 ⟨rfl, hw⟩
    obtain rfl := hw.symm
    rw [HF.out]
    go_wp2_with fail
    refine (w_rFormed b _ hm2).mono ?_
    rintro e w0 ⟨rfl, hw⟩
    obtain rfl := hw.symm
    rw [HG.out]
    go_wp2_with fail
    go_ret2
    exact ⟨rfl, Below.refl _ _⟩

set_option maxRecDepth 100000 in
set_option maxHeartbeats 800000 in
theorem w_rMul_no (a b : ByteArray) (w : World) (ha : a.size ≤ 4294967296) (hb : b.size ≤ 4294967296) (hbad : (Pl.formed a.data.toList && Pl.formed b.data.toList) = false) :
    Calls Tryd.prog 29 #[.string a, .string b] w fun e w' => Shape w w' e := by
  have hm : a.size ≤ maxLen := by unfold maxLen; omega
  have hm2 : b.size ≤ maxLen := by unfold maxLen; omega
  cases hfa : Pl.formed a.data.toList with
  | false =>
    have HF := Hid.mk hfa
    clear hfa hbad
    go_enter Tryd.func29, Tryd.ntmps29
    go_wp2_with fail
    refine (w_rFormed a _ hm).mono ?_
    rintro e w0 ⟨rfl, hw⟩
    obtain rfl := hw.symm
    rw [HF.out]
    go_wp2_with fail
    go_ret2
    exact ⟨rfl, Below.refl _ _⟩
  | true =>
    rw [hfa, Bool.true_and] at hbad
    have HF := Hid.mk hfa
    have HG := Hid.mk hbad
    clear hfa hbad
    go_enter Tryd.func29, Tryd.ntmps29
    go_wp2_with fail
    refine (w_rFormed a _ hm).mono ?_
    rintro e w0 ⟨rfl, hw⟩
    obtain rfl := hw.symm
    rw [HF.out]
    go_wp2_with fail
    refine (w_rFormed b _ hm2).mono ?_
    rintro e w0 ⟨rfl, hw⟩
    obtain rfl := hw.symm
    rw [HG.out]
    go_wp2_with fail
    go_ret2
    exact ⟨rfl, Below.refl _ _⟩

set_option maxRecDepth 100000 in
set_option maxHeartbeats 800000 in
theorem w_rDiv_no (a b : ByteArray) (w : World) (ha : a.size ≤ 4294967296) (hb : b.size ≤ 4294967296) (hbad : (Pl.formed a.data.toList && Pl.formed b.data.toList) = false) :
    Calls Tryd.prog 31 #[.string a, .string b] w fun e w' => Shape w w' e := by
  have hm : a.size ≤ maxLen := by unfold maxLen; omega
  have hm2 : b.size ≤ maxLen := by unfold maxLen; omega
  cases hfa : Pl.formed a.data.toList with
  | false =>
    have HF := Hid.mk hfa
    clear hfa hbad
    go_enter Tryd.func31, Tryd.ntmps31
    go_wp2_with fail
    refine (w_rFormed a _ hm).mono ?_
    rintro e w0 ⟨rfl, hw⟩
    obtain rfl := hw.symm
    rw [HF.out]
    go_wp2_with fail
    go_ret2
    exact ⟨rfl, Below.refl _ _⟩
  | true =>
    rw [hfa, Bool.true_and] at hbad
    have HF := Hid.mk hfa
    have HG := Hid.mk hbad
    clear hfa hbad
    go_enter Tryd.func31, Tryd.ntmps31
    go_wp2_with fail
    refine (w_rFormed a _ hm).mono ?_
    rintro e w0 ⟨rfl, hw⟩
    obtain rfl := hw.symm
    rw [HF.out]
    go_wp2_with fail
    refine (w_rFormed b _ hm2).mono ?_
    rintro e w0 ⟨rfl, hw⟩
    obtain rfl := hw.symm
    rw [HG.out]
    go_wp2_with fail
    go_ret2
    exact ⟨rfl, Below.refl _ _⟩

set_option maxRecDepth 100000 in
set_option maxHeartbeats 800000 in
theorem w_rMod_no (a b : ByteArray) (w : World) (ha : a.size ≤ 4294967296) (hb : b.size ≤ 4294967296) (hbad : (Pl.formed a.data.toList && Pl.formed b.data.toList) = false) :
    Calls Tryd.prog 33 #[.string a, .string b] w fun e w' => Shape w w' e := by
  have hm : a.size ≤ maxLen := by unfold maxLen; omega
  have hm2 : b.size ≤ maxLen := by unfold maxLen; omega
  cases hfa : Pl.formed a.data.toList with
  | false =>
    have HF := Hid.mk hfa
    clear hfa hbad
    go_enter Tryd.func33, Tryd.ntmps33
    go_wp2_with fail
    refine (w_rFormed a _ hm).mono ?_
    rintro e w0 ⟨rfl, hw⟩
    obtain rfl := hw.symm
    rw [HF.out]
    go_wp2_with fail
    go_ret2
    exact ⟨rfl, Below.refl _ _⟩
  | true =>
    rw [hfa, Bool.true_and] at hbad
    have HF := Hid.mk hfa
    have HG := Hid.mk hbad
    clear hfa hbad
    go_enter Tryd.func33, Tryd.ntmps33
    go_wp2_with fail
    refine (w_rFormed a _ hm).mono ?_
    rintro e w0 ⟨rfl, hw⟩
    obtain rfl := hw.symm
    rw [HF.out]
    go_wp2_with fail
    refine (w_rFormed b _ hm2).mono ?_
    rintro e w0 ⟨rfl, hw⟩
    obtain rfl := hw.symm
    rw [HG.out]
    go_wp2_with fail
    go_ret2
    exact ⟨rfl, Below.refl _ _⟩

set_option maxRecDepth 100000 in
set_option maxHeartbeats 1600000 in
theorem w_rAdd (a b : ByteArray) (w : World) (ha : a.size ≤ 4294967296) (hb : b.size ≤ 4294967296) (fa : Pl.formed a.data.toList = true) (fb : Pl.formed b.data.toList = true) :
    Calls Tryd.prog 25 #[.string a, .string b] w fun e w' => Ans w w' e (Pl.ival a.data.toList + Pl.ival b.data.toList) := by
  have HF := Hid.mk fa
  have HG := Hid.mk fb
  have hm : a.size ≤ maxLen := by unfold maxLen; omega
  have hm2 : b.size ≤ maxLen := by unfold maxLen; omega
  obtain ⟨K, hK⟩ : ∃ K, K = max a.size b.size := ⟨_, rfl⟩
  have KA : Hid (Pl.dvl (Pl.body a.data.toList) < 10 ^ K) := pow_up (dvl_size fa) (by omega)
  have KB : Hid (Pl.dvl (Pl.body b.data.toList) < 10 ^ K) := pow_up (dvl_size fb) (by omega)
  have hK2 : K ≤ 4294967296 := by omega
  clear fa fb hK
  go_enter Tryd.func25, Tryd.ntmps25
  go_wp2_with fail
  refine (w_rFormed a _ hm).mono ?_
  rintro e w0 ⟨rfl, hw⟩
  obtain rfl := hw.symm
  rw [HF.out]
  go_wp2_with fail
  refine (w_rFormed b _ hm2).mono ?_
  rintro e w0 ⟨rfl, hw⟩
  obtain rfl := hw.symm
  rw [HG.out]
  go_wp2_with fail
  refine (w_readV a _ ha HF.out).mono ?_
  rintro e w1 ⟨ro, rn, rc, rfl, HV, hb1⟩
  have HB1 := Hid.mk hb1
  clear hb1
  go_wp2_with fail
  refine (w_readV b _ hb HG.out).mono ?_
  rintro e w2 ⟨qo, qn, qc, rfl, HW, hb2⟩
  have HV2 := Hid.mk (HV.out.keep hb2)
  have HB2 := Hid.mk (below_more HB1.out hb2)
  clear hb2
  go_wp2_with fail
  refine (w_radd _ _ _ _ _ _ K _ HV2.out HW.out KA.out KB.out (by omega)).mono ?_
  rintro e w3 ⟨bl, so, sn, sc, x, rfl, HX, HS, HP, hb3⟩
  have HB3 := Hid.mk (below_more HB2.out hb3)
  have HXK : Hid (x < 10 ^ (K + 1)) := sgn_bound KA.out KB.out HS.out
  clear hb3
  go_wp2_with fail
  refine (w_rwrite bl _ x (K + 1) _ HX.out HXK.out (by omega) HP.out).mono ?_
  rintro e w4 ⟨r, rfl, h1, h2, hb4⟩
  have HR := Hid.mk (And.intro h1 (And.intro h2 (below_more HB3.out hb4)))
  clear h1 h2 hb4
  go_wp2_with fail
  go_ret2
  exact ⟨r, rfl, HR.out.1, by rw [HR.out.2.1, HS.out]; rfl, HR.out.2.2⟩

set_option maxRecDepth 100000 in
set_option maxHeartbeats 1600000 in
theorem w_rSub (a b : ByteArray) (w : World) (ha : a.size ≤ 4294967296) (hb : b.size ≤ 4294967296) (fa : Pl.formed a.data.toList = true) (fb : Pl.formed b.data.toList = true) :
    Calls Tryd.prog 27 #[.string a, .string b] w fun e w' => Ans w w' e (Pl.ival a.data.toList - Pl.ival b.data.toList) := by
  have HF := Hid.mk fa
  have HG := Hid.mk fb
  have hm : a.size ≤ maxLen := by unfold maxLen; omega
  have hm2 : b.size ≤ maxLen := by unfold maxLen; omega
  obtain ⟨K, hK⟩ : ∃ K, K = max a.size b.size := ⟨_, rfl⟩
  have KA : Hid (Pl.dvl (Pl.body a.data.toList) < 10 ^ K) := pow_up (dvl_size fa) (by omega)
  have KB : Hid (Pl.dvl (Pl.body b.data.toList) < 10 ^ K) := pow_up (dvl_size fb) (by omega)
  have hK2 : K ≤ 4294967296 := by omega
  clear fa fb hK
  go_enter Tryd.func27, Tryd.ntmps27
  go_wp2_with fail
  refine (w_rFormed a _ hm).mono ?_
  rintro e w0 ⟨rfl, hw⟩
  obtain rfl := hw.symm
  rw [HF.out]
  go_wp2_with fail
  refine (w_rFormed b _ hm2).mono ?_
  rintro e w0 ⟨rfl, hw⟩
  obtain rfl := hw.symm
  rw [HG.out]
  go_wp2_with fail
  refine (w_readV a _ ha HF.out).mono ?_
  rintro e w1 ⟨ro, rn, rc, rfl, HV, hb1⟩
  have HB1 := Hid.mk hb1
  clear hb1
  go_wp2_with fail
  refine (w_readV b _ hb HG.out).mono ?_
  rintro e w2 ⟨qo, qn, qc, rfl, HW, hb2⟩
  have HV2 := Hid.mk (HV.out.keep hb2)
  have HB2 := Hid.mk (below_more HB1.out hb2)
  clear hb2
  go_wp2_with fail
  refine (w_ropposite _ _ _ K _ HW.out KB.out (by omega)).mono ?_
  rintro e w3 ⟨bo, so, sn, sc, y, rfl, HY, HT, HQ, hb3⟩
  have HV3 := Hid.mk (HV2.out.keep hb3)
  have HB25 := Hid.mk (below_more HB2.out hb3)
  have HYK : Hid (y < 10 ^ K) := by
    have h1 := HT.out
    have h2 := KB.out
    show _ < _
    cases bo <;> cases Pl.neg b.data.toList <;> simp [sgn] at h1 <;> omega
  clear hb3
  go_wp2_with fail
  refine (w_radd _ _ _ _ _ _ K _ HV3.out HY.out KA.out HYK.out (by omega)).mono ?_
  rintro e w35 ⟨bl, so2, sn2, sc2, x, rfl, HX, HS, HP, hb35⟩
  have HB3 := Hid.mk (below_more HB25.out hb35)
  have HXK : Hid (x < 10 ^ (K + 1)) := sgn_bound KA.out HYK.out HS.out
  clear hb35
  go_wp2_with fail
  refine (w_rwrite bl _ x (K + 1) _ HX.out HXK.out (by omega) HP.out).mono ?_
  rintro e w4 ⟨r, rfl, h1, h2, hb4⟩
  have HR := Hid.mk (And.intro h1 (And.intro h2 (below_more HB3.out hb4)))
  clear h1 h2 hb4
  go_wp2_with fail
  go_ret2
  exact ⟨r, rfl, HR.out.1, by rw [HR.out.2.1, HS.out]; rw [HT.out, sgn_ival, sgn_ival]; omega, HR.out.2.2⟩

end Go.Proofs.YtfcbeohkhljboaaDoor
