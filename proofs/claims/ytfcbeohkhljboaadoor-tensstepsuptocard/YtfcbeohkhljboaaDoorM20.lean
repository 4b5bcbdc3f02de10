import Derived.Test.YtfcbeohkhljboaaDoorM19
namespace Go.Proofs.YtfcbeohkhljboaaDoor
open Go.RowKit
set_option linter.unusedVariables false
set_option linter.unusedSimpArgs false

theorem w_readAny (s : ByteArray) (w : World) (hs : s.size ≤ 4294967296) :
    Calls Tryd.prog 47 #[.string s] w fun e w' => ∃ bl ro rn rc, e = .returned (.tuple #[.agg #[.bool bl, .slice ro rn rc], .bool (Pl.formed s.data.toList)]) ∧ Below w.heap.size w w' := by
  by_cases hf : Pl.formed s.data.toList = true
  · refine (w_treadV s w hs hf).mono ?_
    rintro e w' ⟨ro, rn, rc, rfl, _, h⟩
    exact ⟨_, ro, rn, rc, by rw [hf], h⟩
  · rw [Bool.not_eq_true] at hf
    refine (w_tread_not s w (by unfold maxLen; omega) hf).mono ?_
    rintro e w' ⟨rfl, h⟩
    exact ⟨_, none, 0, 0, by rw [hf], h⟩

set_option maxRecDepth 100000 in
set_option maxHeartbeats 1600000 in
theorem w_two_bad (a b : ByteArray) (fn : Nat) (w : World) (ha : a.size ≤ 4294967296) (hb : b.size ≤ 4294967296) (hbad : (Pl.formed a.data.toList && Pl.formed b.data.toList) = false) :
    Calls Tryd.prog 55 #[.string a, .string b, .func (.func fn) #[] #[]] w fun e w' => e = .returned (.tuple #[.string ⟨#[]⟩, .int .i64 1]) ∧ Below w.heap.size w w' := by
  have HRa := Hid.mk (fun (u : World) => w_readAny a u ha)
  have HRb := Hid.mk (fun (u : World) => w_readAny b u hb)
  generalize Pl.formed a.data.toList = fa at *
  generalize Pl.formed b.data.toList = fb at *
  go_enter Tryd.func55, Tryd.ntmps55
  go_wp2_with fail
  refine (HRa.out _).mono ?_
  rintro e w1 ⟨b1, ao, an, ac, rfl, hb1⟩
  have HB1 := Hid.mk hb1
  clear hb1
  go_wp2_with fail
  refine (HRb.out _).mono ?_
  rintro e w2 ⟨b2, bo, bn, bc, rfl, hb2⟩
  have HB2 := Hid.mk (below_more (below1 w1 _) hb2)
  clear hb2
  have HB3 := Hid.mk (below_more (below_more HB1.out HB2.out) (below1 w2 (.cells #[.bool b2, .slice bo bn bc] 58)))
  cases fa
  · go_wp2_with fail
    go_ret2
    exact ⟨rfl, HB3.out⟩
  · cases fb
    · go_wp2_with fail
      go_ret2
      exact ⟨rfl, HB3.out⟩
    · simp at hbad

theorem body_size (s : ByteArray) : (Pl.body s.data.toList).length ≤ s.size := by
  unfold Pl.body
  have : s.data.toList.length = s.size := Array.length_toList
  split
  · rw [List.length_tail]; omega
  · omega

theorem sgn_ival (l : List UInt8) : sgn (Pl.neg l) (Pl.dvl (Pl.body l)) = Pl.ival l := rfl

theorem pow_le9 (n : Nat) : 10 ^ n ≤ 1000000000 ^ n := Nat.pow_le_pow_left (by decide) n

end Go.Proofs.YtfcbeohkhljboaaDoor
namespace Go.Proofs.YtfcbeohkhljboaaDoor
open Go.RowKit
set_option linter.unusedVariables false
set_option linter.unusedSimpArgs false

theorem sgn_div (b1 b2 : Bool) (x1 x2 : Nat) : sgn (b1 != b2) (x1 / x2) = Int.tdiv (sgn b1 x1) (sgn b2 x2) := by
  cases b1 <;> cases b2 <;> simp [sgn, Int.neg_tdiv, Int.tdiv_neg, Int.ofNat_tdiv]
theorem sgn_mod (b1 b2 : Bool) (x1 x2 : Nat) : sgn b1 (x1 % x2) = Int.tmod (sgn b1 x1) (sgn b2 x2) := by
  cases b1 <;> cases b2 <;> simp [sgn, Int.neg_tmod, Int.tmod_neg, Int.ofNat_tmod, Int.tmod_eq_emod_of_nonneg]

theorem divide_any {w : World} {v1 v2 : Value} {x1 x2 K : Nat} (h1 : NumV w v1 x1) (h2 : NumV w v2 x2) (k1 : x1 < 1000000000 ^ K) (k2 : x2 < 1000000000 ^ K) (hK : K ≤ 137438953472) (hpos : 0 < x2) (u : World) (hu : Below w.heap.size w u) :
    Calls Tryd.prog 73 #[v1, v2] u fun e w' => ∃ qo qn qc ro rn rc, e = .returned (.tuple #[.slice qo qn qc, .slice ro rn rc]) ∧ Hid (NumV w' (.slice qo qn qc) (x1 / x2) ∧ NumV w' (.slice ro rn rc) (x1 % x2)) ∧ Below u.heap.size u w' := by
  obtain ⟨xs, g1, e1, l1⟩ := h1.fits k1
  obtain ⟨ys, g2, e2, l2⟩ := h2.fits k2
  refine (w_divide _ _ xs ys u (g1.1.keep hu) (g2.1.keep hu) (by omega) (by omega) g1.2.1 g2.2.1 g1.2.2 g2.2.2 (by rw [e2]; exact hpos)).mono ?_
  rintro e w' ⟨vq, vr, rfl, qs, rs, gq, gr, hb, hv, hl⟩
  obtain ⟨qo, qc, rfl, _⟩ := gq.1
  obtain ⟨ro, rc, rfl, _⟩ := gr.1
  rw [e1, e2] at hv
  rw [e2] at hl
  have hd : x1 / x2 = Pl.val 1000000000 qs ∧ x1 % x2 = Pl.val 1000000000 rs := by
    rw [Nat.div_mod_unique hpos]
    exact ⟨by rw [← hv, Nat.mul_comm]; exact Nat.add_comm _ _, hl⟩
  exact ⟨qo, _, qc, ro, _, rc, rfl, ⟨⟨qs, gq, hd.1.symm⟩, ⟨rs, gr, hd.2.symm⟩⟩, hb⟩

set_option maxRecDepth 100000 in
set_option maxHeartbeats 1600000 in
theorem w_over (b1 b2 : Bool) (v1 v2 : Value) (x1 x2 K : Nat) (w : World) (h1 : NumV w v1 x1) (h2 : NumV w v2 x2) (k1 : x1 < 1000000000 ^ K) (k2 : x2 < 1000000000 ^ K) (hK : K ≤ 137438953472) (hpos : 0 < x2) :
    Calls Tryd.prog 61 #[.agg #[.bool b1, v1], .agg #[.bool b2, v2]] w fun e w' => NumR w w' e (Int.tdiv (sgn b1 x1) (sgn b2 x2)) := by
  have HP : Hid (∀ u, Below w.heap.size w u → Calls Tryd.prog 73 #[v1, v2] u fun e w' => ∃ qo qn qc ro rn rc, e = .returned (.tuple #[.slice qo qn qc, .slice ro rn rc]) ∧ Hid (NumV w' (.slice qo qn qc) (x1 / x2) ∧ NumV w' (.slice ro rn rc) (x1 % x2)) ∧ Below u.heap.size u w') := divide_any h1 h2 k1 k2 hK hpos
  obtain ⟨xs, g1, e1⟩ := h1
  obtain ⟨ao, ca, rfl, q1, q2⟩ := g1.1
  clear q1 q2
  obtain ⟨ys, g2, e2⟩ := h2
  obtain ⟨bo, cb, rfl, q1, q2⟩ := g2.1
  clear q1 q2 g1 g2 e1 e2 k1 k2
  have HI := Hid.mk (in3_box w b1 (.slice ao xs.length ca) b2 (.slice bo ys.length cb))
  go_enter Tryd.func61, Tryd.ntmps61
  go_wp2_with fail
  refine (HP.out _ HI.out.below).mono ?_
  rintro e w1 ⟨qo, qn, qc, ro, rn, rc, rfl, HN, hb1⟩
  have HJ := Hid.mk (HI.out.keep hb1)
  have g00 := HJ.out.c00
  have g10 := HJ.out.c10
  have g20 := HJ.out.c20
  have g21 := HJ.out.c21
  have q20 := HJ.out.f20
  have q21 := HJ.out.f21
  have HFi := Hid.mk (fill (bl := (b1 != b2)) HJ.out.below (by omega) g20 g21 (by simp) HN.out.1)
  clear hb1
  go_wp2_with fail
  obtain ⟨r0, r1, r2, r3⟩ := HFi.out
  simp only [bne] at r0 r1 r2 r3 ⊢
  generalize hq : (!(b1 == b2)) = bb at r0 r1 r2 r3 ⊢
  refine bodyPost_ret (v := .agg #[.bool bb, .slice qo qn qc]) (by simp [results, Tryd.results61, go_sem, r0, r1]) rfl ?_
  exact ⟨bb, _, _, rfl, r2, by rw [← hq]; exact sgn_div b1 b2 x1 x2, r3⟩

set_option maxRecDepth 100000 in
set_option maxHeartbeats 1600000 in
theorem w_left (b1 b2 : Bool) (v1 v2 : Value) (x1 x2 K : Nat) (w : World) (h1 : NumV w v1 x1) (h2 : NumV w v2 x2) (k1 : x1 < 1000000000 ^ K) (k2 : x2 < 1000000000 ^ K) (hK : K ≤ 137438953472) (hpos : 0 < x2) :
    Calls Tryd.prog 63 #[.agg #[.bool b1, v1], .agg #[.bool b2, v2]] w fun e w' => NumR w w' e (Int.tmod (sgn b1 x1) (sgn b2 x2)) := by
  have HP : Hid (∀ u, Below w.heap.size w u → Calls Tryd.prog 73 #[v1, v2] u fun e w' => ∃ qo qn qc ro rn rc, e = .returned (.tuple #[.slice qo qn qc, .slice ro rn rc]) ∧ Hid (NumV w' (.slice qo qn qc) (x1 / x2) ∧ NumV w' (.slice ro rn rc) (x1 % x2)) ∧ Below u.heap.size u w') := divide_any h1 h2 k1 k2 hK hpos
  obtain ⟨xs, g1, e1⟩ := h1
  obtain ⟨ao, ca, rfl, q1, q2⟩ := g1.1
  clear q1 q2
  obtain ⟨ys, g2, e2⟩ := h2
  obtain ⟨bo, cb, rfl, q1, q2⟩ := g2.1
  clear q1 q2 g1 g2 e1 e2 k1 k2
  have HI := Hid.mk (in3_box w b1 (.slice ao xs.length ca) b2 (.slice bo ys.length cb))
  go_enter Tryd.func63, Tryd.ntmps63
  go_wp2_with fail
  refine (HP.out _ HI.out.below).mono ?_
  rintro e w1 ⟨qo, qn, qc, ro, rn, rc, rfl, HN, hb1⟩
  have HJ := Hid.mk (HI.out.keep hb1)
  have g00 := HJ.out.c00
  have g10 := HJ.out.c10
  have g20 := HJ.out.c20
  have g21 := HJ.out.c21
  have q20 := HJ.out.f20
  have q21 := HJ.out.f21
  have HFi := Hid.mk (fill (bl := b1) HJ.out.below (by omega) g20 g21 (by simp) HN.out.2)
  clear hb1
  go_wp2_with fail
  obtain ⟨r0, r1, r2, r3⟩ := HFi.out
  refine bodyPost_ret (v := .agg #[.bool b1, .slice ro rn rc]) (by simp [results, Tryd.results63, go_sem, r0, r1]) rfl ?_
  exact ⟨b1, _, _, rfl, r2, sgn_mod b1 b2 x1 x2, r3⟩

end Go.Proofs.YtfcbeohkhljboaaDoor
