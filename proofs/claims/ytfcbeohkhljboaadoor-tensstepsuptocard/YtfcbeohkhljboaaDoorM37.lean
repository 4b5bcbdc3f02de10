import Derived.Test.YtfcbeohkhljboaaDoorM36
namespace Go.Proofs.YtfcbeohkhljboaaDoor
open Go.RowKit
set_option linter.unusedVariables false
set_option linter.unusedSimpArgs false

theorem sgn_div (b1 b2 : Bool) (x1 x2 : Nat) : sgn (b1 != b2) (x1 / x2) = Int.tdiv (sgn b1 x1) (sgn b2 x2) := by
  cases b1 <;> cases b2 <;> simp [sgn, Int.neg_tdiv, Int.tdiv_neg, Int.ofNat_tdiv]
theorem sgn_mod (b1 b2 : Bool) (x1 x2 : Nat) : sgn b1 (x1 % x2) = Int.tmod (sgn b1 x1) (sgn b2 x2) := by
  cases b1 <;> cases b2 <;> simp [sgn, Int.neg_tmod, Int.tmod_neg, Int.ofNat_tmod, Int.tmod_eq_emod_of_nonneg]

theorem divide_any {w : World} {v1 v2 : Value} {x1 x2 K : Nat} (h1 : NumV w v1 x1) (h2 : NumV w v2 x2) (k1 : x1 < 1000000000 ^ K) (k2 : x2 < 1000000000 ^ K) (hK : K ≤ 137438953472) (hpos : 0 < x2) (u : World) (hu : Below w.heap.size w u) :
    Calls Tryd.prog 73 #[v1, v2] u fun e w' => ∃ qo qn qc ro rn rc, e = .returned (.tuple #[.slice qo qn qc, .slice ro rn rc]) ∧ Hid (NumV w' (.slice qo qn qc) (x1 / x2) ∧ NumV w' (.slice ro rn rc) (x1 % x2)) ∧ Below u.heap.size u w' := by
  obtain ⟨xs, g1, e1, l1⟩ := h1.fits k1
  obtain ⟨ys, g2, e2, l2⟩ := h2.fits k2
  refine (w_divide _ _ xs ys u (g1.1.keep hu) (g2.1.keep hu) (by omega) (by omega) g1.2.1 g2.2.1 g1.2.2 g2.2.2 (by rw [e2]; exact hpos)).mono ?_
  rintro e w' ⟨vq, vr, rfl, qs, rs, gq, gr, hb, hv, hl⟩
  obtain ⟨qo, qc, rfl, _⟩ := gq.1
  obtain ⟨ro, rc, rfl, _⟩ := gr.1
  rw [e1, e2] at hv
  rw [e2] at hl
  have hd : x1 / x2 = Pl.val 1000000000 qs ∧ x1 % x2 = Pl.val 1000000000 rs := by
    rw [Nat.div_mod_unique hpos]
    exact ⟨by rw [← hv, Nat.mul_comm]; exact Nat.add_comm _ _, hl⟩
  exact ⟨qo, _, qc, ro, _, rc, rfl, ⟨⟨qs, gq, hd.1.symm⟩, ⟨rs, gr, hd.2.symm⟩⟩, hb⟩

set_option maxRecDepth 100000 in
set_option maxHeartbeats 1600000 in
theorem w_over (b1 b2 : Bool) (v1 v2 : Value) (x1 x2 K : Nat) (w : World) (h1 : NumV w v1 x1) (h2 : NumV w v2 x2) (k1 : x1 < 1000000000 ^ K) (k2 : x2 < 1000000000 ^ K) (hK : K ≤ 137438953472) (hpos : 0 < x2) :
    Calls Tryd.prog 61 #[.agg #[.bool b1, v1], .agg #[.bool b2, v2]] w fun e w' => NumR w w' e (Int.tdiv (sgn b1 x1) (sgn b2 x2)) := by
  have HP : Hid (∀ u, Below w.heap.size w u → Calls Tryd.prog 73 #[v1, v2] u fun e w' => ∃ qo qn qc ro rn rc, e = .returned (.tuple #[.slice qo qn qc, .slice ro rn rc]) ∧ Hid (NumV w' (.slice qo qn qc) (x1 / x2) ∧ NumV w' (.slice ro rn rc) (x1 % x2)) ∧ Below u.heap.size u w') := divide_any h1 h2 k1 k2 hK hpos
  obtain ⟨xs, g1, e1⟩ := h1
  obtain ⟨ao, ca, rfl, q1, q2⟩ := g1.1
  clear q1 q2
  obtain ⟨ys, g2, e2⟩ := h2
  obtain ⟨bo, cb, rfl, q1, q2⟩ := g2.1
  clear q1 q2 g1 g2 e1 e2 k1 k2
  have HI := Hid.mk (in3_box w b1 (.slice ao xs.length ca) b2 (.slice bo ys.length cb))
  go_enter Tryd.func61, Tryd.ntmps61
  go_wp2_with fail
  refine (HP.out _ HI.out.below).mono ?_
  rintro e w1 ⟨qo, qn, qc, ro, rn, rc, rfl, HN, hb1⟩
  have HJ := Hid.mk (HI.out.keep hb1)
  have g00 := HJ.out.c00
  have g10 := HJ.out.c10
  have g20 := HJ.out.c20
  have g21 := HJ.out.c21
  have q20 := HJ.out.f20
  have q21 := HJ.out.f21
  have HFi := Hid.mk (fill (bl := (b1 != b2)) HJ.out.below (by omega) g20 g21 (by simp) HN.out.1)
  clear hb1
  go_wp2_with fail
  obtain ⟨r0, r1, r2, r3⟩ := HFi.out
  simp only [bne] at r0 r1 r2 r3 ⊢
  generalize hq : (!(b1 == b2)) = bb at r0 r1 r2 r3 ⊢
  refine bodyPost_ret (v := .agg #[.bool bb, .slice qo qn qc]) (by simp [results, Tryd.results61, go_sem, r0, r1]) rfl ?_
  exact ⟨bb, _, _, rfl, r2, by rw [← hq]; exact sgn_div b1 b2 x1 x2, r3⟩

set_option maxRecDepth 100000 in
set_option maxHeartbeats 1600000 in
theorem w_left (b1 b2 : Bool) (v1 v2 : Value) (x1 x2 K : Nat) (w : World) (h1 : NumV w v1 x1) (h2 : NumV w v2 x2) (k1 : x1 < 1000000000 ^ K) (k2 : x2 < 1000000000 ^ K) (hK : K ≤ 137438953472) (hpos : 0 < x2) :
    Calls Tryd.prog 63 #[.agg #[.bool b1, v1], .agg #[.bool b2, v2]] w fun e w' => NumR w w' e (Int.tmod (sgn b1 x1) (sgn b2 x2)) := by
  have HP : Hid (∀ u, Below w.heap.size w u → Calls Tryd.prog 73 #[v1, v2] u fun e w' => ∃ qo qn qc ro rn rc, e = .returned (.tuple #[.slice qo qn qc, .slice ro rn rc]) ∧ Hid (NumV w' (.slice qo qn qc) (x1 / x2) ∧ NumV w' (.slice ro rn rc) (x1 % x2)) ∧ Below u.heap.size u w') := divide_any h1 h2 k1 k2 hK hpos
  obtain ⟨xs, g1, e1⟩ := h1
  obtain ⟨ao, ca, rfl, q1, q2⟩ := g1.1
  clear q1 q2
  obtain ⟨ys, g2, e2⟩ := h2
  obtain ⟨bo, cb, rfl, q1, q2⟩ := g2.1
  clear q1 q2 g1 g2 e1 e2 k1 k2
  have HI := Hid.mk (in3_box w b1 (.slice ao xs.length ca) b2 (.slice bo ys.length cb))
  go_enter Tryd.func63, Tryd.ntmps63
  go_wp2_with fail
  refine (HP.out _ HI.out.below).mono ?_
  rintro e w1 ⟨qo, qn, qc, ro, rn, rc, rfl, HN, hb1⟩
  have HJ := Hid.mk (HI.out.keep hb1)
  have g00 := HJ.out.c00
  have g10 := HJ.out.c10
  have g20 := HJ.out.c20
  have g21 := HJ.out.c21
  have q20 := HJ.out.f20
  have q21 := HJ.out.f21
  have HFi := Hid.mk (fill (bl := b1) HJ.out.below (by omega) g20 g21 (by simp) HN.out.2)
  clear hb1
  go_wp2_with fail
  obtain ⟨r0, r1, r2, r3⟩ := HFi.out
  refine bodyPost_ret (v := .agg #[.bool b1, .slice ro rn rc]) (by simp [results, Tryd.results63, go_sem, r0, r1]) rfl ?_
  exact ⟨b1, _, _, rfl, r2, sgn_mod b1 b2 x1 x2, r3⟩

end Go.Proofs.YtfcbeohkhljboaaDoor
namespace Go.Proofs.YtfcbeohkhljboaaDoor
open Go.RowKit
set_option linter.unusedVariables false
set_option linter.unusedSimpArgs false

/-- what the API answers: a number's text -/
def Ans (w w' : World) (e : Ending) (z : Int) : Prop := ∃ r : ByteArray, e = .returned (.tuple #[.string r, .int .i64 0]) ∧ Pl.formed r.data.toList = true ∧ Pl.ival r.data.toList = z ∧ Below w.heap.size w w'

set_option maxRecDepth 100000 in
set_option maxHeartbeats 1600000 in
theorem w_two_plus (a b : ByteArray) (z : Int) (K : Nat) (w : World) (ha : a.size ≤ 4294967296) (hb : b.size ≤ 4294967296) (fa : Pl.formed a.data.toList = true) (fb : Pl.formed b.data.toList = true) (htab : Tab w) (hz : z.natAbs < 1000000000 ^ K) (hK : K ≤ 17179869184)
    (hf : ∀ (u : World) (v1 v2 : Value), NumV u v1 (Pl.dvl (Pl.body a.data.toList)) → NumV u v2 (Pl.dvl (Pl.body b.data.toList)) → Calls Tryd.prog 56 #[.agg #[.bool (Pl.neg a.data.toList), v1], .agg #[.bool (Pl.neg b.data.toList), v2]] u fun e w' => NumR u w' e z) :
    Calls Tryd.prog 55 #[.string a, .string b, .func (.func 56) #[] #[]] w fun e w' => Ans w w' e z := by
  have HRa := Hid.mk (fun (u : World) => w_treadV a u ha fa)
  have HRb := Hid.mk (fun (u : World) => w_treadV b u hb fb)
  have HF := Hid.mk hf
  have HT := Hid.mk htab
  have HZ := Hid.mk hz
  generalize Pl.neg a.data.toList = b1 at *
  generalize Pl.neg b.data.toList = b2 at *
  generalize Pl.dvl (Pl.body a.data.toList) = x1 at *
  generalize Pl.dvl (Pl.body b.data.toList) = x2 at *
  clear hf htab fa fb hz
  go_enter Tryd.func55, Tryd.ntmps55
  go_wp2_with fail
  refine (HRa.out _).mono ?_
  rintro e w1 ⟨ao, an, ac, rfl, HN1, hb1⟩
  have HB1 := Hid.mk hb1
  clear hb1
  go_wp2_with fail
  refine (HRb.out _).mono ?_
  rintro e w2 ⟨bo, bn, bc, rfl, HN2, hb2⟩
  have c0 : w2.cell? ⟨w1.heap.size, 0, none⟩ = some (.bool b1) := below_cells hb2 (by simp) (by simp)
  have c1 : w2.cell? ⟨w1.heap.size, 1, none⟩ = some (.slice ao an ac) := below_cells hb2 (by simp) (by simp)
  have hw2 : w1.heap.size < w2.heap.size := by have := hb2.size; simp at this; omega
  have HB2 := Hid.mk (below_more (below1 w1 _) hb2)
  clear hb2
  go_wp2_with fail
  refine (HF.out _ _ _ ((HN1.out.keep HB2.out).keep (below1 w2 _)) (HN2.out.keep (below1 w2 _))).mono ?_
  intro e w3 h3
  obtain ⟨bl, ro, rn, rc, x, rfl, HN3, hb3⟩ := h3.open'
  have HB3 := Hid.mk (below_more (below_more (below_more HB1.out HB2.out) (below1 w2 _)) hb3)
  have HX : Hid (x < 1000000000 ^ K) := by
    have h1 := HZ.out
    have h2 : x = z.natAbs := by rw [← HN3.out.2]; cases bl <;> simp [sgn]
    show _ < _
    rw [h2]; exact h1
  clear hb3 h3
  go_wp2_with fail
  refine (w_textV bl _ x K w3 HN3.out.1 HX.out hK (HT.out.keep HB3.out)).mono ?_
  rintro e w4 ⟨r, rfl, HR, hb4⟩
  have HB4 := Hid.mk (below_more HB3.out hb4)
  clear hb4
  go_wp2_with fail
  go_ret2
  exact ⟨r, rfl, HR.out.1, by rw [HR.out.2]; exact HN3.out.2, HB4.out⟩

set_option maxRecDepth 100000 in
set_option maxHeartbeats 1600000 in
theorem w_two_less (a b : ByteArray) (z : Int) (K : Nat) (w : World) (ha : a.size ≤ 4294967296) (hb : b.size ≤ 4294967296) (fa : Pl.formed a.data.toList = true) (fb : Pl.formed b.data.toList = true) (htab : Tab w) (hz : z.natAbs < 1000000000 ^ K) (hK : K ≤ 17179869184)
    (hf : ∀ (u : World) (v1 v2 : Value), NumV u v1 (Pl.dvl (Pl.body a.data.toList)) → NumV u v2 (Pl.dvl (Pl.body b.data.toList)) → Calls Tryd.prog 58 #[.agg #[.bool (Pl.neg a.data.toList), v1], .agg #[.bool (Pl.neg b.data.toList), v2]] u fun e w' => NumR u w' e z) :
    Calls Tryd.prog 55 #[.string a, .string b, .func (.func 58) #[] #[]] w fun e w' => Ans w w' e z := by
  have HRa := Hid.mk (fun (u : World) => w_treadV a u ha fa)
  have HRb := Hid.mk (fun (u : World) => w_treadV b u hb fb)
  have HF := Hid.mk hf
  have HT := Hid.mk htab
  have HZ := Hid.mk hz
  generalize Pl.neg a.data.toList = b1 at *
  generalize Pl.neg b.data.toList = b2 at *
  generalize Pl.dvl (Pl.body a.data.toList) = x1 at *
  generalize Pl.dvl (Pl.body b.data.toList) = x2 at *
  clear hf htab fa fb hz
  go_enter Tryd.func55, Tryd.ntmps55
  go_wp2_with fail
  refine (HRa.out _).mono ?_
  rintro e w1 ⟨ao, an, ac, rfl, HN1, hb1⟩
  have HB1 := Hid.mk hb1
  clear hb1
  go_wp2_with fail
  refine (HRb.out _).mono ?_
  rintro e w2 ⟨bo, bn, bc, rfl, HN2, hb2⟩
  have c0 : w2.cell? ⟨w1.heap.size, 0, none⟩ = some (.bool b1) := below_cells hb2 (by simp) (by simp)
  have c1 : w2.cell? ⟨w1.heap.size, 1, none⟩ = some (.slice ao an ac) := below_cells hb2 (by simp) (by simp)
  have hw2 : w1.heap.size < w2.heap.size := by have := hb2.size; simp at this; omega
  have HB2 := Hid.mk (below_more (below1 w1 _) hb2)
  clear hb2
  go_wp2_with fail
  refine (HF.out _ _ _ ((HN1.out.keep HB2.out).keep (below1 w2 _)) (HN2.out.keep (below1 w2 _))).mono ?_
  intro e w3 h3
  obtain ⟨bl, ro, rn, rc, x, rfl, HN3, hb3⟩ := h3.open'
  have HB3 := Hid.mk (below_more (below_more (below_more HB1.out HB2.out) (below1 w2 _)) hb3)
  have HX : Hid (x < 1000000000 ^ K) := by
    have h1 := HZ.out
    have h2 : x = z.natAbs := by rw [← HN3.out.2]; cases bl <;> simp [sgn]
    show _ < _
    rw [h2]; exact h1
  clear hb3 h3
  go_wp2_with fail
  refine (w_textV bl _ x K w3 HN3.out.1 HX.out hK (HT.out.keep HB3.out)).mono ?_
  rintro e w4 ⟨r, rfl, HR, hb4⟩
  have HB4 := Hid.mk (below_more HB3.out hb4)
  clear hb4
  go_wp2_with fail
  go_ret2
  exact ⟨r, rfl, HR.out.1, by rw [HR.out.2]; exact HN3.out.2, HB4.out⟩

end Go.Proofs.YtfcbeohkhljboaaDoor
namespace Go.Proofs.YtfcbeohkhljboaaDoor
open Go.RowKit
set_option linter.unusedVariables false
set_option linter.unusedSimpArgs false

set_option maxRecDepth 100000 in
set_option maxHeartbeats 1600000 in
theorem w_two_times (a b : ByteArray) (z : Int) (K : Nat) (w : World) (ha : a.size ≤ 4294967296) (hb : b.size ≤ 4294967296) (fa : Pl.formed a.data.toList = true) (fb : Pl.formed b.data.toList = true) (htab : Tab w) (hz : z.natAbs < 1000000000 ^ K) (hK : K ≤ 17179869184)
    (hf : ∀ (u : World) (v1 v2 : Value), NumV u v1 (Pl.dvl (Pl.body a.data.toList)) → NumV u v2 (Pl.dvl (Pl.body b.data.toList)) → Calls Tryd.prog 59 #[.agg #[.bool (Pl.neg a.data.toList), v1], .agg #[.bool (Pl.neg b.data.toList), v2]] u fun e w' => NumR u w' e z) :
    Calls Tryd.prog 55 #[.string a, .string b, .func (.func 59) #[] #[]] w fun e w' => Ans w w' e z := by
  have HRa := Hid.mk (fun (u : World) => w_treadV a u ha fa)
  have HRb := Hid.mk (fun (u : World) => w_treadV b u hb fb)
  have HF := Hid.mk hf
  have HT := Hid.mk htab
  have HZ := Hid.mk hz
  generalize Pl.neg a.data.toList = b1 at *
  generalize Pl.neg b.data.toList = b2 at *
  generalize Pl.dvl (Pl.body a.data.toList) = x1 at *
  generalize Pl.dvl (Pl.body b.data.toList) = x2 at *
  clear hf htab fa fb hz
  go_enter Tryd.func55, Tryd.ntmps55
  go_wp2_with fail
  refine (HRa.out _).mono ?_
  rintro e w1 ⟨ao, an, ac, rfl, HN1, hb1⟩
  have HB1 := Hid.mk hb1
  clear hb1
  go_wp2_with fail
  refine (HRb.out _).mono ?_
  rintro e w2 ⟨bo, bn, bc, rfl, HN2, hb2⟩
  have c0 : w2.cell? ⟨w1.heap.size, 0, none⟩ = some (.bool b1) := below_cells hb2 (by simp) (by simp)
  have c1 : w2.cell? ⟨w1.heap.size, 1, none⟩ = some (.slice ao an ac) := below_cells hb2 (by simp) (by simp)
  have hw2 : w1.heap.size < w2.heap.size := by have := hb2.size; simp at this; omega
  have HB2 := Hid.mk (below_more (below1 w1 _) hb2)
  clear hb2
  go_wp2_with fail
  refine (HF.out _ _ _ ((HN1.out.keep HB2.out).keep (below1 w2 _)) (HN2.out.keep (below1 w2 _))).mono ?_
  intro e w3 h3
  obtain ⟨bl, ro, rn, rc, x, rfl, HN3, hb3⟩ := h3.open'
  have HB3 := Hid.mk (below_more (below_more (below_more HB1.out HB2.out) (below1 w2 _)) hb3)
  have HX : Hid (x < 1000000000 ^ K) := by
    have h1 := HZ.out
    have h2 : x = z.natAbs := by rw [← HN3.out.2]; cases bl <;> simp [sgn]
    show _ < _
    rw [h2]; exact h1
  clear hb3 h3
  go_wp2_with fail
  refine (w_textV bl _ x K w3 HN3.out.1 HX.out hK (HT.out.keep HB3.out)).mono ?_
  rintro e w4 ⟨r, rfl, HR, hb4⟩
  have HB4 := Hid.mk (below_more HB3.out hb4)
  clear hb4
  go_wp2_with fail
  go_ret2
  exact ⟨r, rfl, HR.out.1, by rw [HR.out.2]; exact HN3.out.2, HB4.out⟩

set_option maxRecDepth 100000 in
set_option maxHeartbeats 1600000 in
theorem w_two_over (a b : ByteArray) (z : Int) (K : Nat) (w : World) (ha : a.size ≤ 4294967296) (hb : b.size ≤ 4294967296) (fa : Pl.formed a.data.toList = true) (fb : Pl.formed b.data.toList = true) (htab : Tab w) (hz : z.natAbs < 1000000000 ^ K) (hK : K ≤ 17179869184)
    (hf : ∀ (u : World) (v1 v2 : Value), NumV u v1 (Pl.dvl (Pl.body a.data.toList)) → NumV u v2 (Pl.dvl (Pl.body b.data.toList)) → Calls Tryd.prog 61 #[.agg #[.bool (Pl.neg a.data.toList), v1], .agg #[.bool (Pl.neg b.data.toList), v2]] u fun e w' => NumR u w' e z) :
    Calls Tryd.prog 55 #[.string a, .string b, .func (.func 61) #[] #[]] w fun e w' => Ans w w' e z := by
  have HRa := Hid.mk (fun (u : World) => w_treadV a u ha fa)
  have HRb := Hid.mk (fun (u : World) => w_treadV b u hb fb)
  have HF := Hid.mk hf
  have HT := Hid.mk htab
  have HZ := Hid.mk hz
  generalize Pl.neg a.data.toList = b1 at *
  generalize Pl.neg b.data.toList = b2 at *
  generalize Pl.dvl (Pl.body a.data.toList) = x1 at *
  generalize Pl.dvl (Pl.body b.data.toList) = x2 at *
  clear hf htab fa fb hz
  go_enter Tryd.func55, Tryd.ntmps55
  go_wp2_with fail
  refine (HRa.out _).mono ?_
  rintro e w1 ⟨ao, an, ac, rfl, HN1, hb1⟩
  have HB1 := Hid.mk hb1
  clear hb1
  go_wp2_with fail
  refine (HRb.out _).mono ?_
  rintro e w2 ⟨bo, bn, bc, rfl, HN2, hb2⟩
  have c0 : w2.cell? ⟨w1.heap.size, 0, none⟩ = some (.bool b1) := below_cells hb2 (by simp) (by simp)
  have c1 : w2.cell? ⟨w1.heap.size, 1, none⟩ = some (.slice ao an ac) := below_cells hb2 (by simp) (by simp)
  have hw2 : w1.heap.size < w2.heap.size := by have := hb2.size; simp at this; omega
  have HB2 := Hid.mk (below_more (below1 w1 _) hb2)
  clear hb2
  go_wp2_with fail
  refine (HF.out _ _ _ ((HN1.out.keep HB2.out).keep (below1 w2 _)) (HN2.out.keep (below1 w2 _))).mono ?_
  intro e w3 h3
  obtain ⟨bl, ro, rn, rc, x, rfl, HN3, hb3⟩ := h3.open'
  have HB3 := Hid.mk (below_more (below_more (below_more HB1.out HB2.out) (below1 w2 _)) hb3)
  have HX : Hid (x < 1000000000 ^ K) := by
    have h1 := HZ.out
    have h2 : x = z.natAbs := by rw [← HN3.out.2]; cases bl <;> simp [sgn]
    show _ < _
    rw [h2]; exact h1
  clear hb3 h3
  go_wp2_with fail
  refine (w_textV bl _ x K w3 HN3.out.1 HX.out hK (HT.out.keep HB3.out)).mono ?_
  rintro e w4 ⟨r, rfl, HR, hb4⟩
  have HB4 := Hid.mk (below_more HB3.out hb4)
  clear hb4
  go_wp2_with fail
  go_ret2
  exact ⟨r, rfl, HR.out.1, by rw [HR.out.2]; exact HN3.out.2, HB4.out⟩

set_option maxRecDepth 100000 in
set_option maxHeartbeats 1600000 in
theorem w_two_left (a b : ByteArray) (z : Int) (K : Nat) (w : World) (ha : a.size ≤ 4294967296) (hb : b.size ≤ 4294967296) (fa : Pl.formed a.data.toList = true) (fb : Pl.formed b.data.toList = true) (htab : Tab w) (hz : z.natAbs < 1000000000 ^ K) (hK : K ≤ 17179869184)
    (hf : ∀ (u : World) (v1 v2 : Value), NumV u v1 (Pl.dvl (Pl.body a.data.toList)) → NumV u v2 (Pl.dvl (Pl.body b.data.toList)) → Calls Tryd.prog 63 #[.agg #[.bool (Pl.neg a.data.toList), v1], .agg #[.bool (Pl.neg b.data.toList), v2]] u fun e w' => NumR u w' e z) :
    Calls Tryd.prog 55 #[.string a, .string b, .func (.func 63) #[] #[]] w fun e w' => Ans w w' e z := by
  have HRa := Hid.mk (fun (u : World) => w_treadV a u ha fa)
  have HRb := Hid.mk (fun (u : World) => w_treadV b u hb fb)
  have HF := Hid.mk hf
  have HT := Hid.mk htab
  have HZ := Hid.mk hz
  generalize Pl.neg a.data.toList = b1 at *
  generalize Pl.neg b.data.toList = b2 at *
  generalize Pl.dvl (Pl.body a.data.toList) = x1 at *
  generalize Pl.dvl (Pl.body b.data.toList) = x2 at *
  clear hf htab fa fb hz
  go_enter Tryd.func55, Tryd.ntmps55
  go_wp2_with fail
  refine (HRa.out _).mono ?_
  rintro e w1 ⟨ao, an, ac, rfl, HN1, hb1⟩
  have HB1 := Hid.mk hb1
  clear hb1
  go_wp2_with fail
  refine (HRb.out _).mono ?_
  rintro e w2 ⟨bo, bn, bc, rfl, HN2, hb2⟩
  have c0 : w2.cell? ⟨w1.heap.size, 0, none⟩ = some (.bool b1) := below_cells hb2 (by simp) (by simp)
  have c1 : w2.cell? ⟨w1.heap.size, 1, none⟩ = some (.slice ao an ac) := below_cells hb2 (by simp) (by simp)
  have hw2 : w1.heap.size < w2.heap.size := by have := hb2.size; simp at this; omega
  have HB2 := Hid.mk (below_more (below1 w1 _) hb2)
  clear hb2
  go_wp2_with fail
  refine (HF.out _ _ _ ((HN1.out.keep HB2.out).keep (below1 w2 _)) (HN2.out.keep (below1 w2 _))).mono ?_
  intro e w3 h3
  obtain ⟨bl, ro, rn, rc, x, rfl, HN3, hb3⟩ := h3.open'
  have HB3 := Hid.mk (below_more (below_more (below_more HB1.out HB2.out) (below1 w2 _)) hb3)
  have HX : Hid (x < 1000000000 ^ K) := by
    have h1 := HZ.out
    have h2 : x = z.natAbs := by rw [← HN3.out.2]; cases bl <;> simp [sgn]
    show _ < _
    rw [h2]; exact h1
  clear hb3 h3
  go_wp2_with fail
  refine (w_textV bl _ x K w3 HN3.out.1 HX.out hK (HT.out.keep HB3.out)).mono ?_
  rintro e w4 ⟨r, rfl, HR, hb4⟩
  have HB4 := Hid.mk (below_more HB3.out hb4)
  clear hb4
  go_wp2_with fail
  go_ret2
  exact ⟨r, rfl, HR.out.1, by rw [HR.out.2]; exact HN3.out.2, HB4.out⟩

end Go.Proofs.YtfcbeohkhljboaaDoor
