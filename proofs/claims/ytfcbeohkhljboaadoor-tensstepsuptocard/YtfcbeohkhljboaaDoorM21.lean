import Derived.Test.YtfcbeohkhljboaaDoorM19
namespace Go.Proofs.YtfcbeohkhljboaaDoor
open Go.RowKit
set_option linter.unusedVariables false
set_option linter.unusedSimpArgs false

/-- what the API answers: a number's text -/
def Ans (w w' : World) (e : Ending) (z : Int) : Prop := ∃ r : ByteArray, e = .returned (.tuple #[.string r, .int .i64 0]) ∧ Pl.formed r.data.toList = true ∧ Pl.ival r.data.toList = z ∧ Below w.heap.size w w'

set_option maxRecDepth 100000 in
set_option maxHeartbeats 1600000 in
theorem w_two_plus (a b : ByteArray) (z : Int) (K : Nat) (w : World) (ha : a.size ≤ 4294967296) (hb : b.size ≤ 4294967296) (fa : Pl.formed a.data.toList = true) (fb : Pl.formed b.data.toList = true) (htab : Tab w) (hz : z.natAbs < 1000000000 ^ K) (hK : K ≤ 17179869184)
    (hf : ∀ (u : World) (v1 v2 : Value), NumV u v1 (Pl.dvl (Pl.body a.data.toList)) → NumV u v2 (Pl.dvl (Pl.body b.data.toList)) → Calls Tryd.prog 56 #[.agg #[.bool (Pl.neg a.data.toList), v1], .agg #[.bool (Pl.neg b.data.toList), v2]] u fun e w' => NumR u w' e z) :
    Calls Tryd.prog 55 #[.string a, .string b, .func (.func 56) #[] #[]] w fun e w' => Ans w w' e z := by
  have HRa := Hid.mk (fun (u : World) => w_treadV a u ha fa)
  have HRb := Hid.mk (fun (u : World) => w_treadV b u hb fb)
  have HF := Hid.mk hf
  have HT := Hid.mk htab
  have HZ := Hid.mk hz
  generalize Pl.neg a.data.toList = b1 at *
  generalize Pl.neg b.data.toList = b2 at *
  generalize Pl.dvl (Pl.body a.data.toList) = x1 at *
  generalize Pl.dvl (Pl.body b.data.toList) = x2 at *
  clear hf htab fa fb hz
  go_enter Tryd.func55, Tryd.ntmps55
  go_wp2_with fail
  refine (HRa.out _).mono ?_
  rintro e w1 ⟨ao, an, ac, rfl, HN1, hb1⟩
  have HB1 := Hid.mk hb1
  clear hb1
  go_wp2_with fail
  refine (HRb.out _).mono ?_
  rintro e w2 ⟨bo, bn, bc, rfl, HN2, hb2⟩
  have c0 : w2.cell? ⟨w1.heap.size, 0, none⟩ = some (.bool b1) := below_cells hb2 (by simp) (by simp)
  have c1 : w2.cell? ⟨w1.heap.size, 1, none⟩ = some (.slice ao an ac) := below_cells hb2 (by simp) (by simp)
  have hw2 : w1.heap.size < w2.heap.size := by have := hb2.size; simp at this; omega
  have HB2 := Hid.mk (below_more (below1 w1 _) hb2)
  clear hb2
  go_wp2_with fail
  refine (HF.out _ _ _ ((HN1.out.keep HB2.out).keep (below1 w2 _)) (HN2.out.keep (below1 w2 _))).mono ?_
  intro e w3 h3
  obtain ⟨bl, ro, rn, rc, x, rfl, HN3, hb3⟩ := h3.open'
  have HB3 := Hid.mk (below_more (below_more (below_more HB1.out HB2.out) (below1 w2 _)) hb3)
  have HX : Hid (x < 1000000000 ^ K) := by
    have h1 := HZ.out
    have h2 : x = z.natAbs := by rw [← HN3.out.2]; cases bl <;> simp [sgn]
    show _ < _
    rw [h2]; exact h1
  clear hb3 h3
  go_wp2_with fail
  refine (w_textV bl _ x K w3 HN3.out.1 HX.out hK (HT.out.keep HB3.out)).mono ?_
  rintro e w4 ⟨r, rfl, HR, hb4⟩
  have HB4 := Hid.mk (below_more HB3.out hb4)
  clear hb4
  go_wp2_with fail
  go_ret2
  exact ⟨r, rfl, HR.out.1, by rw [HR.out.2]; exact HN3.out.2, HB4.out⟩

set_option maxRecDepth 100000 in
set_option maxHeartbeats 1600000 in
theorem w_two_less (a b : ByteArray) (z : Int) (K : Nat) (w : World) (ha : a.size ≤ 4294967296) (hb : b.size ≤ 4294967296) (fa : Pl.formed a.data.toList = true) (fb : Pl.formed b.data.toList = true) (htab : Tab w) (hz : z.natAbs < 1000000000 ^ K) (hK : K ≤ 17179869184)
    (hf : ∀ (u : World) (v1 v2 : Value), NumV u v1 (Pl.dvl (Pl.body a.data.toList)) → NumV u v2 (Pl.dvl (Pl.body b.data.toList)) → Calls Tryd.prog 58 #[.agg #[.bool (Pl.neg a.data.toList), v1], .agg #[.bool (Pl.neg b.data.toList), v2]] u fun e w' => NumR u w' e z) :
    Calls Tryd.prog 55 #[.string a, .string b, .func (.func 58) #[] #[]] w fun e w' => Ans w w' e z := by
  have HRa := Hid.mk (fun (u : World) => w_treadV a u ha fa)
  have HRb := Hid.mk (fun (u : World) => w_treadV b u hb fb)
  have HF := Hid.mk hf
  have HT := Hid.mk htab
  have HZ := Hid.mk hz
  generalize Pl.neg a.data.toList = b1 at *
  generalize Pl.neg b.data.toList = b2 at *
  generalize Pl.dvl (Pl.body a.data.toList) = x1 at *
  generalize Pl.dvl (Pl.body b.data.toList) = x2 at *
  clear hf htab fa fb hz
  go_enter Tryd.func55, Tryd.ntmps55
  go_wp2_with fail
  refine (HRa.out _).mono ?_
  rintro e w1 ⟨ao, an, ac, rfl, HN1, hb1⟩
  have HB1 := Hid.mk hb1
  clear hb1
  go_wp2_with fail
  refine (HRb.out _).mono ?_
  rintro e w2 ⟨bo, bn, bc, rfl, HN2, hb2⟩
  have c0 : w2.cell? ⟨w1.heap.size, 0, none⟩ = some (.bool b1) := below_cells hb2 (by simp) (by simp)
  have c1 : w2.cell? ⟨w1.heap.size, 1, none⟩ = some (.slice ao an ac) := below_cells hb2 (by simp) (by simp)
  have hw2 : w1.heap.size < w2.heap.size := by have := hb2.size; simp at this; omega
  have HB2 := Hid.mk (below_more (below1 w1 _) hb2)
  clear hb2
  go_wp2_with fail
  refine (HF.out _ _ _ ((HN1.out.keep HB2.out).keep (below1 w2 _)) (HN2.out.keep (below1 w2 _))).mono ?_
  intro e w3 h3
  obtain ⟨bl, ro, rn, rc, x, rfl, HN3, hb3⟩ := h3.open'
  have HB3 := Hid.mk (below_more (below_more (below_more HB1.out HB2.out) (below1 w2 _)) hb3)
  have HX : Hid (x < 1000000000 ^ K) := by
    have h1 := HZ.out
    have h2 : x = z.natAbs := by rw [← HN3.out.2]; cases bl <;> simp [sgn]
    show _ < _
    rw [h2]; exact h1
  clear hb3 h3
  go_wp2_with fail
  refine (w_textV bl _ x K w3 HN3.out.1 HX.out hK (HT.out.keep HB3.out)).mono ?_
  rintro e w4 ⟨r, rfl, HR, hb4⟩
  have HB4 := Hid.mk (below_more HB3.out hb4)
  clear hb4
  go_wp2_with fail
  go_ret2
  exact ⟨r, rfl, HR.out.1, by rw [HR.out.2]; exact HN3.out.2, HB4.out⟩

end Go.Proofs.YtfcbeohkhljboaaDoor
namespace Go.Proofs.YtfcbeohkhljboaaDoor
open Go.RowKit
set_option linter.unusedVariables false
set_option linter.unusedSimpArgs false

set_option maxRecDepth 100000 in
set_option maxHeartbeats 1600000 in
theorem w_two_times (a b : ByteArray) (z : Int) (K : Nat) (w : World) (ha : a.size ≤ 4294967296) (hb : b.size ≤ 4294967296) (fa : Pl.formed a.data.toList = true) (fb : Pl.formed b.data.toList = true) (htab : Tab w) (hz : z.natAbs < 1000000000 ^ K) (hK : K ≤ 17179869184)
    (hf : ∀ (u : World) (v1 v2 : Value), NumV u v1 (Pl.dvl (Pl.body a.data.toList)) → NumV u v2 (Pl.dvl (Pl.body b.data.toList)) → Calls Tryd.prog 59 #[.agg #[.bool (Pl.neg a.data.toList), v1], .agg #[.bool (Pl.neg b.data.toList), v2]] u fun e w' => NumR u w' e z) :
    Calls Tryd.prog 55 #[.string a, .string b, .func (.func 59) #[] #[]] w fun e w' => Ans w w' e z := by
  have HRa := Hid.mk (fun (u : World) => w_treadV a u ha fa)
  have HRb := Hid.mk (fun (u : World) => w_treadV b u hb fb)
  have HF := Hid.mk hf
  have HT := Hid.mk htab
  have HZ := Hid.mk hz
  generalize Pl.neg a.data.toList = b1 at *
  generalize Pl.neg b.data.toList = b2 at *
  generalize Pl.dvl (Pl.body a.data.toList) = x1 at *
  generalize Pl.dvl (Pl.body b.data.toList) = x2 at *
  clear hf htab fa fb hz
  go_enter Tryd.func55, Tryd.ntmps55
  go_wp2_with fail
  refine (HRa.out _).mono ?_
  rintro e w1 ⟨ao, an, ac, rfl, HN1, hb1⟩
  have HB1 := Hid.mk hb1
  clear hb1
  go_wp2_with fail
  refine (HRb.out _).mono ?_
  rintro e w2 ⟨bo, bn, bc, rfl, HN2, hb2⟩
  have c0 : w2.cell? ⟨w1.heap.size, 0, none⟩ = some (.bool b1) := below_cells hb2 (by simp) (by simp)
  have c1 : w2.cell? ⟨w1.heap.size, 1, none⟩ = some (.slice ao an ac) := below_cells hb2 (by simp) (by simp)
  have hw2 : w1.heap.size < w2.heap.size := by have := hb2.size; simp at this; omega
  have HB2 := Hid.mk (below_more (below1 w1 _) hb2)
  clear hb2
  go_wp2_with fail
  refine (HF.out _ _ _ ((HN1.out.keep HB2.out).keep (below1 w2 _)) (HN2.out.keep (below1 w2 _))).mono ?_
  intro e w3 h3
  obtain ⟨bl, ro, rn, rc, x, rfl, HN3, hb3⟩ := h3.open'
  have HB3 := Hid.mk (below_more (below_more (below_more HB1.out HB2.out) (below1 w2 _)) hb3)
  have HX : Hid (x < 1000000000 ^ K) := by
    have h1 := HZ.out
    have h2 : x = z.natAbs := by rw [← HN3.out.2]; cases bl <;> simp [sgn]
    show _ < _
    rw [h2]; exact h1
  clear hb3 h3
  go_wp2_with fail
  refine (w_textV bl _ x K w3 HN3.out.1 HX.out hK (HT.out.keep HB3.out)).mono ?_
  rintro e w4 ⟨r, rfl, HR, hb4⟩
  have HB4 := Hid.mk (below_more HB3.out hb4)
  clear hb4
  go_wp2_with fail
  go_ret2
  exact ⟨r, rfl, HR.out.1, by rw [HR.out.2]; exact HN3.out.2, HB4.out⟩

set_option maxRecDepth 100000 in
set_option maxHeartbeats 1600000 in
theorem w_two_over (a b : ByteArray) (z : Int) (K : Nat) (w : World) (ha : a.size ≤ 4294967296) (hb : b.size ≤ 4294967296) (fa : Pl.formed a.data.toList = true) (fb : Pl.formed b.data.toList = true) (htab : Tab w) (hz : z.natAbs < 1000000000 ^ K) (hK : K ≤ 17179869184)
    (hf : ∀ (u : World) (v1 v2 : Value), NumV u v1 (Pl.dvl (Pl.body a.data.toList)) → NumV u v2 (Pl.dvl (Pl.body b.data.toList)) → Calls Tryd.prog 61 #[.agg #[.bool (Pl.neg a.data.toList), v1], .agg #[.bool (Pl.neg b.data.toList), v2]] u fun e w' => NumR u w' e z) :
    Calls Tryd.prog 55 #[.string a, .string b, .func (.func 61) #[] #[]] w fun e w' => Ans w w' e z := by
  have HRa := Hid.mk (fun (u : World) => w_treadV a u ha fa)
  have HRb := Hid.mk (fun (u : World) => w_treadV b u hb fb)
  have HF := Hid.mk hf
  have HT := Hid.mk htab
  have HZ := Hid.mk hz
  generalize Pl.neg a.data.toList = b1 at *
  generalize Pl.neg b.data.toList = b2 at *
  generalize Pl.dvl (Pl.body a.data.toList) = x1 at *
  generalize Pl.dvl (Pl.body b.data.toList) = x2 at *
  clear hf htab fa fb hz
  go_enter Tryd.func55, Tryd.ntmps55
  go_wp2_with fail
  refine (HRa.out _).mono ?_
  rintro e w1 ⟨ao, an, ac, rfl, HN1, hb1⟩
  have HB1 := Hid.mk hb1
  clear hb1
  go_wp2_with fail
  refine (HRb.out _).mono ?_
  rintro e w2 ⟨bo, bn, bc, rfl, HN2, hb2⟩
  have c0 : w2.cell? ⟨w1.heap.size, 0, none⟩ = some (.bool b1) := below_cells hb2 (by simp) (by simp)
  have c1 : w2.cell? ⟨w1.heap.size, 1, none⟩ = some (.slice ao an ac) := below_cells hb2 (by simp) (by simp)
  have hw2 : w1.heap.size < w2.heap.size := by have := hb2.size; simp at this; omega
  have HB2 := Hid.mk (below_more (below1 w1 _) hb2)
  clear hb2
  go_wp2_with fail
  refine (HF.out _ _ _ ((HN1.out.keep HB2.out).keep (below1 w2 _)) (HN2.out.keep (below1 w2 _))).mono ?_
  intro e w3 h3
  obtain ⟨bl, ro, rn, rc, x, rfl, HN3, hb3⟩ := h3.open'
  have HB3 := Hid.mk (below_more (below_more (below_more HB1.out HB2.out) (below1 w2 _)) hb3)
  have HX : Hid (x < 1000000000 ^ K) := by
    have h1 := HZ.out
    have h2 : x = z.natAbs := by rw [← HN3.out.2]; cases bl <;> simp [sgn]
    show _ < _
    rw [h2]; exact h1
  clear hb3 h3
  go_wp2_with fail
  refine (w_textV bl _ x K w3 HN3.out.1 HX.out hK (HT.out.keep HB3.out)).mono ?_
  rintro e w4 ⟨r, rfl, HR, hb4⟩
  have HB4 := Hid.mk (below_more HB3.out hb4)
  clear hb4
  go_wp2_with fail
  go_ret2
  exact ⟨r, rfl, HR.out.1, by rw [HR.out.2]; exact HN3.out.2, HB4.out⟩

set_option maxRecDepth 100000 in
set_option maxHeartbeats 1600000 in
theorem w_two_left (a b : ByteArray) (z : Int) (K : Nat) (w : World) (ha : a.size ≤ 4294967296) (hb : b.size ≤ 4294967296) (fa : Pl.formed a.data.toList = true) (fb : Pl.formed b.data.toList = true) (htab : Tab w) (hz : z.natAbs < 1000000000 ^ K) (hK : K ≤ 17179869184)
    (hf : ∀ (u : World) (v1 v2 : Value), NumV u v1 (Pl.dvl (Pl.body a.data.toList)) → NumV u v2 (Pl.dvl (Pl.body b.data.toList)) → Calls Tryd.prog 63 #[.agg #[.bool (Pl.neg a.data.toList), v1], .agg #[.bool (Pl.neg b.data.toList), v2]] u fun e w' => NumR u w' e z) :
    Calls Tryd.prog 55 #[.string a, .string b, .func (.func 63) #[] #[]] w fun e w' => Ans w w' e z := by
  have HRa := Hid.mk (fun (u : World) => w_treadV a u ha fa)
  have HRb := Hid.mk (fun (u : World) => w_treadV b u hb fb)
  have HF := Hid.mk hf
  have HT := Hid.mk htab
  have HZ := Hid.mk hz
  generalize Pl.neg a.data.toList = b1 at *
  generalize Pl.neg b.data.toList = b2 at *
  generalize Pl.dvl (Pl.body a.data.toList) = x1 at *
  generalize Pl.dvl (Pl.body b.data.toList) = x2 at *
  clear hf htab fa fb hz
  go_enter Tryd.func55, Tryd.ntmps55
  go_wp2_with fail
  refine (HRa.out _).mono ?_
  rintro e w1 ⟨ao, an, ac, rfl, HN1, hb1⟩
  have HB1 := Hid.mk hb1
  clear hb1
  go_wp2_with fail
  refine (HRb.out _).mono ?_
  rintro e w2 ⟨bo, bn, bc, rfl, HN2, hb2⟩
  have c0 : w2.cell? ⟨w1.heap.size, 0, none⟩ = some (.bool b1) := below_cells hb2 (by simp) (by simp)
  have c1 : w2.cell? ⟨w1.heap.size, 1, none⟩ = some (.slice ao an ac) := below_cells hb2 (by simp) (by simp)
  have hw2 : w1.heap.size < w2.heap.size := by have := hb2.size; simp at this; omega
  have HB2 := Hid.mk (below_more (below1 w1 _) hb2)
  clear hb2
  go_wp2_with fail
  refine (HF.out _ _ _ ((HN1.out.keep HB2.out).keep (below1 w2 _)) (HN2.out.keep (below1 w2 _))).mono ?_
  intro e w3 h3
  obtain ⟨bl, ro, rn, rc, x, rfl, HN3, hb3⟩ := h3.open'
  have HB3 := Hid.mk (below_more (below_more (below_more HB1.out HB2.out) (below1 w2 _)) hb3)
  have HX : Hid (x < 1000000000 ^ K) := by
    have h1 := HZ.out
    have h2 : x = z.natAbs := by rw [← HN3.out.2]; cases bl <;> simp [sgn]
    show _ < _
    rw [h2]; exact h1
  clear hb3 h3
  go_wp2_with fail
  refine (w_textV bl _ x K w3 HN3.out.1 HX.out hK (HT.out.keep HB3.out)).mono ?_
  rintro e w4 ⟨r, rfl, HR, hb4⟩
  have HB4 := Hid.mk (below_more HB3.out hb4)
  clear hb4
  go_wp2_with fail
  go_ret2
  exact ⟨r, rfl, HR.out.1, by rw [HR.out.2]; exact HN3.out.2, HB4.out⟩

end Go.Proofs.YtfcbeohkhljboaaDoor
