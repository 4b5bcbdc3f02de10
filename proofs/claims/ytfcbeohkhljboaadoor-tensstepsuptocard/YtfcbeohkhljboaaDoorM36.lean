import Derived.Test.YtfcbeohkhljboaaDoorM35
namespace Go.Proofs.YtfcbeohkhljboaaDoor
open Go.RowKit
set_option linter.unusedVariables false
set_option linter.unusedSimpArgs false

set_option maxRecDepth 100000 in
set_option maxHeartbeats 800000 in
theorem w_negated (b1 : Bool) (v1 : Value) (x1 : Nat) (w : World) (h1 : NumV w v1 x1) :
    Calls Tryd.prog 42 #[.agg #[.bool b1, v1]] w fun e w' => e = .returned (.agg #[.bool (!b1), v1]) ∧ Below w.heap.size w w' := by
  obtain ⟨xs, g1, e1⟩ := h1
  obtain ⟨ao, ca, rfl, q1, q2⟩ := g1.1
  clear q1 q2 g1 e1
  go_enter Tryd.func42, Tryd.ntmps42
  go_wp2
  refine bodyPost_ret (v := .agg #[.bool (!b1), .slice ao xs.length ca]) (by simp [results, Tryd.results42, go_sem]) rfl ?_
  exact ⟨rfl, below2 w _ _⟩

set_option maxRecDepth 100000 in
set_option maxHeartbeats 800000 in
theorem w_unsigned (b1 : Bool) (v1 : Value) (x1 : Nat) (w : World) (h1 : NumV w v1 x1) :
    Calls Tryd.prog 45 #[.agg #[.bool b1, v1]] w fun e w' => e = .returned (.agg #[.bool false, v1]) ∧ Below w.heap.size w w' := by
  obtain ⟨xs, g1, e1⟩ := h1
  obtain ⟨ao, ca, rfl, q1, q2⟩ := g1.1
  clear q1 q2 g1 e1
  go_enter Tryd.func45, Tryd.ntmps45
  go_wp2
  refine bodyPost_ret (v := .agg #[.bool false, .slice ao xs.length ca]) (by simp [results, Tryd.results45, go_sem]) rfl ?_
  exact ⟨rfl, below2 w _ _⟩

theorem NumR.open' {u w' : World} {e : Ending} {z : Int} (h : NumR u w' e z) : ∃ bl ro rn rc x, e = .returned (.agg #[.bool bl, .slice ro rn rc]) ∧ Hid (NumV w' (.slice ro rn rc) x ∧ sgn bl x = z) ∧ Below u.heap.size u w' := by
  obtain ⟨bl, v, x, h1, h2, h3, h4⟩ := h
  have h2' := h2
  obtain ⟨zs, hz, _⟩ := h2'
  obtain ⟨ro, rc, rfl, _⟩ := hz.1
  exact ⟨bl, ro, _, rc, x, h1, ⟨h2, h3⟩, h4⟩

set_option maxRecDepth 100000 in
set_option maxHeartbeats 800000 in
theorem w_less (b1 b2 : Bool) (v1 v2 : Value) (x1 x2 K : Nat) (w : World) (h1 : NumV w v1 x1) (h2 : NumV w v2 x2) (k1 : x1 < 1000000000 ^ K) (k2 : x2 < 1000000000 ^ K) (hK : K ≤ 274877906944) :
    Calls Tryd.prog 58 #[.agg #[.bool b1, v1], .agg #[.bool b2, v2]] w fun e w' => NumR w w' e (sgn b1 x1 - sgn b2 x2) := by
  have HP : Hid (∀ u, Below w.heap.size w u → Calls Tryd.prog 56 #[.agg #[.bool b1, v1], .agg #[.bool (!b2), v2]] u fun e w' => ∃ bl ro rn rc x, e = .returned (.agg #[.bool bl, .slice ro rn rc]) ∧ Hid (NumV w' (.slice ro rn rc) x ∧ sgn bl x = sgn b1 x1 - sgn b2 x2) ∧ Below u.heap.size u w') := by
    intro u hu
    refine (w_plus b1 (!b2) v1 v2 x1 x2 K u (h1.keep hu) (h2.keep hu) k1 k2 hK).mono ?_
    intro e w' h
    have e2 : sgn b1 x1 + sgn (!b2) x2 = sgn b1 x1 - sgn b2 x2 := by cases b2 <;> simp [sgn] <;> omega
    rw [e2] at h
    exact h.open'
  have HM : Hid (∀ u, Below w.heap.size w u → Calls Tryd.prog 42 #[.agg #[.bool b2, v2]] u fun e w' => e = .returned (.agg #[.bool (!b2), v2]) ∧ Below u.heap.size u w') := fun u hu => w_negated b2 v2 x2 u (h2.keep hu)
  obtain ⟨xs, g1, e1⟩ := h1
  obtain ⟨ao, ca, rfl, q1, q2⟩ := g1.1
  clear q1 q2
  obtain ⟨ys, g2, e2⟩ := h2
  obtain ⟨bo, cb, rfl, q1, q2⟩ := g2.1
  clear q1 q2 g1 g2 e1 e2 k1 k2
  have HI := (in3_box w b1 (.slice ao xs.length ca) b2 (.slice bo ys.length cb)).drew
  go_enter Tryd.func58, Tryd.ntmps58
  go_wp2_with fail
  go_region_with (first | (go_at_call 42; refine (HM.out _ HI.below).mono ?_; rintro e w1 ⟨rfl, hb1⟩; have HJ := HI.keep hb1; have g00 := HJ.c00; have g01 := HJ.c01) | (go_at_call 56; refine (HP.out _ HJ.below).mono ?_; rintro e w2 ⟨bl, ro, rn, rc, x, rfl, HN, hb2⟩; have HK := HJ.keep hb2; have g20 := HK.c20; have g21 := HK.c21; have q20 := HK.f20; have q21 := HK.f21))
  all_goals obtain ⟨r0, r1, r2, r3⟩ := fill (bl := bl) HK.below (by omega) g20 g21 (by simp) HN.out.1
  all_goals go_wp2_with fail
  all_goals refine bodyPost_ret (v := .agg #[.bool bl, .slice ro rn rc]) (by simp [results, Tryd.results58, go_sem, r0, r1]) rfl ?_
  all_goals exact ⟨bl, _, _, rfl, r2, HN.out.2, r3⟩

end Go.Proofs.YtfcbeohkhljboaaDoor
namespace Go.Proofs.YtfcbeohkhljboaaDoor
open Go.RowKit
set_option linter.unusedVariables false
set_option linter.unusedSimpArgs false

set_option maxRecDepth 100000 in
set_option maxHeartbeats 800000 in
theorem w_tread_not (s : ByteArray) (w : World) (hs : s.size ≤ maxLen) (hf : Pl.formed s.data.toList = false) :
    Calls Tryd.prog 47 #[.string s] w fun e w' => e = .returned (.tuple #[.agg #[.bool false, .slice none 0 0], .bool false]) ∧ Below w.heap.size w w' := by
  have HC := Hid.mk (fun (u : World) => w_Formed s u hs)
  have HF := Hid.mk hf
  unfold maxLen at hs
  go_enter Tryd.func47, Tryd.ntmps47
  go_wp2_with fail
  refine (HC.out _).mono ?_
  rintro e w1 ⟨rfl, hb1⟩
  rw [HF.out]
  have HB := Hid.mk hb1
  have c0 : w1.cell? ⟨w.heap.size, 0, none⟩ = some (.bool false) := below_cells hb1 (by simp) (by simp)
  have c1 : w1.cell? ⟨w.heap.size, 1, none⟩ = some (.slice none 0 0) := below_cells hb1 (by simp) (by simp)
  have f0 : w1.frozen? ⟨w.heap.size, 0, none⟩ = false := below_frees hb1 (by simp) (by simp)
  have f1 : w1.frozen? ⟨w.heap.size, 1, none⟩ = false := below_frees hb1 (by simp) (by simp)
  clear hb1 hf
  go_wp2_with fail
  have d1 : (w1.setCell ⟨w.heap.size, 0, none⟩ (.bool false)).cell? ⟨w.heap.size, 1, none⟩ = some (.slice none 0 0) := by
    rw [World.cell?_setCell_other _ _ _ _ (by simp)]; exact c1
  have r1 := World.cell?_setCell_same _ _ (.slice none 0 0) d1
  have r0 : ((w1.setCell ⟨w.heap.size, 0, none⟩ (.bool false)).setCell ⟨w.heap.size, 1, none⟩ (.slice none 0 0)).cell? ⟨w.heap.size, 0, none⟩ = some (.bool false) := by
    rw [World.cell?_setCell_other _ _ _ _ (by simp)]; exact World.cell?_setCell_same _ _ _ c0
  refine bodyPost_ret (v := .tuple #[.agg #[.bool false, .slice none 0 0], .bool false]) (by simp [results, Tryd.results47, go_sem, r0, r1]) rfl ?_
  exact ⟨rfl, ((below_more (below1 w _) HB.out).setCell (Nat.le_refl _) _).setCell (Nat.le_refl _) _⟩

theorem w_textV (bl : Bool) (v : Value) (x K : Nat) (w : World) (h : NumV w v x) (hx : x < 1000000000 ^ K) (hK : K ≤ 17179869184) (htab : Tab w) :
    Calls Tryd.prog 49 #[.agg #[.bool bl, v]] w fun e w' => ∃ r : ByteArray, e = .returned (.string r) ∧ Hid (Pl.formed r.data.toList = true ∧ Pl.ival r.data.toList = sgn bl x) ∧ Below w.heap.size w w' := by
  obtain ⟨zs, g, e, l⟩ := h.fits hx
  refine (w_text bl v zs w g (by omega) htab).mono ?_
  rintro e' w' ⟨r, h1, h2, h3, h4⟩
  exact ⟨r, h1, ⟨h2, by rw [← e]; exact h3⟩, h4⟩

/-- reading, either way -/
theorem w_treadV (s : ByteArray) (w : World) (hs : s.size ≤ 4294967296) (hf : Pl.formed s.data.toList = true) :
    Calls Tryd.prog 47 #[.string s] w fun e w' => ∃ ro rn rc, e = .returned (.tuple #[.agg #[.bool (Pl.neg s.data.toList), .slice ro rn rc], .bool true]) ∧ Hid (NumV w' (.slice ro rn rc) (Pl.dvl (Pl.body s.data.toList))) ∧ Below w.heap.size w w' := by
  refine (w_tread s w hs hf).mono ?_
  rintro e w' ⟨v, rfl, ⟨zs, h1, h2, h3⟩, h4⟩
  obtain ⟨ro, rc, rfl, _⟩ := h1.1
  exact ⟨ro, _, rc, rfl, ⟨zs, h1, h2⟩, h4⟩
end Go.Proofs.YtfcbeohkhljboaaDoor
namespace Go.Proofs.YtfcbeohkhljboaaDoor
open Go.RowKit
set_option linter.unusedVariables false
set_option linter.unusedSimpArgs false

theorem w_readAny (s : ByteArray) (w : World) (hs : s.size ≤ 4294967296) :
    Calls Tryd.prog 47 #[.string s] w fun e w' => ∃ bl ro rn rc, e = .returned (.tuple #[.agg #[.bool bl, .slice ro rn rc], .bool (Pl.formed s.data.toList)]) ∧ Below w.heap.size w w' := by
  by_cases hf : Pl.formed s.data.toList = true
  · refine (w_treadV s w hs hf).mono ?_
    rintro e w' ⟨ro, rn, rc, rfl, _, h⟩
    exact ⟨_, ro, rn, rc, by rw [hf], h⟩
  · rw [Bool.not_eq_true] at hf
    refine (w_tread_not s w (by unfold maxLen; omega) hf).mono ?_
    rintro e w' ⟨rfl, h⟩
    exact ⟨_, none, 0, 0, by rw [hf], h⟩

set_option maxRecDepth 100000 in
set_option maxHeartbeats 1600000 in
theorem w_two_bad (a b : ByteArray) (fn : Nat) (w : World) (ha : a.size ≤ 4294967296) (hb : b.size ≤ 4294967296) (hbad : (Pl.formed a.data.toList && Pl.formed b.data.toList) = false) :
    Calls Tryd.prog 55 #[.string a, .string b, .func (.func fn) #[] #[]] w fun e w' => e = .returned (.tuple #[.string ⟨#[]⟩, .int .i64 1]) ∧ Below w.heap.size w w' := by
  have HRa := Hid.mk (fun (u : World) => w_readAny a u ha)
  have HRb := Hid.mk (fun (u : World) => w_readAny b u hb)
  generalize Pl.formed a.data.toList = fa at *
  generalize Pl.formed b.data.toList = fb at *
  go_enter Tryd.func55, Tryd.ntmps55
  go_wp2_with fail
  refine (HRa.out _).mono ?_
  rintro e w1 ⟨b1, ao, an, ac, rfl, hb1⟩
  have HB1 := Hid.mk hb1
  clear hb1
  go_wp2_with fail
  refine (HRb.out _).mono ?_
  rintro e w2 ⟨b2, bo, bn, bc, rfl, hb2⟩
  have HB2 := Hid.mk (below_more (below1 w1 _) hb2)
  clear hb2
  have HB3 := Hid.mk (below_more (below_more HB1.out HB2.out) (below1 w2 (.cells #[.bool b2, .slice bo bn bc] 58)))
  cases fa
  · go_wp2_with fail
    go_ret2
    exact ⟨rfl, HB3.out⟩
  · cases fb
    · go_wp2_with fail
      go_ret2
      exact ⟨rfl, HB3.out⟩
    · simp at hbad

theorem body_size (s : ByteArray) : (Pl.body s.data.toList).length ≤ s.size := by
  unfold Pl.body
  have : s.data.toList.length = s.size := Array.length_toList
  split
  · rw [List.length_tail]; omega
  · omega

theorem sgn_ival (l : List UInt8) : sgn (Pl.neg l) (Pl.dvl (Pl.body l)) = Pl.ival l := rfl

theorem pow_le9 (n : Nat) : 10 ^ n ≤ 1000000000 ^ n := Nat.pow_le_pow_left (by decide) n

end Go.Proofs.YtfcbeohkhljboaaDoor
