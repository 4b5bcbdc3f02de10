import Derived.Test.YtgnaeddpdomgkabDoorTen33
namespace Go.Proofs.YtgnaeddpdomgkabDoor
open Go.RowKit
set_option linter.unusedVariables false
set_option linter.unusedSimpArgs false

set_option maxRecDepth 100000 in
set_option maxHeartbeats 800000 in
theorem w_Abs (a : ByteArray) (w : World) (ha : a.size ≤ 4294967296) (fa : Pl.formed a.data.toList = true) (htab : Tab w) :
    Calls Tryd.prog 19 #[.string a] w fun e w' => Ans w w' e ((Pl.ival a.data.toList).natAbs : Int) := by
  have HW := Hid.mk (w_one_unsigned a w ha fa htab)
  rw [natAbs_ival]
  clear fa htab
  go_enter Tryd.func19, Tryd.ntmps19
  go_wp2_with fail
  refine HW.out.mono ?_
  rintro e w1 ⟨r, rfl, r1, r2, r3⟩
  have HR := Hid.mk (And.intro r1 (And.intro r2 r3))
  clear r1 r2 r3
  go_wp2_with fail
  go_ret2
  exact ⟨r, rfl, HR.out.1, HR.out.2.1, HR.out.2.2⟩

/-- what Root answers -/
def AnsR (w w' : World) (e : Ending) (x : Int) : Prop := ∃ r : ByteArray, e = .returned (.tuple #[.string r, .int .i64 0]) ∧ Pl.formed r.data.toList = true ∧ 0 ≤ Pl.ival r.data.toList ∧ Pl.ival r.data.toList * Pl.ival r.data.toList ≤ x ∧ x < (Pl.ival r.data.toList + 1) * (Pl.ival r.data.toList + 1) ∧ Below w.heap.size w w'

theorem root_any {w : World} {v : Value} {x K : Nat} (h : NumV w v x) (hx : x < 1000000000 ^ K) (hK : K ≤ 4294967296) : Calls Tryd.prog 26 #[v] w fun e w' => ∃ ro rn rc y, e = .returned (.slice ro rn rc) ∧ Hid (NumV w' (.slice ro rn rc) y ∧ y * y ≤ x ∧ x < (y + 1) * (y + 1)) ∧ Below w.heap.size w w' := by
  obtain ⟨xs, g, e, l⟩ := h.fits hx
  refine (w_root K v xs w l (by omega) g.1 g.2.1 g.2.2).mono ?_
  rintro e' w' ⟨v', rfl, rs, gr, hb, h1, h2⟩
  obtain ⟨ro, rc, rfl, _⟩ := gr.1
  rw [e] at h1 h2
  exact ⟨ro, _, rc, _, rfl, ⟨⟨rs, gr, rfl⟩, h1, h2⟩, hb⟩

set_option maxRecDepth 100000 in
set_option maxHeartbeats 1600000 in
theorem w_Root (a : ByteArray) (w : World) (ha : a.size ≤ 4294967296) (fa : Pl.formed a.data.toList = true) (hn : Pl.neg a.data.toList = false) (htab : Tab w) :
    Calls Tryd.prog 13 #[.string a] w fun e w' => AnsR w w' e (Pl.ival a.data.toList) := by
  have HRa := Hid.mk (fun (u : World) => w_treadV a u ha fa)
  have HT := Hid.mk htab
  have HX := Hid.mk (dvl_pow fa)
  have HV : Hid (Pl.ival a.data.toList = (Pl.dvl (Pl.body a.data.toList) : Int)) := by show _ = _; unfold Pl.ival; rw [hn]; rfl
  rw [HV.out]
  rw [hn] at HRa
  clear HV
  generalize Pl.dvl (Pl.body a.data.toList) = x1 at *
  clear htab fa hn
  go_enter Tryd.func13, Tryd.ntmps13
  go_wp2_with fail
  refine (HRa.out _).mono ?_
  rintro e w1 ⟨ao, an, ac, rfl, HN1, hb1⟩
  have HB1 := Hid.mk hb1
  clear hb1
  go_wp2_with fail
  refine (root_any (HN1.out.keep (below1 w1 _)) HX.out ha).mono ?_
  rintro e w2 ⟨ro, rn, rc, y, rfl, HN2, hb2⟩
  have HB2 := Hid.mk (below_more (below_more HB1.out (below1 w1 _)) hb2)
  have HY : Hid (y < 1000000000 ^ a.size) := by
    show _ < _
    have h1 := HN2.out.2.1
    have h2 := HX.out
    have h3 : y ≤ y * y := by
      rcases Nat.eq_zero_or_pos y with h | h
      · subst h; exact Nat.le_refl _
      · exact Nat.le_mul_of_pos_left _ h
    omega
  clear hb2
  go_wp2_with fail
  refine (w_textV false _ y a.size w2 HN2.out.1 HY.out (by omega) (HT.out.keep HB2.out)).mono ?_
  rintro e w4 ⟨r, rfl, HR, hb4⟩
  have HB4 := Hid.mk (below_more HB2.out hb4)
  clear hb4
  go_wp2_with fail
  go_ret2
  have e1 : Pl.ival r.data.toList = (y : Int) := HR.out.2
  refine ⟨r, rfl, HR.out.1, ?_, ?_, ?_, HB4.out⟩
  · rw [e1]; omega
  · rw [e1]; exact_mod_cast HN2.out.2.1
  · rw [e1]; exact_mod_cast HN2.out.2.2

end Go.Proofs.YtgnaeddpdomgkabDoor
