import Derived.Test.YtapjfocjeligiaaGreatDoorM26
namespace Go.Proofs.YtapjfocjeligiaaGreatDoor
open Go.RowKit Go.Sort
set_option linter.unusedVariables false
set_option linter.unusedSimpArgs false
attribute [local go_sem] Oper.semAt_some

/-- empty, or a number -/
def bdB (s : ByteArray) : Bool := s.toList.isEmpty || Pl.formed s.data.toList
theorem bd_formed {s : ByteArray} (h : bdB s = true) (h2 : ¬ s.toList = []) : Pl.formed s.data.toList = true := by
  unfold bdB at h
  cases hh : s.toList with
  | nil => exact absurd hh h2
  | cons a r => rw [hh] at h; simpa using h
theorem formed_none {s : ByteArray} (h : s.toList.isEmpty = true) : Pl.formed s.data.toList = false := by
  rw [Lib.toList_data] at h
  rw [List.isEmpty_iff.1 h]; rfl
theorem abv_l {a b : ByteArray} (h : a.toList.isEmpty = true) : abv a b = false := by
  unfold abv Pl.cmpN; rw [formed_none h]; rfl
theorem abv_r {a b : ByteArray} (h : b.toList.isEmpty = true) : abv a b = false := by
  unfold abv Pl.cmpN; rw [formed_none h, Bool.and_false]; rfl
/-- one span in another, by the document -/
def inS (al ah bl bh : ByteArray) : Bool :=
  (!al.toList.isEmpty && (!ah.toList.isEmpty && decide (0 < numC al ah))) || (!(!bl.toList.isEmpty && (al.toList.isEmpty || decide (numC al bl < 0))) && (bh.toList.isEmpty || (!ah.toList.isEmpty && decide (numC ah bh ≤ 0))))
theorem inS_prog {al ah bl bh : ByteArray} (h1 : bdB al = true) (h2 : bdB ah = true) (h3 : bdB bl = true) (h4 : bdB bh = true) :
    (abv al ah || ((bl.toList.isEmpty || (!al.toList.isEmpty && !abv bl al)) && (bh.toList.isEmpty || (!ah.toList.isEmpty && !abv ah bh)))) = inS al ah bl bh := by
  have sw : ∀ a b : ByteArray, bdB a = true → bdB b = true → a.toList.isEmpty = false → b.toList.isEmpty = false → abv b a = decide (numC a b < 0) := fun a b ha hb ea eb => by
    have := numC_ord.sw a b (bd_formed ha (fun h => by rw [h] at ea; cases ea)) (bd_formed hb (fun h => by rw [h] at eb; cases eb))
    unfold abv
    show decide (0 < numC b a) = _
    rw [this]
    exact decide_eq_decide.2 (by omega)
  have nt : ∀ a b : ByteArray, (!abv a b) = decide (numC a b ≤ 0) := fun a b => by
    show (!decide (0 < numC a b)) = _
    by_cases h : 0 < numC a b
    · rw [decide_eq_true h, decide_eq_false (by omega)]; rfl
    · rw [decide_eq_false h, decide_eq_true (by omega)]; rfl
  have e1 : abv al ah = (!al.toList.isEmpty && (!ah.toList.isEmpty && decide (0 < numC al ah))) := by
    cases ea : al.toList.isEmpty with
    | true => rw [abv_l ea]; rfl
    | false =>
      cases eb : ah.toList.isEmpty with
      | true => rw [abv_r eb]; rfl
      | false => rfl
  have e2 : (bl.toList.isEmpty || (!al.toList.isEmpty && !abv bl al)) = !(!bl.toList.isEmpty && (al.toList.isEmpty || decide (numC al bl < 0))) := by
    cases eb : bl.toList.isEmpty with
    | true => rfl
    | false =>
      cases ea : al.toList.isEmpty with
      | true => rfl
      | false => rw [sw al bl h1 h3 ea eb]; rfl
  unfold inS
  rw [e1, e2, nt ah bh]
/-- a number in a span -/
def hasS (n bl bh : ByteArray) : Bool := !(!bl.toList.isEmpty && decide (numC n bl < 0)) && (bh.toList.isEmpty || decide (numC n bh ≤ 0))
theorem inS_has {al ah bl bh n : ByteArray} (h1 : bdB al = true) (h2 : bdB ah = true) (h3 : bdB bl = true) (h4 : bdB bh = true) (hn : Pl.formed n.data.toList = true) (hi : inS al ah bl bh = true) (ha : hasS n al ah = true) : hasS n bl bh = true := by
  have val : ∀ a b : ByteArray, Pl.formed a.data.toList = true → Pl.formed b.data.toList = true → numC a b = Pl.cmpI (Pl.ival a.data.toList) (Pl.ival b.data.toList) := fun a b ha hb => Pl.cmpN_val ha hb
  have fm : ∀ {s : ByteArray}, bdB s = true → s.toList.isEmpty = false → Pl.formed s.data.toList = true := fun h e => bd_formed h (fun h => by rw [h] at e; cases e)
  have ci : ∀ x y : Int, (Pl.cmpI x y ≤ 0 ↔ x ≤ y) ∧ (Pl.cmpI x y < 0 ↔ x < y) ∧ (0 < Pl.cmpI x y ↔ y < x) := fun x y => by
    unfold Pl.cmpI; split
    · omega
    · split <;> omega
  unfold inS at hi
  unfold hasS at ha ⊢
  cases e1 : al.toList.isEmpty <;> cases e2 : ah.toList.isEmpty <;> cases e3 : bl.toList.isEmpty <;> cases e4 : bh.toList.isEmpty <;> rw [e1, e2, e3, e4] at hi <;> rw [e1, e2] at ha <;>
    simp only [Bool.not_true, Bool.not_false, Bool.true_and, Bool.false_and, Bool.true_or, Bool.false_or, Bool.and_true, Bool.or_false, Bool.or_true, Bool.and_false, Bool.not_eq_true', Bool.or_eq_true, Bool.and_eq_true, decide_eq_true_eq, decide_eq_false_iff_not, Bool.false_eq_true, false_or, or_false, true_and, and_true, and_false, false_and] at hi ha ⊢
  all_goals first
    | trivial
    | (try have f1 := fm h1 e1
       try have f2 := fm h2 e2
       try have f3 := fm h3 e3
       try have f4 := fm h4 e4
       try rw [val _ _ f1 f2] at hi
       try rw [val _ _ f1 f3] at hi
       try rw [val _ _ f2 f4] at hi
       try rw [val _ _ hn f1] at ha
       try rw [val _ _ hn f2] at ha
       try rw [val _ _ hn f3]
       try rw [val _ _ hn f4]
       simp only [ci] at hi ha ⊢
       omega)
end Go.Proofs.YtapjfocjeligiaaGreatDoor
