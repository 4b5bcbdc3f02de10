import Derived.Test.YtapjfocjeligiaaGreatDoorM36
namespace Go.Proofs.YtapjfocjeligiaaGreatDoor
set_option linter.unusedVariables false
set_option linter.unusedSimpArgs false

/-- an array's type is right, but for its items' -/
def laOk (a : AR) : Bool := !(decide (a.min < 0) || !(decide (a.max = -1) || decide (a.min ≤ a.max)) || (a.item.never != decide (a.max = 0)))
/-- an alternative is right, but for the types in it -/
def loOk (o : OB) : Bool := decide (o.fields.length = o.names.length) && (decide (o.must.length = o.names.length) && ((rK o.names o.names.length && oK o.names o.names.length) && (o.fields.zip o.must).all fun p => !(p.2 && p.1.never)))
/-- a type is right, but for the types in it -/
def locT (T : TT) : Bool := !(T.all && !T.bare) && (spB T.nums && (((rK T.texts T.texts.length && oK T.texts T.texts.length) && !(T.any && decide (0 < T.texts.length))) && ((T.arrs.all laOk && decide (T.arrs.length ≤ 1)) && T.objs.all loOk)))
theorem la_eq (f : TT → Bool) (a : AR) : arOk f a = (laOk a && f a.item) := by
  unfold arOk laOk
  cases f a.item with
  | false => simp
  | true =>
    rw [Bool.eq_iff_iff]
    cases a.item.never <;> simp only [Bool.and_true, Bool.true_and, Bool.and_eq_true, Bool.not_eq_true', Bool.or_eq_false_iff, Bool.and_eq_false_iff, Bool.not_eq_false', Bool.or_eq_true, decide_eq_true_eq, decide_eq_false_iff_not, beq_iff_eq, bne_eq_false_iff_eq, Bool.false_eq, Bool.true_eq] <;> omega
theorem arB_eq (f : TT → Bool) (l : List AR) : arB f l = ((l.all laOk && decide (l.length ≤ 1)) && (l.map AR.item).all f) := by
  match l with
  | [] => rfl
  | [a] => show arOk f a = _; rw [la_eq]; simp
  | a :: b :: r => simp [arB]
theorem zip_all (f : TT → Bool) : ∀ (fs : List TT) (ms : List Bool), fs.length = ms.length → ((fs.zip ms).all fun p => fdOk f p.1 p.2) = (fs.all f && (fs.zip ms).all fun p => !(p.2 && p.1.never))
  | [], [], _ => rfl
  | t :: fs, m :: ms, h => by
    have ih := zip_all f fs ms (by simpa using h)
    simp only [List.zip_cons_cons, List.all_cons, ih]
    unfold fdOk
    cases f t <;> cases (fs.all f) <;> simp
  | [], _ :: _, h => by simp at h
  | _ :: _, [], h => by simp at h
theorem obOk_eq (f : TT → Bool) (o : OB) : obOk f o = (loOk o && (o.fields ++ [o.rest]).all f) := by
  unfold obOk loOk
  by_cases h1 : o.fields.length = o.names.length
  · by_cases h2 : o.must.length = o.names.length
    · rw [zip_all f o.fields o.must (h1.trans h2.symm), decide_eq_true h1, decide_eq_true h2, decide_eq_true h1.symm, decide_eq_true h2.symm]
      simp only [Bool.true_and, List.all_append, List.all_cons, List.all_nil, Bool.and_true]
      cases (rK o.names o.names.length && oK o.names o.names.length) <;> cases f o.rest <;> cases (o.fields.all f) <;> simp
    · rw [decide_eq_false h2, decide_eq_false (p := o.names.length = o.must.length) (fun h => h2 h.symm)]; simp
  · rw [decide_eq_false h1, decide_eq_false (p := o.names.length = o.fields.length) (fun h => h1 h.symm)]; simp
theorem objs_eq (f : TT → Bool) : ∀ (l : List OB), l.all (obOk f) = (l.all loOk && (l.flatMap fun o => o.fields ++ [o.rest]).all f)
  | [] => rfl
  | o :: r => by
    rw [List.all_cons, objs_eq f r, obOk_eq, List.all_cons, List.flatMap_cons, List.all_append]
    cases loOk o <;> cases (r.all loOk) <;> simp [Bool.and_assoc]
/-- a type is well shaped just if it is right and all the types in it are well shaped -/
theorem fm_split (h : Nat) (T : TT) : fmN (h + 1) T = (locT T && (insT T).all (fmN h)) := by
  show (!(T.all && !T.bare) && ((rK T.texts T.texts.length && oK T.texts T.texts.length) && (!(T.any && decide (0 < T.texts.length)) && (spB T.nums && (arB (fmN h) T.arrs && T.objs.all (obOk (fmN h))))))) = _
  rw [arB_eq, objs_eq]
  unfold locT insT
  rw [List.all_append]
  cases (!(T.all && !T.bare)) <;> cases (rK T.texts T.texts.length && oK T.texts T.texts.length) <;> cases (!(T.any && decide (0 < T.texts.length))) <;> cases (spB T.nums) <;> cases (T.arrs.all laOk && decide (T.arrs.length ≤ 1)) <;> cases (T.objs.all loOk) <;> cases ((T.arrs.map AR.item).all (fmN h)) <;> simp
end Go.Proofs.YtapjfocjeligiaaGreatDoor
