import Derived.Test.YtdjoelhiahpmlaaGreatM35
import Derived.Test.YtdjoelhiahpmlaaGreatM38
import Derived.Test.YtdjoelhiahpmlaaGreatM18
import Derived.Test.YtdjoelhiahpmlaaGreatM39
namespace Go.Proofs.YtdjoelhiahpmlaaGreat
open Go.RowKit Go.Shelf Go.Sort
set_option linter.unusedVariables false
set_option linter.unusedSimpArgs false
attribute [local go_sem] Oper.semAt_some

set_option maxRecDepth 100000 in
theorem kd_widB : ∀ a0 a1 a2 a3 a4 a5 a6 : Bool, kdN (widB a0 a1 a2 a3 a4 a5 a6) = kvL [a0, a1, a2, a3, a4, a5, a6] := by decide +kernel
theorem kd_wid (n : Int) : kdN (widT n) = kvL (kbs n) := kd_widB _ _ _ _ _ _ _
theorem good_ev (h : Nat) : goodT (h + 1) ttEv := ⟨fun p hp => absurd hp (List.not_mem_nil), fun a ha => absurd ha (List.not_mem_nil), fun o ho => absurd ho (List.not_mem_nil)⟩
theorem good_wid (n : Int) : goodT 2 (widT n) := by
  unfold widT widB
  split
  · exact good_ev 1
  · refine ⟨fun p hp => ?_, fun a ha => ?_, fun o ho => ?_⟩
    · have hp' : p ∈ (if kb n 3 then [((⟨#[]⟩ : ByteArray), (⟨#[]⟩ : ByteArray))] else []) := hp
      split at hp'
      · obtain rfl := List.mem_singleton.1 hp'
        exact ⟨.inl rfl, .inl rfl⟩
      · exact absurd hp' (List.not_mem_nil)
    · have ha' : a ∈ (if kb n 5 then [AR.mk ttEv 0 (-1)] else []) := ha
      split at ha'
      · obtain rfl := List.mem_singleton.1 ha'
        exact ⟨⟨by decide, by decide⟩, good_ev 0⟩
      · exact absurd ha' (List.not_mem_nil)
    · have ho' : o ∈ (if kb n 6 then [OB.mk [] [] [] ttEv] else []) := ho
      split at ho'
      · obtain rfl := List.mem_singleton.1 ho'
        exact ⟨⟨rfl, rfl⟩, fun f hf => absurd hf (List.not_mem_nil), good_ev 0⟩
      · exact absurd ho' (List.not_mem_nil)
theorem in_ev (h : Nat) (V : VT) : inN (h + 1) V ttEv = true := by unfold inN; rfl
theorem all7_true {a0 a1 a2 a3 a4 a5 a6 : Bool} (h : all7 a0 a1 a2 a3 a4 a5 a6 = true) : a0 = true ∧ a1 = true ∧ a2 = true ∧ a3 = true ∧ a4 = true ∧ a5 = true ∧ a6 = true := by
  unfold all7 at h
  simpa only [Bool.and_eq_true] using h
theorem emp0 : ((⟨#[]⟩ : ByteArray).toList.isEmpty) = true := by rw [emp_size]; rfl
/-- a value is of the widest type of some kinds just if its kind is among them -/
theorem in_wid (n : Int) (V : VT) : (V.kind = 0 → inN 2 V (widT n) = kb n 0) ∧ (V.kind = 1 → inN 2 V (widT n) = kb n 1) ∧ (V.kind = 2 → inN 2 V (widT n) = kb n 2) ∧ (V.kind = 3 → inN 2 V (widT n) = kb n 3) ∧ (V.kind = 4 → inN 2 V (widT n) = kb n 4) ∧ (V.kind = 5 → inN 2 V (widT n) = kb n 5) ∧ (V.kind = 6 → inN 2 V (widT n) = kb n 6) := by
  unfold widT widB
  split
  · next h =>
    obtain ⟨h0, h1, h2, h3, h4, h5, h6⟩ := all7_true h
    rw [in_ev, h0, h1, h2, h3, h4, h5, h6]
    simp
  · have e : ∀ a0 a1 a2 a3 a4 a5 a6 : Bool, inN 2 V (widL a0 a1 a2 a3 a4 a5 a6) = (if V.kind = 0 then a0 else if V.kind = 1 then a1 else if V.kind = 2 then a2 else if V.kind = 3 then inNum V.num (if a3 then [(⟨#[]⟩, ⟨#[]⟩)] else []) else if V.kind = 4 then (a4 || hasK [] V.text) else if V.kind = 5 then inArs (inN 1) V.items (if a5 then [.mk ttEv 0 (-1)] else []) else (if a6 then [OB.mk [] [] [] ttEv] else []).any (inOb (inN 1) V)) := fun _ _ _ _ _ _ _ => rfl
    rw [e]
    refine ⟨fun hk => ?_, fun hk => ?_, fun hk => ?_, fun hk => ?_, fun hk => ?_, fun hk => ?_, fun hk => ?_⟩ <;> rw [hk]
    · rfl
    · rfl
    · rfl
    · show inNum V.num (if kb n 3 then [(⟨#[]⟩, ⟨#[]⟩)] else []) = kb n 3
      cases kb n 3 with
      | false => rfl
      | true => show hasP V.num (⟨#[]⟩, ⟨#[]⟩) = true; unfold hasP; rw [emp0]; rfl
    · show (kb n 4 || hasK [] V.text) = kb n 4
      cases kb n 4 <;> rfl
    · show inArs (inN 1) V.items (if kb n 5 then [.mk ttEv 0 (-1)] else []) = kb n 5
      cases kb n 5 with
      | false => rfl
      | true =>
        show inAr (inN 1) V.items (.mk ttEv 0 (-1)) = true
        unfold inAr
        have h1 : ¬ ((V.items.length : Int) < (AR.mk ttEv 0 (-1)).min) := by show ¬ (_ < (0 : Int)); omega
        have h2 : ¬ (0 ≤ (AR.mk ttEv 0 (-1)).max) := by show ¬ ((0 : Int) ≤ -1); omega
        rw [decide_eq_false h1, decide_eq_false h2]
        simp only [Bool.false_and, Bool.or_self, Bool.not_false, Bool.true_and]
        rw [List.all_eq_true]
        intro x _
        exact in_ev 0 x
    · show (if kb n 6 then [OB.mk [] [] [] ttEv] else []).any (inOb (inN 1) V) = kb n 6
      cases kb n 6 with
      | false => rfl
      | true =>
        show ([OB.mk [] [] [] ttEv].any (inOb (inN 1) V)) = true
        rw [List.any_cons, List.any_nil, Bool.or_false]
        unfold inOb
        show (true && _) = true
        rw [Bool.true_and, List.all_eq_true]
        intro p _
        show (hasK [] p.1 || inN 1 p.2 ttEv) = true
        rw [in_ev]
        rfl
end Go.Proofs.YtdjoelhiahpmlaaGreat
