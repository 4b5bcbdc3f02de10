import Derived.Test.YtapjfocjeligiaaGreatDoorProg
import Derived.Lib.QuietBelow
import Derived.BigQuiet
namespace Go.Proofs.YtapjfocjeligiaaGreatDoor
open Go Go.RowKit Go.Sort
set_option linter.unusedVariables false
set_option linter.unusedSimpArgs false

section
variable {P : Program} {ops : Array Oper} {md : Region.Mode} {C : World → Prop}

/-- whatever order is picked, for so many steps; then R -/
def wpAnyT (P : Program) (md : Region.Mode) (ops : Array Oper) (C : World → Prop) (R : Array Bool → Act → Prop) : Nat → Array Bool → Act → Prop
  | 0, listed, a => R listed a
  | k + 1, listed, a => Region.ready md ops listed ≠ [] ∧ ∀ i ∈ Region.ready md ops listed, qOp P ops C i (wpAnyT P md ops C R k (listed.setIfInBounds i true)) a
theorem wpAny_of_T {R : Array Bool → Act → Prop} {Q' : Exit → Act → World → Prop} {m : Nat} (hR : ∀ listed a w, C w → R listed a → wpAny P md ops Q' m listed a w) : ∀ (k : Nat) (listed : Array Bool) (a : Act) (w : World), C w →
    wpAnyT P md ops C R k listed a → wpAny P md ops Q' (k + m) listed a w
  | 0, listed, a, w, hw, h => by rw [Nat.zero_add]; exact hR listed a w hw h
  | k + 1, listed, a, w, hw, h => by
    rw [show k + 1 + m = (k + m) + 1 by omega]
    exact ⟨fun h0 => absurd h0 h.1, fun i hi => wpOp_of_qOp hw (fun a' w' hw' => wpAny_of_T hR k _ a' w' hw') (h.2 i hi)⟩
theorem set_back {listed : Array Bool} {i : Nat} (h : listed.getD i true = false) : (listed.setIfInBounds i true).setIfInBounds i false = listed := by
  apply Array.ext
  · simp
  · intro j h1 h2
    by_cases hji : i = j
    · subst hji
      have : listed[i] = false := by simpa [h2] using h
      simp [this]
    · rw [Array.getElem_setIfInBounds_ne (by simpa using h2) hji, Array.getElem_setIfInBounds_ne h2 hji]
theorem rep_getD (n j : Nat) : (Array.replicate n false).getD j false = false := by
  by_cases h : j < n
  · simp [h]
  · simp [Array.getElem?_eq_none (show (Array.replicate n false).size ≤ j by simp; omega)]
/-- what is done has all done that it waits for -/
def closedP (md : Region.Mode) (ops : Array Oper) (listed : Array Bool) : Prop := ∀ j o, ops[j]? = some o → listed.getD j false = true → ∀ e ∈ o.after, Region.binds md e = true → listed.getD e.on false = true
def closedB (md : Region.Mode) (ops : Array Oper) (listed : Array Bool) : Bool := (List.range ops.size).all fun j => !listed.getD j false || match ops[j]? with
  | some o => o.after.all fun e => !Region.binds md e || listed.getD e.on false
  | none => true
theorem closed_of {listed : Array Bool} (h : closedP md ops listed) : closedB md ops listed = true := by
  unfold closedB
  rw [List.all_eq_true]
  intro j hj
  cases hl : listed.getD j false with
  | false => rfl
  | true =>
    cases ho : ops[j]? with
    | none => rfl
    | some o =>
      show (o.after.all fun e => !Region.binds md e || listed.getD e.on false) = true
      rw [Array.all_eq_true_iff_forall_mem]
      intro e he
      cases hb : Region.binds md e with
      | false => rfl
      | true => rw [h j o ho hl e he hb]; rfl
theorem closed_set {listed : Array Bool} {i : Nat} (h : closedP md ops listed) (hi : i ∈ Region.ready md ops listed) : closedP md ops (listed.setIfInBounds i true) := by
  intro j o ho hj e he hb
  obtain ⟨_, oi, hoi, hall⟩ := mem_ready.1 hi
  by_cases hji : i = j
  · subst hji
    rw [hoi] at ho
    obtain rfl := Option.some.inj ho
    exact getD_set_true (hall e he hb)
  · rw [getD_set_ne false hji] at hj
    exact getD_set_true (h j o ho hj e he hb)
theorem wpAnyT_first {R : Array Bool → Act → Prop} {i : Nat} {oi : Oper} {v : Value} (F : Array Bool) (hF : ∀ listed a, R listed a → listed = F) (hone : ∀ i, F.getD i false = true → closedB md ops (F.setIfInBounds i false) = true → Region.ready md ops (F.setIfInBounds i false) = [i])
    (hi : ops[i]? = some oi) (hsel : ∀ (j : Nat) (o : Oper) cs b, ops[j]? = some o → o.op ≠ .select cs b) :
    ∀ (fuel : Nat) (listed : Array Bool) (a : Act), closedP md ops listed →
      (∀ j oj, ops[j]? = some oj → j ≠ i → listed.getD j true = false → (∀ e ∈ oj.after, Region.binds md e = true → e.on ≠ i) → oi.apart ops oj = true) →
      i ∈ Region.ready md ops listed → YieldsIn P ops C oi v a →
      wpAnyT P md ops C R fuel (listed.setIfInBounds i true) (a.put oi.dst v) → wpAnyT P md ops C R (fuel + 1) listed a := by
  intro fuel
  induction fuel with
  | zero =>
    intro listed a hcl _ hr hy H
    refine ⟨fun h => (by rw [h] at hr; cases hr), fun j hj => ?_⟩
    have hun := (mem_ready.1 hr).1
    have hlt : i < listed.size := by
      rcases Nat.lt_or_ge i listed.size with h' | h'
      · exact h'
      · simp [Array.getElem?_eq_none h'] at hun
    have h1 := hF _ _ H
    have h2 := hone i (by rw [← h1]; simp [hlt]) (by rw [← h1, set_back hun]; exact closed_of hcl)
    rw [← h1, set_back hun] at h2
    rw [h2] at hj
    obtain rfl := List.mem_singleton.1 hj
    exact hy.qOp hi H
  | succ fuel ih =>
    intro listed a hcl hfree hr hy H
    refine ⟨fun h => (by rw [h] at hr; cases hr), fun j hj => ?_⟩
    by_cases hji : j = i
    · subst hji; exact hy.qOp hi H
    · have h1 := H.2 j (ready_mono hj hji)
      obtain ⟨hjun, oj, hoj, hall⟩ := mem_ready.1 hj
      have hnot : ∀ e ∈ oj.after, Region.binds md e = true → e.on ≠ i := fun e he hb heq => by
        have h1 := hall e he hb
        have h0 := (mem_ready.1 hr).1
        rw [heq] at h1
        rcases Nat.lt_or_ge i listed.size with h' | h'
        · simp [h'] at h0 h1; rw [h0] at h1; cases h1
        · simp [Array.getElem?_eq_none h'] at h1
      have h2 := qOp_put hoj (hfree j oj hoj hji hjun hnot) (fun cs b => hsel i oi cs b hi) (fun cs b => hsel j oj cs b hoj) hy h1
      have hfree' : ∀ k ok, ops[k]? = some ok → k ≠ i → (listed.setIfInBounds j true).getD k true = false →
          (∀ e ∈ ok.after, Region.binds md e = true → e.on ≠ i) → oi.apart ops ok = true := fun k ok hk hki hun hno => by
        refine hfree k ok hk hki ?_ hno
        by_cases hjk : j = k
        · subst hjk; exact hjun
        · rw [getD_set_ne true hjk] at hun; exact hun
      refine qOp_mono (fun a' h3 => ih (listed.setIfInBounds j true) a' (closed_set hcl hj) hfree' (ready_mono hr (Ne.symm hji)) h3.1 ?_) h2
      rw [Array.setIfInBounds_comm _ _ hji]
      exact h3.2

/-- the first part can be taken in the text's order -/
def lexPre (md : Region.Mode) (ops : Array Oper) (F : Array Bool) : Nat → Nat → Array Bool → Bool
  | 0, _, listed => listed == F
  | n + 1, k, listed => (Region.ready md ops listed).contains k && Region.free md ops listed k && lexPre md ops F n (k + 1) (listed.setIfInBounds k true)
theorem wpAnyT_lex {R : Array Bool → Act → Prop} {Q : Act → Prop} (F : Array Bool) (hR : ∀ a, Q a → R F a) (hF : ∀ listed a, R listed a → listed = F) (hone : ∀ i, F.getD i false = true → closedB md ops (F.setIfInBounds i false) = true → Region.ready md ops (F.setIfInBounds i false) = [i]) (hs : Region.noSelect ops = true) :
    ∀ (l : List Oper) (k : Nat) (listed : Array Bool) (a : Act), closedP md ops listed → (∀ j, j < l.length → l[j]? = ops[k + j]?) → lexPre md ops F l.length k listed = true → wpQuiet P ops C Q l a → wpAnyT P md ops C R l.length listed a
  | [], _, listed, a, _, _, hB, h => by
    have : listed = F := by simpa [lexPre] using hB
    rw [this]; exact hR a h
  | o :: l, k, listed, a, hcl, hl, hB, h => by
    have h0 : ops[k]? = some o := by simpa using (hl 0 (by simp)).symm
    simp only [List.length_cons, lexPre, Bool.and_eq_true] at hB
    obtain ⟨⟨hr, hf⟩, hB'⟩ := hB
    have hst : qOp P ops C k (wpQuiet P ops C Q l) a := by unfold qOp; simp only [h0]; exact h
    obtain ⟨v, hy, hK⟩ := yieldsIn_of_qOp h0 hst
    exact wpAnyT_first F hF hone h0 (Region.noSelect_spec hs) l.length listed a hcl (Region.free_spec h0 hf) (by simpa using hr) hy
      (wpAnyT_lex F hR hF hone hs l (k + 1) _ _ (closed_set hcl (by simpa using hr)) (fun j hj => by have := hl (j + 1) (by simpa using hj); simpa [Nat.add_assoc, Nat.add_comm 1 j] using this) hB' hK)

/-- the rest runs in the text's order -/
def seqB (md : Region.Mode) (ops : Array Oper) : Nat → Nat → Array Bool → Bool
  | 0, _, listed => (Region.ready md ops listed).isEmpty
  | n + 1, k, listed => (Region.ready md ops listed == [k]) && seqB md ops n (k + 1) (listed.setIfInBounds k true)
theorem wpAny_seq {Q' : Exit → Act → World → Prop} : ∀ (l : List Oper) (k : Nat) (listed : Array Bool) (a : Act) (w : World), (∀ j, j < l.length → l[j]? = ops[k + j]?) → seqB md ops l.length k listed = true → wpList P ops Q' l a w → wpAny P md ops Q' l.length listed a w
  | [], _, listed, a, w, _, hB, h => ⟨by simpa [seqB] using hB, h⟩
  | o :: l, k, listed, a, w, hl, hB, h => by
    have h0 : ops[k]? = some o := by simpa using (hl 0 (by simp)).symm
    simp only [List.length_cons, seqB, Bool.and_eq_true, beq_iff_eq] at hB
    refine ⟨fun h1 => absurd (hB.1.symm.trans h1) (by simp), fun i hi => ?_⟩
    rw [hB.1] at hi
    obtain rfl := List.mem_singleton.1 hi
    have ih := fun a' w' (h' : wpList P ops Q' l a' w') => wpAny_seq (Q' := Q') l (i + 1) (listed.setIfInBounds i true) a' w' (fun j hj => by have := hl (j + 1) (by simpa using hj); simpa [Nat.add_assoc, Nat.add_comm 1 j] using this) hB.2 h'
    unfold wpOp
    simp only [h0]
    unfold wpList at h
    by_cases hw : Region.wanted o (yielded ops a.tmps) = true
    · rw [if_pos hw] at h ⊢
      rcases h with h | h
      · exact .inl (Oper.wp_mono ih h)
      · exact .inr h
    · rw [if_neg hw] at h ⊢
      exact ih _ _ h

/-- **A REGION THAT DRAWS: its first part quiet, the rest in the text's order** -/
theorem wp_region_quiet_then {id : Nat} {Q : Exit → Act → World → Prop} {a : Act} {w : World} {l1 l2 : List Oper} (F : Array Bool) (hm : P.follows .mixedOrders = true) (hs : Region.noSelect (l1 ++ l2).toArray = true)
    (h1 : lexPre .any (l1 ++ l2).toArray F l1.length 0 (Array.replicate (l1 ++ l2).toArray.size false) = true) (h2 : seqB .any (l1 ++ l2).toArray l2.length l1.length F = true)
    (h3 : ((List.range F.size).all fun i => !F.getD i false || !closedB .any (l1 ++ l2).toArray (F.setIfInBounds i false) || Region.ready .any (l1 ++ l2).toArray (F.setIfInBounds i false) == [i]) = true)
    (h : wpQuiet P (l1 ++ l2).toArray (fun w' => ∃ p : Regrown, w' = grow (redrawn w p.d) p.os) (fun a' => ∀ w', (∃ p : Regrown, w' = grow (redrawn w p.d) p.os) → wpList P (l1 ++ l2).toArray Q l2 a' w') l1 a) : (Code.region id (l1 ++ l2).toArray true).wp P Q a w := by
  refine wp_region_any hm ?_
  have hsz : (l1 ++ l2).toArray.size = l1.length + l2.length := by simp
  rw [hsz]
  have hone : ∀ i, F.getD i false = true → closedB .any (l1 ++ l2).toArray (F.setIfInBounds i false) = true → Region.ready .any (l1 ++ l2).toArray (F.setIfInBounds i false) = [i] := fun i hi hcl => by
    have hlt : i < F.size := by
      rcases Nat.lt_or_ge i F.size with h' | h'
      · exact h'
      · simp [Array.getElem?_eq_none h'] at hi
    have := List.all_eq_true.1 h3 i (List.mem_range.2 hlt)
    rw [hi, hcl] at this
    simpa using this
  refine wpAny_of_T (C := fun w' => ∃ p : Regrown, w' = grow (redrawn w p.d) p.os) (R := fun listed a' => listed = F ∧ ∀ w', (∃ p : Regrown, w' = grow (redrawn w p.d) p.os) → wpList P (l1 ++ l2).toArray Q l2 a' w') (fun listed a' w' hw' hr => ?_) l1.length _ a _ ⟨⟨w.drawn + 1, #[]⟩, by rw [grow_empty]; rfl⟩ ?_
  · rw [hr.1]
    exact wpAny_seq l2 l1.length F a' w' (fun j hj => by simp [List.getElem?_append_right]) h2 (hr.2 w' hw')
  · exact wpAnyT_lex F (fun a' hq => ⟨rfl, hq⟩) (fun listed a' hr => hr.1) hone hs l1 0 _ a (fun j o _ hj => absurd hj (by rw [rep_getD]; simp)) (fun j hj => by simp [List.getElem?_append_left hj]) (by rw [hsz] at h1; exact h1) h
/-- the same, the first k operations quiet -/
def fstB (n k : Nat) : Array Bool := (List.replicate k true ++ List.replicate (n - k) false).toArray
theorem wp_region_quiet_at {id : Nat} {Q : Exit → Act → World → Prop} {a : Act} {w : World} {l : List Oper} (k : Nat) (hm : P.follows .mixedOrders = true) (hs : Region.noSelect l.toArray = true)
    (h1 : lexPre .any l.toArray (fstB l.length k) (l.take k).length 0 (Array.replicate l.toArray.size false) = true) (h2 : seqB .any l.toArray (l.drop k).length (l.take k).length (fstB l.length k) = true)
    (h3 : ((List.range (fstB l.length k).size).all fun i => !(fstB l.length k).getD i false || !closedB .any l.toArray ((fstB l.length k).setIfInBounds i false) || Region.ready .any l.toArray ((fstB l.length k).setIfInBounds i false) == [i]) = true)
    (h : wpQuiet P l.toArray (fun w' => ∃ p : Regrown, w' = grow (redrawn w p.d) p.os) (fun a' => ∀ w', (∃ p : Regrown, w' = grow (redrawn w p.d) p.os) → wpList P l.toArray Q (l.drop k) a' w') (l.take k) a) : (Code.region id l.toArray true).wp P Q a w := by
  have := wp_region_quiet_then (P := P) (id := id) (Q := Q) (a := a) (w := w) (l1 := l.take k) (l2 := l.drop k) (fstB l.length k) hm
  rw [List.take_append_drop] at this
  exact this hs h1 h2 h3 h
/-- what follows, behind a variable -/
theorem wpQuiet_gen {Q : Act → Prop} {l : List Oper} {a : Act} (h : ∀ QQ : Act → Prop, (∀ a, Q a → QQ a) → wpQuiet P ops C QQ l a) : wpQuiet P ops C Q l a := h Q (fun _ h => h)
end
end Go.Proofs.YtapjfocjeligiaaGreatDoor
