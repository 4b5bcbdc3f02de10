import Derived.Test.YtbaknnpjbokilaaM40
import Derived.Test.YtbaknnpjbokilaaM41
import Derived.Test.YtbaknnpjbokilaaM15
import Derived.Test.YtbaknnpjbokilaaM31
import Derived.Maps.Views
namespace Go.Proofs.Ytbaknnpjbokilaa
open Go.RowKit Go.Maps Go.Sort Go.Shelf
set_option linter.unusedVariables false
set_option linter.unusedSimpArgs false

/-! Merge's tree, as fields. -/
def flds (T : VT) : List (ByteArray × VT) := T.keys.zip T.items
def ofF (l : List (ByteArray × VT)) : VT := .mk 6 .empty .empty (l.map (·.2)) (l.map (·.1))
/-- an object, its keys rising -/
structure Obj6 (T : VT) : Prop where
  kind : T.kind = 6
  num : T.num = .empty
  text : T.text = .empty
  len : T.keys.length = T.items.length
  rise : T.keys.Pairwise kL
theorem flds_keys {T : VT} (h : T.keys.length = T.items.length) : (flds T).map (·.1) = T.keys := by
  unfold flds
  rw [List.map_fst_zip (by omega)]
theorem flds_items {T : VT} (h : T.keys.length = T.items.length) : (flds T).map (·.2) = T.items := by
  unfold flds
  rw [List.map_snd_zip (by omega)]
theorem Obj6.eta {T : VT} (h : Obj6 T) : ofF (flds T) = T := by
  unfold ofF
  rw [flds_keys h.len, flds_items h.len]
  cases T with
  | mk k n t i ks =>
    have h1 : k = 6 := h.kind
    have h2 : n = .empty := h.num
    have h3 : t = .empty := h.text
    rw [h1, h2, h3]
    rfl
theorem ofF_flds (l : List (ByteArray × VT)) : flds (ofF l) = l := by
  show (l.map (·.1)).zip (l.map (·.2)) = l
  induction l with
  | nil => rfl
  | cons x r ih => simp only [List.map_cons, List.zip_cons_cons, ih]
theorem rise_ext : ∀ {l m : List (ByteArray × VT)}, (l.map (·.1)).Pairwise kL → (m.map (·.1)).Pairwise kL → (∀ x, x ∈ l ↔ x ∈ m) → l = m
  | [], [], _, _, _ => rfl
  | [], y :: m, _, _, h => by have := (h y).2 (List.mem_cons_self); cases this
  | x :: l, [], _, _, h => by have := (h x).1 (List.mem_cons_self); cases this
  | x :: l, y :: m, hl, hm, h => by
    rw [List.map_cons, List.pairwise_cons] at hl hm
    have gx : ∀ z ∈ l, kL x.1 z.1 := fun z hz => hl.1 _ (List.mem_map_of_mem hz)
    have gy : ∀ z ∈ m, kL y.1 z.1 := fun z hz => hm.1 _ (List.mem_map_of_mem hz)
    have e : x = y := by
      rcases List.mem_cons.1 ((h x).1 List.mem_cons_self) with h1 | h1
      · exact h1
      · rcases List.mem_cons.1 ((h y).2 List.mem_cons_self) with h2 | h2
        · exact h2.symm
        · exact absurd ((gx y h2).trans (gy x h1)) kL.irr
    subst e
    rw [rise_ext hl.2 hm.2 (fun z => ?_)]
    constructor
    · intro hz
      rcases List.mem_cons.1 ((h z).1 (List.mem_cons_of_mem _ hz)) with h1 | h1
      · subst h1; exact absurd (gx z hz) kL.irr
      · exact h1
    · intro hz
      rcases List.mem_cons.1 ((h z).2 (List.mem_cons_of_mem _ hz)) with h1 | h1
      · subst h1; exact absurd (gy z hz) kL.irr
      · exact h1
theorem obj_ext {A B : VT} (ha : Obj6 A) (hb : Obj6 B) (h : ∀ x, x ∈ flds A ↔ x ∈ flds B) : A = B := by
  rw [← ha.eta, ← hb.eta, rise_ext (by rw [flds_keys ha.len]; exact ha.rise) (by rw [flds_keys hb.len]; exact hb.rise) h]

def mg (A B : VT) : VT := mgT A.keys B.keys A.items B.items
theorem range_getD {α : Type} {β : Type} (U : List α) (d : α) (f : α → β) : ((List.range U.length).map fun k => f (U.getD k d)) = U.map f := by
  apply List.ext_getElem
  · simp
  · intro i h1 h2
    have h3 : i < U.length := by simpa using h2
    simp [List.getD, h3]
def mgL (A B : VT) : List (ByteArray × VT) := (uniK A.keys B.keys).map fun x => (kyU (fun i => A.keys.getD i .empty) (fun j => B.keys.getD j .empty) x, tU A.items B.items x)
theorem mg_of (A B : VT) : mg A B = ofF (mgL A B) := by
  unfold mg mgT ofF mgL
  rw [range_getD (uniK A.keys B.keys) (.inl 0) (fun x => tU A.items B.items x), range_getD (uniK A.keys B.keys) (.inl 0) (fun x => kyU (fun i => A.keys.getD i .empty) (fun j => B.keys.getD j .empty) x), List.map_map, List.map_map]
  rfl
theorem rif_of {ks : List ByteArray} (h : ks.Pairwise kL) : RiF (fun i => ks.getD i .empty) ks.length := by
  intro p q hpq hq
  have hp : p < ks.length := by omega
  show kL (ks.getD p .empty) (ks.getD q .empty)
  rw [getD_key hp, getD_key hq]
  exact List.pairwise_iff_getElem.1 h p q hp hq hpq
theorem mg_obj {A B : VT} (ha : Obj6 A) (hb : Obj6 B) : Obj6 (mg A B) := by
  rw [mg_of]
  refine ⟨rfl, rfl, rfl, by show (List.map _ _).length = (List.map _ _).length; simp, ?_⟩
  show ((mgL A B).map (·.1)).Pairwise kL
  unfold mgL
  rw [List.map_map, List.pairwise_map]
  exact uni_rise (rif_of ha.rise) (rif_of hb.rise) _ 0 0 (Nat.zero_le _) (Nat.zero_le _) (by omega)
theorem mem_flds {T : VT} (h : T.keys.length = T.items.length) {x : ByteArray × VT} : x ∈ flds T ↔ ∃ i, i < T.keys.length ∧ x = (T.keys.getD i .empty, T.items.getD i (.mk 0 .empty .empty [] [])) := by
  unfold flds
  rw [List.mem_iff_getElem]
  constructor
  · rintro ⟨i, hi, rfl⟩
    have h1 : i < T.keys.length := by simp at hi; omega
    have h2 : i < T.items.length := by omega
    exact ⟨i, h1, by simp [List.getD, h1, h2]⟩
  · rintro ⟨i, hi, rfl⟩
    have h2 : i < T.items.length := by omega
    exact ⟨i, by simp; omega, by simp [List.getD, hi, h2]⟩
/-- what stands in the object of two -/
theorem mg_mem {A B : VT} (ha : Obj6 A) (hb : Obj6 B) (x : ByteArray × VT) : x ∈ flds (mg A B) ↔ x ∈ flds B ∨ (x ∈ flds A ∧ x.1 ∉ B.keys) := by
  rw [mg_of, ofF_flds, mem_flds ha.len, mem_flds hb.len]
  unfold mgL
  rw [List.mem_map]
  have M := fun y => uni_mem (rif_of ha.rise) (rif_of hb.rise) (A.keys.length + B.keys.length) 0 0 (Nat.zero_le _) (Nat.zero_le _) (by omega) y
  constructor
  · rintro ⟨y, hy, rfl⟩
    have hm := (M y).1 hy
    cases y with
    | inl p =>
      refine .inr ⟨⟨p, hm.2.1, rfl⟩, fun hk => ?_⟩
      obtain ⟨q, hq, e⟩ := List.mem_iff_getElem.1 hk
      refine hm.2.2 q (Nat.zero_le _) hq ?_
      show B.keys.getD q .empty = A.keys.getD p .empty
      rw [getD_key hq, e]
      rfl
    | inr q => exact .inl ⟨q, hm.2, rfl⟩
  · rintro (⟨q, hq, rfl⟩ | ⟨⟨p, hp, rfl⟩, hn⟩)
    · exact ⟨.inr q, (M _).2 ⟨Nat.zero_le _, hq⟩, rfl⟩
    · refine ⟨.inl p, (M _).2 ⟨Nat.zero_le _, hp, fun q _ hq e => hn ?_⟩, rfl⟩
      have e' : B.keys.getD q .empty = A.keys.getD p .empty := e
      show A.keys.getD p .empty ∈ B.keys
      rw [← e', getD_key hq]
      exact List.getElem_mem hq
theorem mem_keys {T : VT} (h : T.keys.length = T.items.length) {k : ByteArray} : k ∈ T.keys ↔ ∃ t, (k, t) ∈ flds T := by
  rw [← flds_keys h, List.mem_map]
  constructor
  · rintro ⟨⟨k', t⟩, h1, rfl⟩
    exact ⟨t, h1⟩
  · rintro ⟨t, h1⟩
    exact ⟨_, h1, rfl⟩
theorem mg_keys {A B : VT} (ha : Obj6 A) (hb : Obj6 B) (k : ByteArray) : k ∈ (mg A B).keys ↔ k ∈ A.keys ∨ k ∈ B.keys := by
  rw [mem_keys (mg_obj ha hb).len]
  constructor
  · rintro ⟨t, h⟩
    rcases (mg_mem ha hb _).1 h with h1 | ⟨h1, _⟩
    · exact .inr ((mem_keys hb.len).2 ⟨t, h1⟩)
    · exact .inl ((mem_keys ha.len).2 ⟨t, h1⟩)
  · intro h
    by_cases hk : k ∈ B.keys
    · obtain ⟨t, ht⟩ := (mem_keys hb.len).1 hk
      exact ⟨t, (mg_mem ha hb _).2 (.inl ht)⟩
    · rcases h with h1 | h1
      · obtain ⟨t, ht⟩ := (mem_keys ha.len).1 h1
        exact ⟨t, (mg_mem ha hb _).2 (.inr ⟨ht, hk⟩)⟩
      · exact absurd h1 hk
/-- it does not matter which two come first -/
theorem mg_assoc {A B C : VT} (ha : Obj6 A) (hb : Obj6 B) (hc : Obj6 C) : mg A (mg B C) = mg (mg A B) C := by
  have h1 := mg_obj hb hc
  have h2 := mg_obj ha hb
  refine obj_ext (mg_obj ha h1) (mg_obj h2 hc) fun x => ?_
  rw [mg_mem ha h1, mg_mem h2 hc, mg_mem hb hc, mg_mem ha hb, mg_keys hb hc]
  constructor
  · rintro ((h | ⟨h, k⟩) | ⟨h, k⟩)
    · exact .inl h
    · exact .inr ⟨.inl h, k⟩
    · exact .inr ⟨.inr ⟨h, fun q => k (.inl q)⟩, fun q => k (.inr q)⟩
  · rintro (h | ⟨h | ⟨h, k⟩, k2⟩)
    · exact .inl (.inl h)
    · exact .inl (.inr ⟨h, k2⟩)
    · exact .inr ⟨h, fun q => q.elim k k2⟩
def noF : VT := .mk 6 .empty .empty [] []
theorem noF_obj : Obj6 noF := ⟨rfl, rfl, rfl, rfl, List.Pairwise.nil⟩
theorem mg_none {A : VT} (ha : Obj6 A) : mg A noF = A := obj_ext (mg_obj ha noF_obj) ha fun x => by
  rw [mg_mem ha noF_obj]
  constructor
  · rintro (h | ⟨h, _⟩)
    · cases h
    · exact h
  · exact fun h => .inr ⟨h, fun q => by cases q⟩
theorem none_mg {A : VT} (ha : Obj6 A) : mg noF A = A := obj_ext (mg_obj noF_obj ha) ha fun x => by
  rw [mg_mem noF_obj ha]
  constructor
  · rintro (h | ⟨h, _⟩)
    · exact h
    · cases h
  · exact fun h => .inl h
end Go.Proofs.Ytbaknnpjbokilaa
namespace Go.Proofs.Ytbaknnpjbokilaa
open Go.RowKit Go.Maps Go.Sort Go.Shelf
set_option linter.unusedVariables false
set_option linter.unusedSimpArgs false

theorem ri_chain {ks : List ByteArray} (h : ∀ i, 0 < i → i < ks.length → kL (ks.getD (i - 1) .empty) (ks.getD i .empty)) : ∀ d i, i + d + 1 < ks.length → kL (ks.getD i .empty) (ks.getD (i + d + 1) .empty)
  | 0, i, hi => h (i + 1) (by omega) (by omega)
  | d + 1, i, hi => (ri_chain h d i (by omega)).trans (h (i + (d + 1) + 1) (by omega) (by omega))
theorem rK_pair {ks : List ByteArray} (h : rK ks ks.length = true) : ks.Pairwise kL := by
  have h1 : ∀ i, 0 < i → i < ks.length → kL (ks.getD (i - 1) .empty) (ks.getD i .empty) := fun i h0 hi => by
    have h2 := List.all_eq_true.1 h i (List.mem_range.2 hi)
    have h3 : (i == 0) = false := by rw [beq_eq_false_iff_ne]; omega
    rw [h3, Bool.false_or] at h2
    unfold rA at h2
    rw [bytesLess_eq] at h2
    show (ks.getD (i - 1) .empty).toList < (ks.getD i .empty).toList
    exact of_decide_eq_true h2
  rw [List.pairwise_iff_getElem]
  intro i j hi hj hij
  have h2 := ri_chain h1 (j - i - 1) i (by omega)
  have e : i + (j - i - 1) + 1 = j := by omega
  rw [e, getD_key hi, getD_key hj] at h2
  exact h2
theorem pair_rK {ks : List ByteArray} (h : ks.Pairwise kL) : rK ks ks.length = true := by
  unfold rK
  rw [List.all_eq_true]
  intro i hi
  have hi' := List.mem_range.1 hi
  cases i with
  | zero => rfl
  | succ i =>
    have h1 : kL (ks.getD i .empty) (ks.getD (i + 1) .empty) := rif_of h i (i + 1) (by omega) hi'
    have h2 : rA ks (i + 1) = true := by
      unfold rA
      rw [bytesLess_eq]
      exact decide_eq_true (show (ks.getD (i + 1 - 1) .empty).toList < (ks.getD (i + 1) .empty).toList from h1)
    rw [h2, Bool.or_true]
theorem form_obj {h : Nat} {T : VT} (hf : formN (h + 1) T = true) (h6 : T.kind = 6) : Obj6 T ∧ oK T.keys T.keys.length = true ∧ ∀ x ∈ T.items, formN h x = true := by
  rcases form_open hf with (rfl | rfl | rfl) | ⟨n, rfl, _⟩ | ⟨n, rfl, _⟩ | ⟨i, rfl, hi⟩ | ⟨i, ks, rfl, hl, hr, ho, hi⟩
  all_goals first | exact ⟨⟨rfl, rfl, rfl, hl, rK_pair hr⟩, ho, hi⟩ | (simp [VT.kind] at h6)
theorem obj_form {h : Nat} {T : VT} (ho : Obj6 T) (hk : oK T.keys T.keys.length = true) (hi : ∀ x ∈ T.items, formN h x = true) : formN (h + 1) T = true := by
  have hr := pair_rK ho.rise
  unfold formN formV
  rw [ho.kind, ho.num, ho.text, hr, hk, decide_eq_true ho.len, List.all_eq_true.2 hi, if_neg (by decide), if_neg (by decide), if_neg (by decide), if_neg (by decide), if_pos rfl]
  have e : bareB .empty .empty 0 0 = true := by simp [bareB, Lib.toList_data]
  rw [e]
  rfl
theorem oK_all {ks : List ByteArray} : oK ks ks.length = true ↔ ∀ k ∈ ks, okB k.data.toList = true := by
  unfold oK
  rw [List.all_eq_true]
  constructor
  · intro h k hk
    obtain ⟨i, hi, rfl⟩ := List.mem_iff_getElem.1 hk
    have := h i (List.mem_range.2 hi)
    rw [getD_key hi] at this
    exact this
  · intro h i hi
    have hi' := List.mem_range.1 hi
    rw [getD_key hi']
    exact h _ (List.getElem_mem hi')
theorem mg_form {h : Nat} {A B : VT} (fa : formN (h + 1) A = true) (fb : formN (h + 1) B = true) (a6 : A.kind = 6) (b6 : B.kind = 6) : formN (h + 1) (mg A B) = true := by
  obtain ⟨oa, ka, ia⟩ := form_obj fa a6
  obtain ⟨ob, kb, ib⟩ := form_obj fb b6
  have om := mg_obj oa ob
  refine obj_form om (oK_all.2 fun k hk => ?_) fun x hx => ?_
  · rcases (mg_keys oa ob k).1 hk with h1 | h1
    · exact oK_all.1 ka k h1
    · exact oK_all.1 kb k h1
  · rw [← flds_items om.len] at hx
    obtain ⟨y, hy, rfl⟩ := List.mem_map.1 hx
    rcases (mg_mem oa ob y).1 hy with h1 | ⟨h1, _⟩
    · exact ib _ (by rw [← flds_items ob.len]; exact List.mem_map_of_mem h1)
    · exact ia _ (by rw [← flds_items oa.len]; exact List.mem_map_of_mem h1)
/-- its weight -/
theorem sum_drop {f : VT → Nat} {l : List VT} {i : Nat} (h : i < l.length) : sumL ((l.drop i).map f) = f (l.getD i (.mk 0 .empty .empty [] [])) + sumL ((l.drop (i + 1)).map f) := by
  rw [List.drop_eq_getElem_cons h, List.map_cons]
  show _ + _ = _
  simp [List.getD, h]
theorem uni_sum {f : VT → Nat} {ka kb : Nat → ByteArray} {tA tB : List VT} {K L : Nat} (hA : tA.length = K) (hB : tB.length = L) : ∀ (n i j : Nat), i ≤ K → j ≤ L → sumL ((uniF ka kb K L n i j).map fun x => f (tU tA tB x)) ≤ sumL ((tA.drop i).map f) + sumL ((tB.drop j).map f)
  | 0, i, j, _, _ => by rw [uniF]; exact Nat.zero_le _
  | n + 1, i, j, hi, hj => by
    rw [uniF]
    by_cases h : i < K ∨ j < L
    · rw [if_pos h]
      rcases near_cases (x := ka i) (y := kb j) h with ⟨e, h1⟩ | ⟨e, h1⟩ | ⟨e, h1, h2⟩
      · rw [if_pos e, List.map_cons]
        have := uni_sum (f := f) (ka := ka) (kb := kb) hA hB n (i + 1) j h1 hj
        rw [sum_drop (f := f) (l := tA) (i := i) (by omega)]
        show f (tA.getD i _) + _ ≤ _
        omega
      · rw [if_neg (by rw [e]; decide), if_pos e, List.map_cons]
        have := uni_sum (f := f) (ka := ka) (kb := kb) hA hB n i (j + 1) hi h1
        rw [sum_drop (f := f) (l := tB) (i := j) (by omega)]
        show f (tB.getD j _) + _ ≤ _
        omega
      · rw [if_neg (by rw [e]; decide), if_neg (by rw [e]; decide), List.map_cons]
        have := uni_sum (f := f) (ka := ka) (kb := kb) hA hB n (i + 1) (j + 1) h1 h2
        rw [sum_drop (f := f) (l := tB) (i := j) (by omega), sum_drop (f := f) (l := tA) (i := i) (by omega)]
        show f (tB.getD j _) + _ ≤ _
        omega
    · rw [if_neg h]
      exact Nat.zero_le _
theorem mg_sz {h : Nat} {A B : VT} (oa : A.keys.length = A.items.length) (ob : B.keys.length = B.items.length) : szN (h + 1) (mg A B) ≤ szN (h + 1) A + szN (h + 1) B := by
  rw [mg_of]
  have h1 := uni_sum (f := szN h) (ka := fun i => A.keys.getD i .empty) (kb := fun j => B.keys.getD j .empty) (tA := A.items) (tB := B.items) oa.symm ob.symm (A.keys.length + B.keys.length) 0 0 (Nat.zero_le _) (Nat.zero_le _)
  have h2 := uni_len (ka := fun i => A.keys.getD i .empty) (kb := fun j => B.keys.getD j .empty) (A.keys.length + B.keys.length) 0 0 (Nat.zero_le A.keys.length) (Nat.zero_le B.keys.length)
  rw [List.drop_zero, List.drop_zero] at h1
  show 1 + (List.map _ (mgL A B)).length + sumL ((List.map _ (mgL A B)).map (szN h)) ≤ (1 + A.keys.length + sumL (A.items.map (szN h))) + (1 + B.keys.length + sumL (B.items.map (szN h)))
  unfold mgL uniK
  rw [List.length_map, List.length_map, List.map_map, List.map_map]
  have e : ((szN h ∘ fun x : ByteArray × VT => x.2) ∘ fun x : Nat ⊕ Nat => (kyU (fun i => A.keys.getD i .empty) (fun j => B.keys.getD j .empty) x, tU A.items B.items x)) = fun x => szN h (tU A.items B.items x) := rfl
  rw [e]
  omega
end Go.Proofs.Ytbaknnpjbokilaa
namespace Go.Proofs.Ytbaknnpjbokilaa
open Go.RowKit Go.Maps Go.Sort Go.Shelf
set_option linter.unusedVariables false
set_option linter.unusedSimpArgs false

theorem ins_perm {H : Type} (x : Lit × DataW H) : ∀ l : List (Lit × DataW H), (DataW.insert x l).Perm (x :: l)
  | [] => List.Perm.refl _
  | y :: r => by
    unfold DataW.insert
    split
    · exact List.Perm.refl _
    · exact ((ins_perm x r).cons y).trans (List.Perm.swap x y r)
/-- the keys of the map of places -/
theorem LC_keys (keys : List ByteArray) : ∀ k, ∃ es, LC keys k = .map es ∧ (strKeys (LC keys k)).Nodup ∧ (∀ p ∈ es, ∃ x, p.1 = .string x) ∧ ∀ x, x ∈ strKeys (LC keys k) ↔ ∃ j, j < k ∧ (keys.getD j .empty).data.toList = x
  | 0 => ⟨[], rfl, List.nodup_nil, (fun p h => by cases h), fun x => ⟨(fun h => by cases h), fun ⟨j, h, _⟩ => by omega⟩⟩
  | k + 1 => by
    obtain ⟨es, h1, h2, h3, h4⟩ := LC_keys keys k
    have e : LC keys (k + 1) = .map (DataW.insert (.string (keys.getD k .empty).data.toList, .lit (.int .i64 (k : Int))) (es.filter fun p => !p.1.sameKey (.string (keys.getD k .empty).data.toList))) := by show (LC keys k).put _ _ = _; rw [h1]; rfl
    obtain ⟨x0, hx0⟩ : ∃ x0, (keys.getD k .empty).data.toList = x0 := ⟨_, rfl⟩
    rw [hx0] at e
    have hp := ins_perm ((.string x0, .lit (.int .i64 (k : Int))) : Lit × DataW Unit) (es.filter fun p => !p.1.sameKey (.string x0))
    have hs : (strKeys (LC keys (k + 1))).Perm (x0 :: (es.filter fun p => !p.1.sameKey (.string x0)).map fun p => strOf p.1) := by
      rw [e]
      exact hp.map fun p => strOf p.1
    rw [h1] at h2 h4
    have hm : ∀ x, x ∈ ((es.filter fun p => !p.1.sameKey (.string x0)).map fun p => strOf p.1) ↔ x ≠ x0 ∧ x ∈ strKeys (.map es : DataW Unit) := fun x => by
      rw [List.mem_map]
      constructor
      · rintro ⟨p, hp, rfl⟩
        obtain ⟨hp1, hp2⟩ := List.mem_filter.1 hp
        refine ⟨fun e2 => ?_, List.mem_map_of_mem hp1⟩
        obtain ⟨y, hy⟩ := h3 p hp1
        rw [hy] at hp2 e2
        have e3 : y = x0 := e2
        rw [e3] at hp2
        simp [Lit.sameKey] at hp2
      · rintro ⟨hn, hx⟩
        obtain ⟨p, hp, rfl⟩ := List.mem_map.1 hx
        refine ⟨p, List.mem_filter.2 ⟨hp, ?_⟩, rfl⟩
        obtain ⟨y, hy⟩ := h3 p hp
        rw [hy] at hn ⊢
        have hn' : y ≠ x0 := hn
        simp [Lit.sameKey, hn']
    refine ⟨_, e, hs.nodup_iff.2 (List.nodup_cons.2 ⟨fun h => ((hm x0).1 h).1 rfl, ?_⟩), ?_, fun x => ?_⟩
    · exact List.Nodup.sublist ((List.filter_sublist).map _) h2
    · intro p hp'
      rcases List.mem_cons.1 (hp.mem_iff.1 hp') with rfl | h
      · exact ⟨_, rfl⟩
      · exact h3 p (List.mem_filter.1 h).1
    · rw [hs.mem_iff, List.mem_cons, hm, h4]
      constructor
      · rintro (h | ⟨_, j, hj, hx⟩)
        · exact ⟨k, by omega, by rw [hx0, h]⟩
        · exact ⟨j, by omega, hx⟩
      · rintro ⟨j, hj, hx⟩
        by_cases e2 : x = x0
        · exact .inl e2
        · refine .inr ⟨e2, j, ?_, hx⟩
          rcases Nat.lt_or_ge j k with h5 | h5
          · exact h5
          · have : j = k := by omega
            rw [this, hx0] at hx
            exact absurd hx.symm e2
theorem LC_isMap (keys : List ByteArray) (k : Nat) : IsMap (LC keys k) := by
  obtain ⟨es, h, _⟩ := LC_keys keys k
  exact ⟨es, h⟩
/-- what stands there is the last -/
theorem LC_last (keys : List ByteArray) {x : List UInt8} (z : DataW Unit) : ∀ k, (∃ q, q < k ∧ (keys.getD q .empty).data.toList = x) → ∃ j, j < k ∧ (LC keys k).atKey (.string x) z = .lit (.int .i64 (j : Int)) ∧ (keys.getD j .empty).data.toList = x ∧ ∀ q, j < q → q < k → (keys.getD q .empty).data.toList ≠ x
  | 0, ⟨q, hq, _⟩ => by omega
  | k + 1, ⟨q, hq, hx⟩ => by
    by_cases e : (keys.getD k .empty).data.toList = x
    · refine ⟨k, by omega, ?_, e, fun q h1 h2 => by omega⟩
      show ((LC keys k).put (.string (keys.getD k .empty).data.toList) (.lit (.int .i64 (k : Int)))).atKey (.string x) z = _
      rw [e]
      exact atKey_put_same (LC_isMap keys k) (by simp [WideAt.IsKeyLit]) _ _
    · have hqk : q < k := by
        rcases Nat.lt_or_ge q k with h1 | h1
        · exact h1
        · have : q = k := by omega
          rw [this] at hx
          exact absurd hx e
      obtain ⟨j, hj, h1, h2, h3⟩ := LC_last keys z k ⟨q, hqk, hx⟩
      refine ⟨j, by omega, ?_, h2, fun q h4 h5 => ?_⟩
      · show ((LC keys k).put (.string (keys.getD k .empty).data.toList) (.lit (.int .i64 (k : Int)))).atKey (.string x) z = _
        rw [atKey_put_other (fun h => e (by injection h with h; exact h.symm))]
        exact h1
      · rcases Nat.lt_or_ge q k with h6 | h6
        · exact h3 q h4 h6
        · have : q = k := by omega
          rw [this]
          exact e
theorem SK_mem (keys : List ByteArray) (x : List UInt8) : x ∈ SK keys ↔ ∃ j, j < keys.length ∧ (keys.getD j .empty).data.toList = x := by
  unfold SK
  rw [List.mem_mergeSort]
  obtain ⟨_, _, _, _, h⟩ := LC_keys keys keys.length
  exact h x
theorem SK_rise (keys : List ByteArray) : (SK keys).Pairwise fun x y => x < y := by
  obtain ⟨_, _, hn, _, _⟩ := LC_keys keys keys.length
  have tr : ∀ a b c : List UInt8, leB a b = true → leB b c = true → leB a c = true := fun a b c h1 h2 => by simp only [leB, decide_eq_true_eq] at *; exact List.le_trans h1 h2
  have to : ∀ a b : List UInt8, (leB a b || leB b a) = true := fun a b => by simp only [leB, Bool.or_eq_true, decide_eq_true_eq]; exact List.le_total a b
  have h1 := List.pairwise_mergeSort tr to (strKeys (LC keys keys.length))
  have h2 : (SK keys).Nodup := ((List.mergeSort_perm _ leB).nodup_iff).2 hn
  unfold SK at h2 ⊢
  refine (h1.and h2).imp fun {a b} h => ?_
  have h3 : a ≤ b := by simpa [leB] using h.1
  rcases List.le_iff_lt_or_eq.1 h3 with h4 | h4
  · exact h4
  · exact absurd h4 h.2
/-- the place of the last item under a key -/
theorem ixK_last (keys : List ByteArray) (i : Nat) (hi : i < (SK keys).length) : ∀ q, ixK keys i < q → q < keys.length → (keys.getD q .empty).data.toList ≠ (SK keys).getD i [] := by
  obtain ⟨h1, h2, h3⟩ := ixK_at keys i hi
  obtain ⟨j, hj, a1, a2, a3⟩ := LC_last keys (x := (SK keys).getD i []) (.lit (.int .i64 0)) keys.length ⟨_, h1, h3⟩
  have e : ixK keys i = j := by
    rw [h2] at a1
    simp only [DataW.lit.injEq, Lit.int.injEq, true_and] at a1
    omega
  rw [e]
  exact a3
theorem ba_mk (x : ByteArray) : (⟨x.data.toList.toArray⟩ : ByteArray) = x := by cases x; simp
theorem mkT_obj (keys : List ByteArray) (ts : List VT) : Obj6 (mkT keys ts) := by
  refine ⟨rfl, rfl, rfl, by show (List.map _ _).length = (List.map _ _).length; simp, ?_⟩
  show (List.map (fun i => (⟨((SK keys).getD i []).toArray⟩ : ByteArray)) (List.range (SK keys).length)).Pairwise kL
  rw [range_getD (SK keys) [] (fun x => (⟨x.toArray⟩ : ByteArray)), List.pairwise_map]
  refine (SK_rise keys).imp fun {a b} h => ?_
  show (⟨a.toArray⟩ : ByteArray).toList < (⟨b.toArray⟩ : ByteArray).toList
  rw [Lib.toList_data, Lib.toList_data]
  simpa using h
/-- what stands in an object that is made -/
theorem mkT_mem (keys : List ByteArray) (ts : List VT) (x : ByteArray × VT) : x ∈ flds (mkT keys ts) ↔ ∃ j, j < keys.length ∧ x = (keys.getD j .empty, ts.getD j (.mk 0 .empty .empty [] [])) ∧ ∀ q, j < q → q < keys.length → keys.getD q .empty ≠ keys.getD j .empty := by
  have e : flds (mkT keys ts) = (List.range (SK keys).length).map fun i => ((⟨((SK keys).getD i []).toArray⟩ : ByteArray), ts.getD (ixK keys i) (.mk 0 .empty .empty [] [])) := by
    show (List.map _ _).zip (List.map _ _) = _
    rw [List.zip_map']
  rw [e, List.mem_map]
  constructor
  · rintro ⟨i, hi, rfl⟩
    have hi' := List.mem_range.1 hi
    obtain ⟨h1, _, h3⟩ := ixK_at keys i hi'
    have h4 := ixK_last keys i hi'
    refine ⟨ixK keys i, h1, ?_, fun q h5 h6 h7 => h4 q h5 h6 (by rw [h7]; exact h3)⟩
    rw [← h3, ba_mk]
  · rintro ⟨j, hj, rfl, hl⟩
    obtain ⟨i, hi, e1⟩ := List.mem_iff_getElem.1 ((SK_mem keys _).2 ⟨j, hj, rfl⟩)
    have e2 : (SK keys).getD i [] = (keys.getD j .empty).data.toList := by rw [← e1]; simp [List.getD, hi]
    obtain ⟨h1, _, h3⟩ := ixK_at keys i hi
    have h4 := ixK_last keys i hi
    have e3 : ixK keys i = j := by
      rcases Nat.lt_trichotomy (ixK keys i) j with h5 | h5 | h5
      · exact absurd e2.symm (h4 j h5 hj)
      · exact h5
      · have h6 : (keys.getD (ixK keys i) .empty).data.toList = (keys.getD j .empty).data.toList := h3.trans e2
        refine absurd (ba_ext ?_) (hl _ h5 h1)
        rw [Lib.toList_data, Lib.toList_data]
        exact h6
    refine ⟨i, List.mem_range.2 hi, ?_⟩
    rw [e2, ba_mk, e3]
/-- Merge is Make of all fields, one after the other -/
theorem mk_mg {A B : VT} (oa : Obj6 A) (ob : Obj6 B) : mkT (A.keys ++ B.keys) (A.items ++ B.items) = mg A B := by
  refine obj_ext (mkT_obj _ _) (mg_obj oa ob) fun x => ?_
  rw [mkT_mem, mg_mem oa ob, mem_flds oa.len, mem_flds ob.len]
  have gA : ∀ j, j < A.keys.length → (A.keys ++ B.keys).getD j .empty = A.keys.getD j .empty := fun j hj => by
    simp only [List.getD_eq_getElem?_getD]; rw [List.getElem?_append_left hj]
  have gB : ∀ j, A.keys.length ≤ j → (A.keys ++ B.keys).getD j .empty = B.keys.getD (j - A.keys.length) .empty := fun j hj => by
    simp only [List.getD_eq_getElem?_getD]; rw [List.getElem?_append_right hj]
  have iA : ∀ j, j < A.keys.length → (A.items ++ B.items).getD j (.mk 0 .empty .empty [] []) = A.items.getD j (.mk 0 .empty .empty [] []) := fun j hj => by
    simp only [List.getD_eq_getElem?_getD]; rw [List.getElem?_append_left (by rw [← oa.len]; exact hj)]
  have iB : ∀ j, A.keys.length ≤ j → (A.items ++ B.items).getD j (.mk 0 .empty .empty [] []) = B.items.getD (j - A.keys.length) (.mk 0 .empty .empty [] []) := fun j hj => by
    simp only [List.getD_eq_getElem?_getD]; rw [List.getElem?_append_right (by rw [← oa.len]; exact hj), ← oa.len]
  rw [List.length_append]
  constructor
  · rintro ⟨j, hj, rfl, hl⟩
    rcases Nat.lt_or_ge j A.keys.length with h1 | h1
    · refine .inr ⟨⟨j, h1, by rw [gA j h1, iA j h1]⟩, fun hk => ?_⟩
      obtain ⟨q, hq, e⟩ := List.mem_iff_getElem.1 hk
      refine hl (A.keys.length + q) (by omega) (by omega) ?_
      rw [gB _ (by omega), Nat.add_sub_cancel_left, getD_key hq, e]
    · exact .inl ⟨j - A.keys.length, by omega, by rw [gB j h1, iB j h1]⟩
  · rintro (⟨q, hq, rfl⟩ | ⟨⟨p, hp, rfl⟩, hn⟩)
    · refine ⟨A.keys.length + q, by omega, by rw [gB _ (by omega), iB _ (by omega), Nat.add_sub_cancel_left], fun r h1 h2 h3 => ?_⟩
      rw [gB r (by omega), gB _ (by omega), Nat.add_sub_cancel_left] at h3
      have h4 := rif_of ob.rise q (r - A.keys.length) (by omega) (by omega)
      have h5 : kL (B.keys.getD q .empty) (B.keys.getD (r - A.keys.length) .empty) := h4
      rw [h3] at h5
      exact kL.irr h5
    · refine ⟨p, by omega, by rw [gA p hp, iA p hp], fun r h1 h2 h3 => ?_⟩
      rw [gA p hp] at h3
      rcases Nat.lt_or_ge r A.keys.length with h6 | h6
      · rw [gA r h6] at h3
        have h5 : kL (A.keys.getD p .empty) (A.keys.getD r .empty) := rif_of oa.rise p r h1 h6
        rw [h3] at h5
        exact kL.irr h5
      · rw [gB r h6] at h3
        refine hn ?_
        show A.keys.getD p .empty ∈ B.keys
        rw [← h3, getD_key (show r - A.keys.length < B.keys.length by omega)]
        exact List.getElem_mem _
end Go.Proofs.Ytbaknnpjbokilaa
