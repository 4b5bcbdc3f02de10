import Derived.Test.YtoidodippmgbpaaM38
import Derived.Sort.Walk0
import Derived.Test.YtoidodippmgbpaaM39
import Derived.Test.YtoidodippmgbpaaM15
namespace Go.Proofs.Ytoidodippmgbpaa
open Go.RowKit Go.Maps Go.Sort Go.Shelf
set_option linter.unusedVariables false
set_option linter.unusedSimpArgs false

/-! The tree that Merge makes, by what stands at a key. -/
def kL (x y : ByteArray) : Prop := x.toList < y.toList
theorem kL.trans {x y z : ByteArray} (h : kL x y) (k : kL y z) : kL x z := List.lt_trans h k
theorem kL.irr {x : ByteArray} : ¬ kL x x := List.lt_irrefl _
theorem ba_ext {x y : ByteArray} (h : x.toList = y.toList) : x = y := by
  rw [Lib.toList_data, Lib.toList_data] at h
  cases x; cases y
  simp at h
  rw [h]
theorem cmp_lt {x y : ByteArray} (h : Pl.cmpS x.toList y.toList = -1) : kL x y := by
  unfold Pl.cmpS at h
  rw [bytesLess_eq] at h
  by_cases h1 : x.toList < y.toList
  · exact h1
  · rw [decide_eq_false h1, if_neg (by simp)] at h
    split at h <;> omega
theorem cmp_eq {x y : ByteArray} (h : Pl.cmpS x.toList y.toList = 0) : x = y := by
  unfold Pl.cmpS at h
  rw [bytesLess_eq] at h
  split at h
  · omega
  · split at h
    · next h2 => exact ba_ext (by simpa using h2)
    · omega
theorem cmp_gt {x y : ByteArray} (h : Pl.cmpS x.toList y.toList = 1) : kL y x := by
  unfold Pl.cmpS at h
  rw [bytesLess_eq] at h
  split at h
  · omega
  · next h1 =>
    split at h
    · omega
    · next h2 =>
      have h1' : ¬ x.toList < y.toList := by simpa using h1
      have h2' : ¬ x.toList = y.toList := by simpa using h2
      rcases Std.le_total (a := x.toList) (b := y.toList) with h3 | h3
      · rcases List.le_iff_lt_or_eq.1 h3 with h4 | h4
        · exact absurd h4 h1'
        · exact absurd h4 h2'
      · rcases List.le_iff_lt_or_eq.1 h3 with h4 | h4
        · exact h4
        · exact absurd h4.symm h2'
/-- keys that rise -/
def RiF (ka : Nat → ByteArray) (K : Nat) : Prop := ∀ p q, p < q → q < K → kL (ka p) (ka q)
theorem RiF.le {ka : Nat → ByteArray} {K : Nat} (h : RiF ka K) {p q : Nat} (hpq : p ≤ q) (hq : q < K) {x : ByteArray} (hx : kL x (ka p)) : kL x (ka q) := by
  rcases Nat.lt_or_ge p q with h1 | h1
  · exact hx.trans (h p q h1 hq)
  · have : p = q := by omega
    rw [← this]; exact hx
/-- what the way of two places takes of the rest -/
def InM (ka kb : Nat → ByteArray) (K L i j : Nat) : Nat ⊕ Nat → Prop
  | .inl p => i ≤ p ∧ p < K ∧ ∀ q, j ≤ q → q < L → kb q ≠ ka p
  | .inr q => j ≤ q ∧ q < L
/-- near, told by the keys -/
theorem near_told {ka kb : Nat → ByteArray} {K L i j : Nat} (ra : RiF ka K) (rb : RiF kb L) (h : i < K ∨ j < L) :
    (nearI (K - i) (L - j) (ka i) (kb j) = -1 ∧ i < K ∧ ∀ q, j ≤ q → q < L → kL (ka i) (kb q)) ∨
    (nearI (K - i) (L - j) (ka i) (kb j) = 1 ∧ j < L ∧ ∀ p, i ≤ p → p < K → kL (kb j) (ka p)) ∨
    (nearI (K - i) (L - j) (ka i) (kb j) = 0 ∧ i < K ∧ j < L ∧ ka i = kb j) := by
  unfold nearI
  by_cases h1 : K - i = 0
  · rw [if_pos h1]
    exact .inr (.inl ⟨rfl, by omega, fun p h2 h3 => by omega⟩)
  · rw [if_neg h1]
    by_cases h2 : L - j = 0
    · rw [if_pos h2]
      exact .inl ⟨rfl, by omega, fun q h3 h4 => by omega⟩
    · rw [if_neg h2]
      rcases cmpS_three (ka i).toList (kb j).toList with e | e | e
      · exact .inl ⟨e, by omega, fun q h3 h4 => rb.le h3 h4 (cmp_lt e)⟩
      · exact .inr (.inr ⟨e, by omega, by omega, cmp_eq e⟩)
      · exact .inr (.inl ⟨e, by omega, fun p h3 h4 => ra.le h3 h4 (cmp_gt e)⟩)
theorem uni_step {ka kb : Nat → ByteArray} {K L f i j : Nat} (h : i < K ∨ j < L) :
    (nearI (K - i) (L - j) (ka i) (kb j) = -1 → uniF ka kb K L (f + 1) i j = .inl i :: uniF ka kb K L f (i + 1) j) ∧
    (nearI (K - i) (L - j) (ka i) (kb j) = 1 → uniF ka kb K L (f + 1) i j = .inr j :: uniF ka kb K L f i (j + 1)) ∧
    (nearI (K - i) (L - j) (ka i) (kb j) = 0 → uniF ka kb K L (f + 1) i j = .inr j :: uniF ka kb K L f (i + 1) (j + 1)) := by
  refine ⟨fun e => ?_, fun e => ?_, fun e => ?_⟩
  · rw [uniF, if_pos h, if_pos e]
  · rw [uniF, if_pos h, if_neg (by rw [e]; decide), if_pos e]
  · rw [uniF, if_pos h, if_neg (by rw [e]; decide), if_neg (by rw [e]; decide)]
theorem uni_mem {ka kb : Nat → ByteArray} {K L : Nat} (ra : RiF ka K) (rb : RiF kb L) : ∀ (f i j : Nat), i ≤ K → j ≤ L → (K - i) + (L - j) ≤ f → ∀ x, x ∈ uniF ka kb K L f i j ↔ InM ka kb K L i j x
  | 0, i, j, hi, hj, hf, x => by
    rw [uniF]
    constructor
    · intro h; cases h
    · intro h
      cases x with
      | inl p => obtain ⟨h1, h2, _⟩ := h; omega
      | inr q => obtain ⟨h1, h2⟩ := h; omega
  | f + 1, i, j, hi, hj, hf, x => by
    by_cases h : i < K ∨ j < L
    · obtain ⟨s1, s2, s3⟩ := uni_step (f := f) (ka := ka) (kb := kb) h
      rcases near_told ra rb h with ⟨e, h1, ht⟩ | ⟨e, h1, ht⟩ | ⟨e, h1, h2, ht⟩
      · rw [s1 e, List.mem_cons, uni_mem ra rb f (i + 1) j (by omega) hj (by omega) x]
        cases x with
        | inl p =>
          constructor
          · rintro (h2 | ⟨h2, h3, h4⟩)
            · injection h2 with h2
              subst h2
              exact ⟨Nat.le_refl _, h1, fun q h3 h4 h5 => by have := ht q h3 h4; rw [h5] at this; exact kL.irr this⟩
            · exact ⟨by omega, h3, h4⟩
          · rintro ⟨h2, h3, h4⟩
            rcases Nat.lt_or_ge i p with h5 | h5
            · exact .inr ⟨h5, h3, h4⟩
            · have : p = i := by omega
              subst this
              exact .inl rfl
        | inr q =>
          constructor
          · rintro (h2 | h2)
            · cases h2
            · exact h2
          · exact fun h2 => .inr h2
      · rw [s2 e, List.mem_cons, uni_mem ra rb f i (j + 1) hi (by omega) (by omega) x]
        cases x with
        | inl p =>
          constructor
          · rintro (h2 | ⟨h2, h3, h4⟩)
            · cases h2
            · refine ⟨h2, h3, fun q h5 h6 h7 => ?_⟩
              rcases Nat.lt_or_ge j q with h8 | h8
              · exact h4 q h8 h6 h7
              · have : q = j := by omega
                subst this
                have := ht p h2 h3
                rw [h7] at this
                exact kL.irr this
          · rintro ⟨h2, h3, h4⟩
            exact .inr ⟨h2, h3, fun q h5 h6 => h4 q (by omega) h6⟩
        | inr q =>
          constructor
          · rintro (h2 | ⟨h2, h3⟩)
            · injection h2 with h2
              subst h2
              exact ⟨Nat.le_refl _, h1⟩
            · exact ⟨by omega, h3⟩
          · rintro ⟨h2, h3⟩
            rcases Nat.lt_or_ge j q with h5 | h5
            · exact .inr ⟨h5, h3⟩
            · have : q = j := by omega
              subst this
              exact .inl rfl
      · rw [s3 e, List.mem_cons, uni_mem ra rb f (i + 1) (j + 1) (by omega) (by omega) (by omega) x]
        cases x with
        | inl p =>
          constructor
          · rintro (h3 | ⟨h3, h4, h5⟩)
            · cases h3
            · refine ⟨by omega, h4, fun q h6 h7 h8 => ?_⟩
              rcases Nat.lt_or_ge j q with h9 | h9
              · exact h5 q h9 h7 h8
              · have : q = j := by omega
                subst this
                have := ra i p h3 h4
                rw [← h8, ht] at this
                exact kL.irr this
          · rintro ⟨h3, h4, h5⟩
            rcases Nat.lt_or_ge i p with h6 | h6
            · exact .inr ⟨h6, h4, fun q h7 h8 => h5 q (by omega) h8⟩
            · have : p = i := by omega
              subst this
              exact absurd ht.symm (h5 j (Nat.le_refl _) h2)
        | inr q =>
          constructor
          · rintro (h3 | ⟨h3, h4⟩)
            · injection h3 with h3
              subst h3
              exact ⟨Nat.le_refl _, h2⟩
            · exact ⟨by omega, h4⟩
          · rintro ⟨h3, h4⟩
            rcases Nat.lt_or_ge j q with h5 | h5
            · exact .inr ⟨h5, h4⟩
            · have : q = j := by omega
              subst this
              exact .inl rfl
    · rw [uniF, if_neg h]
      constructor
      · intro h1; cases h1
      · intro h1
        cases x with
        | inl p => obtain ⟨h2, h3, _⟩ := h1; omega
        | inr q => obtain ⟨h2, h3⟩ := h1; omega
/-- its keys rise -/
theorem uni_rise {ka kb : Nat → ByteArray} {K L : Nat} (ra : RiF ka K) (rb : RiF kb L) : ∀ (f i j : Nat), i ≤ K → j ≤ L → (K - i) + (L - j) ≤ f → (uniF ka kb K L f i j).Pairwise fun x y => kL (kyU ka kb x) (kyU ka kb y)
  | 0, i, j, hi, hj, hf => by rw [uniF]; exact List.Pairwise.nil
  | f + 1, i, j, hi, hj, hf => by
    by_cases h : i < K ∨ j < L
    · obtain ⟨s1, s2, s3⟩ := uni_step (f := f) (ka := ka) (kb := kb) h
      rcases near_told ra rb h with ⟨e, h1, ht⟩ | ⟨e, h1, ht⟩ | ⟨e, h1, h2, ht⟩
      · rw [s1 e, List.pairwise_cons]
        refine ⟨fun x hx => ?_, uni_rise ra rb f (i + 1) j (by omega) hj (by omega)⟩
        have hm := (uni_mem ra rb f (i + 1) j (by omega) hj (by omega) x).1 hx
        cases x with
        | inl p => exact ra i p (by have := hm.1; omega) hm.2.1
        | inr q => exact ht q hm.1 hm.2
      · rw [s2 e, List.pairwise_cons]
        refine ⟨fun x hx => ?_, uni_rise ra rb f i (j + 1) hi (by omega) (by omega)⟩
        have hm := (uni_mem ra rb f i (j + 1) hi (by omega) (by omega) x).1 hx
        cases x with
        | inl p => exact ht p hm.1 hm.2.1
        | inr q => exact rb j q (by have := hm.1; omega) hm.2
      · rw [s3 e, List.pairwise_cons]
        refine ⟨fun x hx => ?_, uni_rise ra rb f (i + 1) (j + 1) (by omega) (by omega) (by omega)⟩
        have hm := (uni_mem ra rb f (i + 1) (j + 1) (by omega) (by omega) (by omega) x).1 hx
        cases x with
        | inl p =>
          show kL (kb j) (ka p)
          rw [← ht]
          exact ra i p (by have := hm.1; omega) hm.2.1
        | inr q => exact rb j q (by have := hm.1; omega) hm.2
    · rw [uniF, if_neg h]
      exact List.Pairwise.nil
end Go.Proofs.Ytoidodippmgbpaa
namespace Go.Proofs.Ytoidodippmgbpaa
open Go.RowKit Go.Maps Go.Sort Go.Shelf
set_option linter.unusedVariables false
set_option linter.unusedSimpArgs false

/-! Merge's tree, as fields. -/
def flds (T : VT) : List (ByteArray × VT) := T.keys.zip T.items
def ofF (l : List (ByteArray × VT)) : VT := .mk 6 .empty .empty (l.map (·.2)) (l.map (·.1))
/-- an object, its keys rising -/
structure Obj6 (T : VT) : Prop where
  kind : T.kind = 6
  num : T.num = .empty
  text : T.text = .empty
  len : T.keys.length = T.items.length
  rise : T.keys.Pairwise kL
theorem flds_keys {T : VT} (h : T.keys.length = T.items.length) : (flds T).map (·.1) = T.keys := by
  unfold flds
  rw [List.map_fst_zip (by omega)]
theorem flds_items {T : VT} (h : T.keys.length = T.items.length) : (flds T).map (·.2) = T.items := by
  unfold flds
  rw [List.map_snd_zip (by omega)]
theorem Obj6.eta {T : VT} (h : Obj6 T) : ofF (flds T) = T := by
  unfold ofF
  rw [flds_keys h.len, flds_items h.len]
  cases T with
  | mk k n t i ks =>
    have h1 : k = 6 := h.kind
    have h2 : n = .empty := h.num
    have h3 : t = .empty := h.text
    rw [h1, h2, h3]
    rfl
theorem ofF_flds (l : List (ByteArray × VT)) : flds (ofF l) = l := by
  show (l.map (·.1)).zip (l.map (·.2)) = l
  induction l with
  | nil => rfl
  | cons x r ih => simp only [List.map_cons, List.zip_cons_cons, ih]
theorem rise_ext : ∀ {l m : List (ByteArray × VT)}, (l.map (·.1)).Pairwise kL → (m.map (·.1)).Pairwise kL → (∀ x, x ∈ l ↔ x ∈ m) → l = m
  | [], [], _, _, _ => rfl
  | [], y :: m, _, _, h => by have := (h y).2 (List.mem_cons_self); cases this
  | x :: l, [], _, _, h => by have := (h x).1 (List.mem_cons_self); cases this
  | x :: l, y :: m, hl, hm, h => by
    rw [List.map_cons, List.pairwise_cons] at hl hm
    have gx : ∀ z ∈ l, kL x.1 z.1 := fun z hz => hl.1 _ (List.mem_map_of_mem hz)
    have gy : ∀ z ∈ m, kL y.1 z.1 := fun z hz => hm.1 _ (List.mem_map_of_mem hz)
    have e : x = y := by
      rcases List.mem_cons.1 ((h x).1 List.mem_cons_self) with h1 | h1
      · exact h1
      · rcases List.mem_cons.1 ((h y).2 List.mem_cons_self) with h2 | h2
        · exact h2.symm
        · exact absurd ((gx y h2).trans (gy x h1)) kL.irr
    subst e
    rw [rise_ext hl.2 hm.2 (fun z => ?_)]
    constructor
    · intro hz
      rcases List.mem_cons.1 ((h z).1 (List.mem_cons_of_mem _ hz)) with h1 | h1
      · subst h1; exact absurd (gx z hz) kL.irr
      · exact h1
    · intro hz
      rcases List.mem_cons.1 ((h z).2 (List.mem_cons_of_mem _ hz)) with h1 | h1
      · subst h1; exact absurd (gy z hz) kL.irr
      · exact h1
theorem obj_ext {A B : VT} (ha : Obj6 A) (hb : Obj6 B) (h : ∀ x, x ∈ flds A ↔ x ∈ flds B) : A = B := by
  rw [← ha.eta, ← hb.eta, rise_ext (by rw [flds_keys ha.len]; exact ha.rise) (by rw [flds_keys hb.len]; exact hb.rise) h]

def mg (A B : VT) : VT := mgT A.keys B.keys A.items B.items
theorem range_getD {α : Type} {β : Type} (U : List α) (d : α) (f : α → β) : ((List.range U.length).map fun k => f (U.getD k d)) = U.map f := by
  apply List.ext_getElem
  · simp
  · intro i h1 h2
    have h3 : i < U.length := by simpa using h2
    simp [List.getD, h3]
def mgL (A B : VT) : List (ByteArray × VT) := (uniK A.keys B.keys).map fun x => (kyU (fun i => A.keys.getD i .empty) (fun j => B.keys.getD j .empty) x, tU A.items B.items x)
theorem mg_of (A B : VT) : mg A B = ofF (mgL A B) := by
  unfold mg mgT ofF mgL
  rw [range_getD (uniK A.keys B.keys) (.inl 0) (fun x => tU A.items B.items x), range_getD (uniK A.keys B.keys) (.inl 0) (fun x => kyU (fun i => A.keys.getD i .empty) (fun j => B.keys.getD j .empty) x), List.map_map, List.map_map]
  rfl
theorem rif_of {ks : List ByteArray} (h : ks.Pairwise kL) : RiF (fun i => ks.getD i .empty) ks.length := by
  intro p q hpq hq
  have hp : p < ks.length := by omega
  show kL (ks.getD p .empty) (ks.getD q .empty)
  rw [getD_key hp, getD_key hq]
  exact List.pairwise_iff_getElem.1 h p q hp hq hpq
theorem mg_obj {A B : VT} (ha : Obj6 A) (hb : Obj6 B) : Obj6 (mg A B) := by
  rw [mg_of]
  refine ⟨rfl, rfl, rfl, by show (List.map _ _).length = (List.map _ _).length; simp, ?_⟩
  show ((mgL A B).map (·.1)).Pairwise kL
  unfold mgL
  rw [List.map_map, List.pairwise_map]
  exact uni_rise (rif_of ha.rise) (rif_of hb.rise) _ 0 0 (Nat.zero_le _) (Nat.zero_le _) (by omega)
theorem mem_flds {T : VT} (h : T.keys.length = T.items.length) {x : ByteArray × VT} : x ∈ flds T ↔ ∃ i, i < T.keys.length ∧ x = (T.keys.getD i .empty, T.items.getD i (.mk 0 .empty .empty [] [])) := by
  unfold flds
  rw [List.mem_iff_getElem]
  constructor
  · rintro ⟨i, hi, rfl⟩
    have h1 : i < T.keys.length := by simp at hi; omega
    have h2 : i < T.items.length := by omega
    exact ⟨i, h1, by simp [List.getD, h1, h2]⟩
  · rintro ⟨i, hi, rfl⟩
    have h2 : i < T.items.length := by omega
    exact ⟨i, by simp; omega, by simp [List.getD, hi, h2]⟩
/-- what stands in the object of two -/
theorem mg_mem {A B : VT} (ha : Obj6 A) (hb : Obj6 B) (x : ByteArray × VT) : x ∈ flds (mg A B) ↔ x ∈ flds B ∨ (x ∈ flds A ∧ x.1 ∉ B.keys) := by
  rw [mg_of, ofF_flds, mem_flds ha.len, mem_flds hb.len]
  unfold mgL
  rw [List.mem_map]
  have M := fun y => uni_mem (rif_of ha.rise) (rif_of hb.rise) (A.keys.length + B.keys.length) 0 0 (Nat.zero_le _) (Nat.zero_le _) (by omega) y
  constructor
  · rintro ⟨y, hy, rfl⟩
    have hm := (M y).1 hy
    cases y with
    | inl p =>
      refine .inr ⟨⟨p, hm.2.1, rfl⟩, fun hk => ?_⟩
      obtain ⟨q, hq, e⟩ := List.mem_iff_getElem.1 hk
      refine hm.2.2 q (Nat.zero_le _) hq ?_
      show B.keys.getD q .empty = A.keys.getD p .empty
      rw [getD_key hq, e]
      rfl
    | inr q => exact .inl ⟨q, hm.2, rfl⟩
  · rintro (⟨q, hq, rfl⟩ | ⟨⟨p, hp, rfl⟩, hn⟩)
    · exact ⟨.inr q, (M _).2 ⟨Nat.zero_le _, hq⟩, rfl⟩
    · refine ⟨.inl p, (M _).2 ⟨Nat.zero_le _, hp, fun q _ hq e => hn ?_⟩, rfl⟩
      have e' : B.keys.getD q .empty = A.keys.getD p .empty := e
      show A.keys.getD p .empty ∈ B.keys
      rw [← e', getD_key hq]
      exact List.getElem_mem hq
theorem mem_keys {T : VT} (h : T.keys.length = T.items.length) {k : ByteArray} : k ∈ T.keys ↔ ∃ t, (k, t) ∈ flds T := by
  rw [← flds_keys h, List.mem_map]
  constructor
  · rintro ⟨⟨k', t⟩, h1, rfl⟩
    exact ⟨t, h1⟩
  · rintro ⟨t, h1⟩
    exact ⟨_, h1, rfl⟩
theorem mg_keys {A B : VT} (ha : Obj6 A) (hb : Obj6 B) (k : ByteArray) : k ∈ (mg A B).keys ↔ k ∈ A.keys ∨ k ∈ B.keys := by
  rw [mem_keys (mg_obj ha hb).len]
  constructor
  · rintro ⟨t, h⟩
    rcases (mg_mem ha hb _).1 h with h1 | ⟨h1, _⟩
    · exact .inr ((mem_keys hb.len).2 ⟨t, h1⟩)
    · exact .inl ((mem_keys ha.len).2 ⟨t, h1⟩)
  · intro h
    by_cases hk : k ∈ B.keys
    · obtain ⟨t, ht⟩ := (mem_keys hb.len).1 hk
      exact ⟨t, (mg_mem ha hb _).2 (.inl ht)⟩
    · rcases h with h1 | h1
      · obtain ⟨t, ht⟩ := (mem_keys ha.len).1 h1
        exact ⟨t, (mg_mem ha hb _).2 (.inr ⟨ht, hk⟩)⟩
      · exact absurd h1 hk
/-- it does not matter which two come first -/
theorem mg_assoc {A B C : VT} (ha : Obj6 A) (hb : Obj6 B) (hc : Obj6 C) : mg A (mg B C) = mg (mg A B) C := by
  have h1 := mg_obj hb hc
  have h2 := mg_obj ha hb
  refine obj_ext (mg_obj ha h1) (mg_obj h2 hc) fun x => ?_
  rw [mg_mem ha h1, mg_mem h2 hc, mg_mem hb hc, mg_mem ha hb, mg_keys hb hc]
  constructor
  · rintro ((h | ⟨h, k⟩) | ⟨h, k⟩)
    · exact .inl h
    · exact .inr ⟨.inl h, k⟩
    · exact .inr ⟨.inr ⟨h, fun q => k (.inl q)⟩, fun q => k (.inr q)⟩
  · rintro (h | ⟨h | ⟨h, k⟩, k2⟩)
    · exact .inl (.inl h)
    · exact .inl (.inr ⟨h, k2⟩)
    · exact .inr ⟨h, fun q => q.elim k k2⟩
def noF : VT := .mk 6 .empty .empty [] []
theorem noF_obj : Obj6 noF := ⟨rfl, rfl, rfl, rfl, List.Pairwise.nil⟩
theorem mg_none {A : VT} (ha : Obj6 A) : mg A noF = A := obj_ext (mg_obj ha noF_obj) ha fun x => by
  rw [mg_mem ha noF_obj]
  constructor
  · rintro (h | ⟨h, _⟩)
    · cases h
    · exact h
  · exact fun h => .inr ⟨h, fun q => by cases q⟩
theorem none_mg {A : VT} (ha : Obj6 A) : mg noF A = A := obj_ext (mg_obj noF_obj ha) ha fun x => by
  rw [mg_mem noF_obj ha]
  constructor
  · rintro (h | ⟨h, _⟩)
    · exact h
    · cases h
  · exact fun h => .inl h
end Go.Proofs.Ytoidodippmgbpaa
namespace Go.Proofs.Ytoidodippmgbpaa
open Go.RowKit Go.Maps Go.Sort Go.Shelf
set_option linter.unusedVariables false
set_option linter.unusedSimpArgs false

theorem ri_chain {ks : List ByteArray} (h : ∀ i, 0 < i → i < ks.length → kL (ks.getD (i - 1) .empty) (ks.getD i .empty)) : ∀ d i, i + d + 1 < ks.length → kL (ks.getD i .empty) (ks.getD (i + d + 1) .empty)
  | 0, i, hi => h (i + 1) (by omega) (by omega)
  | d + 1, i, hi => (ri_chain h d i (by omega)).trans (h (i + (d + 1) + 1) (by omega) (by omega))
theorem rK_pair {ks : List ByteArray} (h : rK ks ks.length = true) : ks.Pairwise kL := by
  have h1 : ∀ i, 0 < i → i < ks.length → kL (ks.getD (i - 1) .empty) (ks.getD i .empty) := fun i h0 hi => by
    have h2 := List.all_eq_true.1 h i (List.mem_range.2 hi)
    have h3 : (i == 0) = false := by rw [beq_eq_false_iff_ne]; omega
    rw [h3, Bool.false_or] at h2
    unfold rA at h2
    rw [bytesLess_eq] at h2
    show (ks.getD (i - 1) .empty).toList < (ks.getD i .empty).toList
    exact of_decide_eq_true h2
  rw [List.pairwise_iff_getElem]
  intro i j hi hj hij
  have h2 := ri_chain h1 (j - i - 1) i (by omega)
  have e : i + (j - i - 1) + 1 = j := by omega
  rw [e, getD_key hi, getD_key hj] at h2
  exact h2
theorem pair_rK {ks : List ByteArray} (h : ks.Pairwise kL) : rK ks ks.length = true := by
  unfold rK
  rw [List.all_eq_true]
  intro i hi
  have hi' := List.mem_range.1 hi
  cases i with
  | zero => rfl
  | succ i =>
    have h1 : kL (ks.getD i .empty) (ks.getD (i + 1) .empty) := rif_of h i (i + 1) (by omega) hi'
    have h2 : rA ks (i + 1) = true := by
      unfold rA
      rw [bytesLess_eq]
      exact decide_eq_true (show (ks.getD (i + 1 - 1) .empty).toList < (ks.getD (i + 1) .empty).toList from h1)
    rw [h2, Bool.or_true]
theorem form_obj {h : Nat} {T : VT} (hf : formN (h + 1) T = true) (h6 : T.kind = 6) : Obj6 T ∧ oK T.keys T.keys.length = true ∧ ∀ x ∈ T.items, formN h x = true := by
  rcases form_open hf with (rfl | rfl | rfl) | ⟨n, rfl, _⟩ | ⟨n, rfl, _⟩ | ⟨i, rfl, hi⟩ | ⟨i, ks, rfl, hl, hr, ho, hi⟩
  all_goals first | exact ⟨⟨rfl, rfl, rfl, hl, rK_pair hr⟩, ho, hi⟩ | (simp [VT.kind] at h6)
theorem obj_form {h : Nat} {T : VT} (ho : Obj6 T) (hk : oK T.keys T.keys.length = true) (hi : ∀ x ∈ T.items, formN h x = true) : formN (h + 1) T = true := by
  have hr := pair_rK ho.rise
  unfold formN formV
  rw [ho.kind, ho.num, ho.text, hr, hk, decide_eq_true ho.len, List.all_eq_true.2 hi, if_neg (by decide), if_neg (by decide), if_neg (by decide), if_neg (by decide), if_pos rfl]
  have e : bareB .empty .empty 0 0 = true := by simp [bareB, Lib.toList_data]
  rw [e]
  rfl
theorem oK_all {ks : List ByteArray} : oK ks ks.length = true ↔ ∀ k ∈ ks, okB k.data.toList = true := by
  unfold oK
  rw [List.all_eq_true]
  constructor
  · intro h k hk
    obtain ⟨i, hi, rfl⟩ := List.mem_iff_getElem.1 hk
    have := h i (List.mem_range.2 hi)
    rw [getD_key hi] at this
    exact this
  · intro h i hi
    have hi' := List.mem_range.1 hi
    rw [getD_key hi']
    exact h _ (List.getElem_mem hi')
theorem mg_form {h : Nat} {A B : VT} (fa : formN (h + 1) A = true) (fb : formN (h + 1) B = true) (a6 : A.kind = 6) (b6 : B.kind = 6) : formN (h + 1) (mg A B) = true := by
  obtain ⟨oa, ka, ia⟩ := form_obj fa a6
  obtain ⟨ob, kb, ib⟩ := form_obj fb b6
  have om := mg_obj oa ob
  refine obj_form om (oK_all.2 fun k hk => ?_) fun x hx => ?_
  · rcases (mg_keys oa ob k).1 hk with h1 | h1
    · exact oK_all.1 ka k h1
    · exact oK_all.1 kb k h1
  · rw [← flds_items om.len] at hx
    obtain ⟨y, hy, rfl⟩ := List.mem_map.1 hx
    rcases (mg_mem oa ob y).1 hy with h1 | ⟨h1, _⟩
    · exact ib _ (by rw [← flds_items ob.len]; exact List.mem_map_of_mem h1)
    · exact ia _ (by rw [← flds_items oa.len]; exact List.mem_map_of_mem h1)
/-- its weight -/
theorem sum_drop {f : VT → Nat} {l : List VT} {i : Nat} (h : i < l.length) : sumL ((l.drop i).map f) = f (l.getD i (.mk 0 .empty .empty [] [])) + sumL ((l.drop (i + 1)).map f) := by
  rw [List.drop_eq_getElem_cons h, List.map_cons]
  show _ + _ = _
  simp [List.getD, h]
theorem uni_sum {f : VT → Nat} {ka kb : Nat → ByteArray} {tA tB : List VT} {K L : Nat} (hA : tA.length = K) (hB : tB.length = L) : ∀ (n i j : Nat), i ≤ K → j ≤ L → sumL ((uniF ka kb K L n i j).map fun x => f (tU tA tB x)) ≤ sumL ((tA.drop i).map f) + sumL ((tB.drop j).map f)
  | 0, i, j, _, _ => by rw [uniF]; exact Nat.zero_le _
  | n + 1, i, j, hi, hj => by
    rw [uniF]
    by_cases h : i < K ∨ j < L
    · rw [if_pos h]
      rcases near_cases (x := ka i) (y := kb j) h with ⟨e, h1⟩ | ⟨e, h1⟩ | ⟨e, h1, h2⟩
      · rw [if_pos e, List.map_cons]
        have := uni_sum (f := f) (ka := ka) (kb := kb) hA hB n (i + 1) j h1 hj
        rw [sum_drop (f := f) (l := tA) (i := i) (by omega)]
        show f (tA.getD i _) + _ ≤ _
        omega
      · rw [if_neg (by rw [e]; decide), if_pos e, List.map_cons]
        have := uni_sum (f := f) (ka := ka) (kb := kb) hA hB n i (j + 1) hi h1
        rw [sum_drop (f := f) (l := tB) (i := j) (by omega)]
        show f (tB.getD j _) + _ ≤ _
        omega
      · rw [if_neg (by rw [e]; decide), if_neg (by rw [e]; decide), List.map_cons]
        have := uni_sum (f := f) (ka := ka) (kb := kb) hA hB n (i + 1) (j + 1) h1 h2
        rw [sum_drop (f := f) (l := tB) (i := j) (by omega), sum_drop (f := f) (l := tA) (i := i) (by omega)]
        show f (tB.getD j _) + _ ≤ _
        omega
    · rw [if_neg h]
      exact Nat.zero_le _
theorem mg_sz {h : Nat} {A B : VT} (oa : A.keys.length = A.items.length) (ob : B.keys.length = B.items.length) : szN (h + 1) (mg A B) ≤ szN (h + 1) A + szN (h + 1) B := by
  rw [mg_of]
  have h1 := uni_sum (f := szN h) (ka := fun i => A.keys.getD i .empty) (kb := fun j => B.keys.getD j .empty) (tA := A.items) (tB := B.items) oa.symm ob.symm (A.keys.length + B.keys.length) 0 0 (Nat.zero_le _) (Nat.zero_le _)
  have h2 := uni_len (ka := fun i => A.keys.getD i .empty) (kb := fun j => B.keys.getD j .empty) (A.keys.length + B.keys.length) 0 0 (Nat.zero_le A.keys.length) (Nat.zero_le B.keys.length)
  rw [List.drop_zero, List.drop_zero] at h1
  show 1 + (List.map _ (mgL A B)).length + sumL ((List.map _ (mgL A B)).map (szN h)) ≤ (1 + A.keys.length + sumL (A.items.map (szN h))) + (1 + B.keys.length + sumL (B.items.map (szN h)))
  unfold mgL uniK
  rw [List.length_map, List.length_map, List.map_map, List.map_map]
  have e : ((szN h ∘ fun x : ByteArray × VT => x.2) ∘ fun x : Nat ⊕ Nat => (kyU (fun i => A.keys.getD i .empty) (fun j => B.keys.getD j .empty) x, tU A.items B.items x)) = fun x => szN h (tU A.items B.items x) := rfl
  rw [e]
  omega
end Go.Proofs.Ytoidodippmgbpaa
