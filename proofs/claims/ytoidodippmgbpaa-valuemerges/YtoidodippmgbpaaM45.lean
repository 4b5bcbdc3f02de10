import Derived.Test.YtoidodippmgbpaaM44
import Derived.Test.YtoidodippmgbpaaM30
import Derived.Maps.Views
namespace Go.Proofs.Ytoidodippmgbpaa
open Go.RowKit Go.Maps Go.Sort Go.Shelf
set_option linter.unusedVariables false
set_option linter.unusedSimpArgs false

theorem ins_perm {H : Type} (x : Lit × DataW H) : ∀ l : List (Lit × DataW H), (DataW.insert x l).Perm (x :: l)
  | [] => List.Perm.refl _
  | y :: r => by
    unfold DataW.insert
    split
    · exact List.Perm.refl _
    · exact ((ins_perm x r).cons y).trans (List.Perm.swap x y r)
/-- the keys of the map of places -/
theorem LC_keys (keys : List ByteArray) : ∀ k, ∃ es, LC keys k = .map es ∧ (strKeys (LC keys k)).Nodup ∧ (∀ p ∈ es, ∃ x, p.1 = .string x) ∧ ∀ x, x ∈ strKeys (LC keys k) ↔ ∃ j, j < k ∧ (keys.getD j .empty).data.toList = x
  | 0 => ⟨[], rfl, List.nodup_nil, (fun p h => by cases h), fun x => ⟨(fun h => by cases h), fun ⟨j, h, _⟩ => by omega⟩⟩
  | k + 1 => by
    obtain ⟨es, h1, h2, h3, h4⟩ := LC_keys keys k
    have e : LC keys (k + 1) = .map (DataW.insert (.string (keys.getD k .empty).data.toList, .lit (.int .i64 (k : Int))) (es.filter fun p => !p.1.sameKey (.string (keys.getD k .empty).data.toList))) := by show (LC keys k).put _ _ = _; rw [h1]; rfl
    obtain ⟨x0, hx0⟩ : ∃ x0, (keys.getD k .empty).data.toList = x0 := ⟨_, rfl⟩
    rw [hx0] at e
    have hp := ins_perm ((.string x0, .lit (.int .i64 (k : Int))) : Lit × DataW Unit) (es.filter fun p => !p.1.sameKey (.string x0))
    have hs : (strKeys (LC keys (k + 1))).Perm (x0 :: (es.filter fun p => !p.1.sameKey (.string x0)).map fun p => strOf p.1) := by
      rw [e]
      exact hp.map fun p => strOf p.1
    rw [h1] at h2 h4
    have hm : ∀ x, x ∈ ((es.filter fun p => !p.1.sameKey (.string x0)).map fun p => strOf p.1) ↔ x ≠ x0 ∧ x ∈ strKeys (.map es : DataW Unit) := fun x => by
      rw [List.mem_map]
      constructor
      · rintro ⟨p, hp, rfl⟩
        obtain ⟨hp1, hp2⟩ := List.mem_filter.1 hp
        refine ⟨fun e2 => ?_, List.mem_map_of_mem hp1⟩
        obtain ⟨y, hy⟩ := h3 p hp1
        rw [hy] at hp2 e2
        have e3 : y = x0 := e2
        rw [e3] at hp2
        simp [Lit.sameKey] at hp2
      · rintro ⟨hn, hx⟩
        obtain ⟨p, hp, rfl⟩ := List.mem_map.1 hx
        refine ⟨p, List.mem_filter.2 ⟨hp, ?_⟩, rfl⟩
        obtain ⟨y, hy⟩ := h3 p hp
        rw [hy] at hn ⊢
        have hn' : y ≠ x0 := hn
        simp [Lit.sameKey, hn']
    refine ⟨_, e, hs.nodup_iff.2 (List.nodup_cons.2 ⟨fun h => ((hm x0).1 h).1 rfl, ?_⟩), ?_, fun x => ?_⟩
    · exact List.Nodup.sublist ((List.filter_sublist).map _) h2
    · intro p hp'
      rcases List.mem_cons.1 (hp.mem_iff.1 hp') with rfl | h
      · exact ⟨_, rfl⟩
      · exact h3 p (List.mem_filter.1 h).1
    · rw [hs.mem_iff, List.mem_cons, hm, h4]
      constructor
      · rintro (h | ⟨_, j, hj, hx⟩)
        · exact ⟨k, by omega, by rw [hx0, h]⟩
        · exact ⟨j, by omega, hx⟩
      · rintro ⟨j, hj, hx⟩
        by_cases e2 : x = x0
        · exact .inl e2
        · refine .inr ⟨e2, j, ?_, hx⟩
          rcases Nat.lt_or_ge j k with h5 | h5
          · exact h5
          · have : j = k := by omega
            rw [this, hx0] at hx
            exact absurd hx.symm e2
theorem LC_isMap (keys : List ByteArray) (k : Nat) : IsMap (LC keys k) := by
  obtain ⟨es, h, _⟩ := LC_keys keys k
  exact ⟨es, h⟩
/-- what stands there is the last -/
theorem LC_last (keys : List ByteArray) {x : List UInt8} (z : DataW Unit) : ∀ k, (∃ q, q < k ∧ (keys.getD q .empty).data.toList = x) → ∃ j, j < k ∧ (LC keys k).atKey (.string x) z = .lit (.int .i64 (j : Int)) ∧ (keys.getD j .empty).data.toList = x ∧ ∀ q, j < q → q < k → (keys.getD q .empty).data.toList ≠ x
  | 0, ⟨q, hq, _⟩ => by omega
  | k + 1, ⟨q, hq, hx⟩ => by
    by_cases e : (keys.getD k .empty).data.toList = x
    · refine ⟨k, by omega, ?_, e, fun q h1 h2 => by omega⟩
      show ((LC keys k).put (.string (keys.getD k .empty).data.toList) (.lit (.int .i64 (k : Int)))).atKey (.string x) z = _
      rw [e]
      exact atKey_put_same (LC_isMap keys k) (by simp [WideAt.IsKeyLit]) _ _
    · have hqk : q < k := by
        rcases Nat.lt_or_ge q k with h1 | h1
        · exact h1
        · have : q = k := by omega
          rw [this] at hx
          exact absurd hx e
      obtain ⟨j, hj, h1, h2, h3⟩ := LC_last keys z k ⟨q, hqk, hx⟩
      refine ⟨j, by omega, ?_, h2, fun q h4 h5 => ?_⟩
      · show ((LC keys k).put (.string (keys.getD k .empty).data.toList) (.lit (.int .i64 (k : Int)))).atKey (.string x) z = _
        rw [atKey_put_other (fun h => e (by injection h with h; exact h.symm))]
        exact h1
      · rcases Nat.lt_or_ge q k with h6 | h6
        · exact h3 q h4 h6
        · have : q = k := by omega
          rw [this]
          exact e
theorem SK_mem (keys : List ByteArray) (x : List UInt8) : x ∈ SK keys ↔ ∃ j, j < keys.length ∧ (keys.getD j .empty).data.toList = x := by
  unfold SK
  rw [List.mem_mergeSort]
  obtain ⟨_, _, _, _, h⟩ := LC_keys keys keys.length
  exact h x
theorem SK_rise (keys : List ByteArray) : (SK keys).Pairwise fun x y => x < y := by
  obtain ⟨_, _, hn, _, _⟩ := LC_keys keys keys.length
  have tr : ∀ a b c : List UInt8, leB a b = true → leB b c = true → leB a c = true := fun a b c h1 h2 => by simp only [leB, decide_eq_true_eq] at *; exact List.le_trans h1 h2
  have to : ∀ a b : List UInt8, (leB a b || leB b a) = true := fun a b => by simp only [leB, Bool.or_eq_true, decide_eq_true_eq]; exact List.le_total a b
  have h1 := List.pairwise_mergeSort tr to (strKeys (LC keys keys.length))
  have h2 : (SK keys).Nodup := ((List.mergeSort_perm _ leB).nodup_iff).2 hn
  unfold SK at h2 ⊢
  refine (h1.and h2).imp fun {a b} h => ?_
  have h3 : a ≤ b := by simpa [leB] using h.1
  rcases List.le_iff_lt_or_eq.1 h3 with h4 | h4
  · exact h4
  · exact absurd h4 h.2
/-- the place of the last item under a key -/
theorem ixK_last (keys : List ByteArray) (i : Nat) (hi : i < (SK keys).length) : ∀ q, ixK keys i < q → q < keys.length → (keys.getD q .empty).data.toList ≠ (SK keys).getD i [] := by
  obtain ⟨h1, h2, h3⟩ := ixK_at keys i hi
  obtain ⟨j, hj, a1, a2, a3⟩ := LC_last keys (x := (SK keys).getD i []) (.lit (.int .i64 0)) keys.length ⟨_, h1, h3⟩
  have e : ixK keys i = j := by
    rw [h2] at a1
    simp only [DataW.lit.injEq, Lit.int.injEq, true_and] at a1
    omega
  rw [e]
  exact a3
theorem ba_mk (x : ByteArray) : (⟨x.data.toList.toArray⟩ : ByteArray) = x := by cases x; simp
theorem mkT_obj (keys : List ByteArray) (ts : List VT) : Obj6 (mkT keys ts) := by
  refine ⟨rfl, rfl, rfl, by show (List.map _ _).length = (List.map _ _).length; simp, ?_⟩
  show (List.map (fun i => (⟨((SK keys).getD i []).toArray⟩ : ByteArray)) (List.range (SK keys).length)).Pairwise kL
  rw [range_getD (SK keys) [] (fun x => (⟨x.toArray⟩ : ByteArray)), List.pairwise_map]
  refine (SK_rise keys).imp fun {a b} h => ?_
  show (⟨a.toArray⟩ : ByteArray).toList < (⟨b.toArray⟩ : ByteArray).toList
  rw [Lib.toList_data, Lib.toList_data]
  simpa using h
/-- what stands in an object that is made -/
theorem mkT_mem (keys : List ByteArray) (ts : List VT) (x : ByteArray × VT) : x ∈ flds (mkT keys ts) ↔ ∃ j, j < keys.length ∧ x = (keys.getD j .empty, ts.getD j (.mk 0 .empty .empty [] [])) ∧ ∀ q, j < q → q < keys.length → keys.getD q .empty ≠ keys.getD j .empty := by
  have e : flds (mkT keys ts) = (List.range (SK keys).length).map fun i => ((⟨((SK keys).getD i []).toArray⟩ : ByteArray), ts.getD (ixK keys i) (.mk 0 .empty .empty [] [])) := by
    show (List.map _ _).zip (List.map _ _) = _
    rw [List.zip_map']
  rw [e, List.mem_map]
  constructor
  · rintro ⟨i, hi, rfl⟩
    have hi' := List.mem_range.1 hi
    obtain ⟨h1, _, h3⟩ := ixK_at keys i hi'
    have h4 := ixK_last keys i hi'
    refine ⟨ixK keys i, h1, ?_, fun q h5 h6 h7 => h4 q h5 h6 (by rw [h7]; exact h3)⟩
    rw [← h3, ba_mk]
  · rintro ⟨j, hj, rfl, hl⟩
    obtain ⟨i, hi, e1⟩ := List.mem_iff_getElem.1 ((SK_mem keys _).2 ⟨j, hj, rfl⟩)
    have e2 : (SK keys).getD i [] = (keys.getD j .empty).data.toList := by rw [← e1]; simp [List.getD, hi]
    obtain ⟨h1, _, h3⟩ := ixK_at keys i hi
    have h4 := ixK_last keys i hi
    have e3 : ixK keys i = j := by
      rcases Nat.lt_trichotomy (ixK keys i) j with h5 | h5 | h5
      · exact absurd e2.symm (h4 j h5 hj)
      · exact h5
      · have h6 : (keys.getD (ixK keys i) .empty).data.toList = (keys.getD j .empty).data.toList := h3.trans e2
        refine absurd (ba_ext ?_) (hl _ h5 h1)
        rw [Lib.toList_data, Lib.toList_data]
        exact h6
    refine ⟨i, List.mem_range.2 hi, ?_⟩
    rw [e2, ba_mk, e3]
/-- Merge is Make of all fields, one after the other -/
theorem mk_mg {A B : VT} (oa : Obj6 A) (ob : Obj6 B) : mkT (A.keys ++ B.keys) (A.items ++ B.items) = mg A B := by
  refine obj_ext (mkT_obj _ _) (mg_obj oa ob) fun x => ?_
  rw [mkT_mem, mg_mem oa ob, mem_flds oa.len, mem_flds ob.len]
  have gA : ∀ j, j < A.keys.length → (A.keys ++ B.keys).getD j .empty = A.keys.getD j .empty := fun j hj => by
    simp only [List.getD_eq_getElem?_getD]; rw [List.getElem?_append_left hj]
  have gB : ∀ j, A.keys.length ≤ j → (A.keys ++ B.keys).getD j .empty = B.keys.getD (j - A.keys.length) .empty := fun j hj => by
    simp only [List.getD_eq_getElem?_getD]; rw [List.getElem?_append_right hj]
  have iA : ∀ j, j < A.keys.length → (A.items ++ B.items).getD j (.mk 0 .empty .empty [] []) = A.items.getD j (.mk 0 .empty .empty [] []) := fun j hj => by
    simp only [List.getD_eq_getElem?_getD]; rw [List.getElem?_append_left (by rw [← oa.len]; exact hj)]
  have iB : ∀ j, A.keys.length ≤ j → (A.items ++ B.items).getD j (.mk 0 .empty .empty [] []) = B.items.getD (j - A.keys.length) (.mk 0 .empty .empty [] []) := fun j hj => by
    simp only [List.getD_eq_getElem?_getD]; rw [List.getElem?_append_right (by rw [← oa.len]; exact hj), ← oa.len]
  rw [List.length_append]
  constructor
  · rintro ⟨j, hj, rfl, hl⟩
    rcases Nat.lt_or_ge j A.keys.length with h1 | h1
    · refine .inr ⟨⟨j, h1, by rw [gA j h1, iA j h1]⟩, fun hk => ?_⟩
      obtain ⟨q, hq, e⟩ := List.mem_iff_getElem.1 hk
      refine hl (A.keys.length + q) (by omega) (by omega) ?_
      rw [gB _ (by omega), Nat.add_sub_cancel_left, getD_key hq, e]
    · exact .inl ⟨j - A.keys.length, by omega, by rw [gB j h1, iB j h1]⟩
  · rintro (⟨q, hq, rfl⟩ | ⟨⟨p, hp, rfl⟩, hn⟩)
    · refine ⟨A.keys.length + q, by omega, by rw [gB _ (by omega), iB _ (by omega), Nat.add_sub_cancel_left], fun r h1 h2 h3 => ?_⟩
      rw [gB r (by omega), gB _ (by omega), Nat.add_sub_cancel_left] at h3
      have h4 := rif_of ob.rise q (r - A.keys.length) (by omega) (by omega)
      have h5 : kL (B.keys.getD q .empty) (B.keys.getD (r - A.keys.length) .empty) := h4
      rw [h3] at h5
      exact kL.irr h5
    · refine ⟨p, by omega, by rw [gA p hp, iA p hp], fun r h1 h2 h3 => ?_⟩
      rw [gA p hp] at h3
      rcases Nat.lt_or_ge r A.keys.length with h6 | h6
      · rw [gA r h6] at h3
        have h5 : kL (A.keys.getD p .empty) (A.keys.getD r .empty) := rif_of oa.rise p r h1 h6
        rw [h3] at h5
        exact kL.irr h5
      · rw [gB r h6] at h3
        refine hn ?_
        show A.keys.getD p .empty ∈ B.keys
        rw [← h3, getD_key (show r - A.keys.length < B.keys.length by omega)]
        exact List.getElem_mem _
end Go.Proofs.Ytoidodippmgbpaa
