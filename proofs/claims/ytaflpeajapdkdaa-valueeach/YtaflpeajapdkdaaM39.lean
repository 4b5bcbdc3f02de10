import Derived.Test.YtaflpeajapdkdaaM24
namespace Go.Proofs.Ytaflpeajapdkdaa
open Go.RowKit Go.Maps Go.Sort
set_option linter.unusedVariables false
set_option linter.unusedSimpArgs false

theorem mem_ins {H : Type} {x y : Lit × DataW H} : ∀ {l : List (Lit × DataW H)}, y ∈ DataW.insert x l ↔ y = x ∨ y ∈ l
  | [] => by simp [DataW.insert]
  | z :: r => by
    simp only [DataW.insert]
    split
    · simp
    · rw [List.mem_cons, mem_ins, List.mem_cons]
      constructor
      · rintro (h | h | h)
        · exact .inr (.inl h)
        · exact .inl h
        · exact .inr (.inr h)
      · rintro (h | h | h)
        · exact .inr (.inl h)
        · exact .inl h
        · exact .inr (.inr h)
theorem len_ins {H : Type} {x : Lit × DataW H} : ∀ {l : List (Lit × DataW H)}, (DataW.insert x l).length = l.length + 1
  | [] => rfl
  | z :: r => by
    simp only [DataW.insert]
    split
    · simp
    · rw [List.length_cons, len_ins]; rfl

/-- what stands in the map of places -/
theorem LC_open (keys : List ByteArray) : ∀ k, ∃ es, LC keys k = .map es ∧ es.length ≤ k ∧ (∀ p ∈ es, ∃ j, j < k ∧ p = (.string (keys.getD j .empty).data.toList, .lit (.int .i64 (j : Int))))
  | 0 => ⟨[], rfl, Nat.le_refl _, fun p h => by cases h⟩
  | k + 1 => by
    obtain ⟨es, h1, h2, h3⟩ := LC_open keys k
    refine ⟨DataW.insert (.string (keys.getD k .empty).data.toList, .lit (.int .i64 (k : Int))) (es.filter fun p => !p.1.sameKey (.string (keys.getD k .empty).data.toList)), by show (LC keys k).put _ _ = _; rw [h1]; rfl, ?_, fun p hp => ?_⟩
    · rw [len_ins]
      have := List.length_filter_le (fun p : Lit × DataW Unit => !p.1.sameKey (.string (keys.getD k .empty).data.toList)) es
      omega
    · rcases mem_ins.1 hp with rfl | hp
      · exact ⟨k, by omega, rfl⟩
      · obtain ⟨j, hj, e⟩ := h3 p (List.mem_filter.1 hp).1
        exact ⟨j, by omega, e⟩
theorem LC_at (keys : List ByteArray) (k : Nat) {x : List UInt8} (hx : x ∈ strKeys (LC keys k)) (z : DataW Unit) : ∃ j, j < k ∧ (LC keys k).atKey (.string x) z = .lit (.int .i64 (j : Int)) ∧ (keys.getD j .empty).data.toList = x := by
  obtain ⟨es, h1, h2, h3⟩ := LC_open keys k
  rw [h1] at hx ⊢
  obtain ⟨p, hp, e⟩ := List.mem_map.1 hx
  obtain ⟨j, hj, rfl⟩ := h3 p hp
  have e' : (keys.getD j .empty).data.toList = x := e
  cases hf : es.find? (fun p => p.1.sameKey (.string x)) with
  | none =>
    have := List.find?_eq_none.1 hf _ hp
    simp [Lit.sameKey] at this
    exact absurd (by simpa using e') this
  | some q =>
    obtain ⟨i, hi, rfl⟩ := h3 q (List.mem_of_find?_eq_some hf)
    have hs := List.find?_some hf
    simp [Lit.sameKey] at hs
    exact ⟨i, hi, by unfold DataW.atKey; simp only [hf], hs⟩

/-- the keys, each once, as they rise -/
noncomputable def SK (keys : List ByteArray) : List (List UInt8) := (strKeys (LC keys keys.length)).mergeSort leB
theorem SK_len (keys : List ByteArray) : (SK keys).length ≤ keys.length := by
  obtain ⟨es, h1, h2, _⟩ := LC_open keys keys.length
  unfold SK
  rw [List.length_mergeSort, h1]
  show (es.map _).length ≤ _
  rw [List.length_map]; exact h2
theorem LC_size (keys : List ByteArray) : Maps.size (LC keys keys.length) ≤ keys.length := by
  obtain ⟨es, h1, h2, _⟩ := LC_open keys keys.length
  rw [h1]; exact h2
theorem SK_at (keys : List ByteArray) (i : Nat) (hi : i < (SK keys).length) : ∃ j, j < keys.length ∧ (LC keys keys.length).atKey (.string ((SK keys).getD i [])) (.lit (.int .i64 0)) = .lit (.int .i64 (j : Int)) ∧ (keys.getD j .empty).data.toList = (SK keys).getD i [] := by
  have e : (SK keys).getD i [] = (SK keys)[i] := by simp [List.getD, hi]
  rw [e]
  exact LC_at keys keys.length (List.mem_mergeSort.1 (List.getElem_mem hi)) _
/-- the place of the last item under the key number i -/
noncomputable def ixK (keys : List ByteArray) (i : Nat) : Nat := if h : i < (SK keys).length then (SK_at keys i h).choose else 0
theorem ixK_at (keys : List ByteArray) (i : Nat) (hi : i < (SK keys).length) : ixK keys i < keys.length ∧ (LC keys keys.length).atKey (.string ((SK keys).getD i [])) (.lit (.int .i64 0)) = .lit (.int .i64 (ixK keys i : Int)) ∧ (keys.getD (ixK keys i) .empty).data.toList = (SK keys).getD i [] := by
  unfold ixK
  rw [dif_pos hi]
  exact (SK_at keys i hi).choose_spec
/-- the object of keys and items -/
noncomputable def mkT (keys : List ByteArray) (ts : List VT) : VT := .mk 6 .empty .empty ((List.range (SK keys).length).map fun i => ts.getD (ixK keys i) (.mk 0 .empty .empty [] [])) ((List.range (SK keys).length).map fun i => ⟨((SK keys).getD i []).toArray⟩)
end Go.Proofs.Ytaflpeajapdkdaa
