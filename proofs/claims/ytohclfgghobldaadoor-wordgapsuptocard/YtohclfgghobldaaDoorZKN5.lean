import Derived.Test.YtohclfgghobldaaDoorZKN3
namespace Go.Proofs.YtohclfgghobldaaDoor
open Go.RowKit
set_option linter.unusedVariables false
set_option linter.unusedSimpArgs false

/-- a byte that ends every run and every mark -/
def Brk (u : List UInt8) : Prop := ∃ c r, u = c :: r ∧ (c = 32 ∨ c = 35 ∨ c = 41)
theorem brk_in {u : List UInt8} (h : Brk u) : ∃ c r, u = c :: r ∧ inB c = false ∧ nuB c = false ∧ leB c = false := by
  obtain ⟨c, r, e, h | h | h⟩ := h
  all_goals
    subst h
    exact ⟨_, r, e, by decide, by decide, by decide⟩
theorem gd_app {A x u : List UInt8} {p j : Nat} (hA : A.drop p = x ++ u) (hj : j < x.length) : A.getD (p + j) 0 = x.getD j 0 := by rw [← getD_drop, hA, gd_left hj]
theorem gd_behind {A x r : List UInt8} {c : UInt8} {p : Nat} (hA : A.drop p = x ++ c :: r) : A.getD (p + x.length) 0 = c := by rw [← getD_drop, hA, gd_at]
theorem drop_len {A x u : List UInt8} {p : Nat} (hA : A.drop p = x ++ u) (hx : x ++ u ≠ []) : p + x.length + u.length = A.length := by
  have h := congrArg List.length hA
  rw [List.length_drop, List.length_append] at h
  have : 0 < (x ++ u).length := List.length_pos_iff.2 hx
  rw [List.length_append] at this
  omega
theorem drop_more {A x y u : List UInt8} {p : Nat} (hA : A.drop p = (x ++ y) ++ u) : A.drop (p + x.length) = y ++ u := by
  rw [← List.drop_drop, hA, List.append_assoc, List.drop_left]
/-- a run that is all of x, in two texts -/
theorem run_all {P : UInt8 → Bool} {A x r : List UInt8} {c : UInt8} {p : Nat} (hA : A.drop p = x ++ c :: r) (hx : ∀ j, j < x.length → P (x.getD j 0) = true) (hc : P c = false) : bhP P A p = p + x.length := by
  have hl := drop_len hA (by simp)
  simp at hl
  have hs : ∀ k, k ≤ x.length → bhP P A p = bhP P A (p + k) := by
    intro k
    induction k with
    | zero => intro _; rfl
    | succ k ih =>
      intro hk
      rw [ih (by omega), bhP_step (by omega) (by rw [gd_app hA (by omega)]; exact hx k (by omega))]
      rfl
  rw [hs x.length (Nat.le_refl _), bhP_stop (by omega) (by rw [gd_behind hA]; exact hc)]
theorem run_in {P : UInt8 → Bool} {A x u : List UInt8} {p : Nat} (hA : A.drop p = x ++ u) (hp : p ≤ A.length) (h : bhP P A p = p + x.length) : ∀ j, j < x.length → P (x.getD j 0) = true := fun j hj => by
  rw [← gd_app hA hj]
  exact bhP_in _ p (p + j) (Nat.le_refl _) hp (by omega) (by omega)
theorem cut_app {A x u : List UInt8} {p : Nat} (hA : A.drop p = x ++ u) : cut A p (p + x.length) = x := by
  unfold cut
  rw [hA, show p + x.length - p = x.length by omega, List.take_left]
/-- a name that is all of x -/
theorem name_all {A A' x u u' : List UInt8} {p p' : Nat} (hA : A.drop p = x ++ u) (hA' : A'.drop p' = x ++ u') (hu : Brk u') (hx : x ≠ []) (h : nameW A p = x) : nameW A' p' = x := by
  obtain ⟨c, r, rfl, hc, _, _⟩ := brk_in hu
  have hpos := List.length_pos_iff.2 hx
  have hl := drop_len hA (by intro e; exact hx (List.append_eq_nil_iff.1 e).1)
  have hl' := drop_len hA' (by simp)
  simp at hl'
  unfold nameW at h
  split at h
  · next hh =>
    have hb := bhP_ge inB (l := A) (p := p) (by omega)
    have hlen : bhP inB A p = p + x.length := by
      have := congrArg List.length h
      rw [cut_len hb.2] at this
      omega
    have h1 := run_in hA (by omega) hlen
    have h2 := run_all hA' h1 hc
    unfold nameW
    have hle : leB (A'.getD p' 0) = true := by
      have e1 := gd_app hA (j := 0) hpos
      have e2 := gd_app hA' (j := 0) hpos
      rw [Nat.add_zero] at e1 e2
      rw [e2, ← e1]; exact hh.2
    rw [if_pos ⟨by omega, hle⟩, h2, cut_app hA']
  · exact absurd h.symm hx
theorem mk_brk : ∀ m ∈ mkL, ∀ k, 1 ≤ k → k < m.length → m.getD k 0 ≠ 32 ∧ m.getD k 0 ≠ 35 ∧ m.getD k 0 ≠ 41 := by
  intro m hm k h1 h2
  have hl : ∀ m ∈ mkL, m.length ≤ 3 := by decide
  have h3 := hl m hm
  have hk : k = 1 ∨ k = 2 := by omega
  have hd : ∀ m ∈ mkL, (m.getD 1 0 ≠ 32 ∧ m.getD 1 0 ≠ 35 ∧ m.getD 1 0 ≠ 41) ∧ (m.getD 2 0 ≠ 32 ∧ m.getD 2 0 ≠ 35 ∧ m.getD 2 0 ≠ 41) := by decide
  rcases hk with rfl | rfl
  · exact (hd m hm).1
  · exact (hd m hm).2
/-- a mark that is all of x -/
theorem mark_all {A A' x u u' : List UInt8} {p p' : Nat} (hA : A.drop p = x ++ u) (hA' : A'.drop p' = x ++ u') (hu : Brk u') (hx : x ≠ []) (h : mkW A p = x) : mkW A' p' = x := by
  obtain ⟨c, r, rfl, hc⟩ := hu
  have hpos := List.length_pos_iff.2 hx
  have hmk : mkB x = true := by
    unfold mkW at h
    split at h
    · next g => rw [← h]; exact g
    · split at h
      · next g => rw [← h]; exact g
      · split at h
        · next g => rw [← h]; exact g
        · exact absurd h.symm hx
  have hxm := List.contains_iff_mem.1 hmk
  have hl3 : x.length ≤ 3 := by
    have hl : ∀ m ∈ mkL, m.length ≤ 3 := by decide
    exact hl x hxm
  have hno : ∀ k, x.length < k → mkB ((x ++ c :: r).take k) = false := fun k hk => by
    cases hb : mkB ((x ++ c :: r).take k) with
    | false => rfl
    | true =>
      have hm := List.contains_iff_mem.1 hb
      have hlen : x.length < ((x ++ c :: r).take k).length := by rw [List.length_take, List.length_append, List.length_cons]; omega
      have h1 := mk_brk _ hm x.length (by omega) hlen
      have h2 : ((x ++ c :: r).take k).getD x.length 0 = c := by
        simp [List.getD, List.getElem?_take, hk]
      rw [h2] at h1
      rcases hc with rfl | rfl | rfl
      · exact absurd rfl h1.1
      · exact absurd rfl h1.2.1
      · exact absurd rfl h1.2.2
  have htk : (x ++ c :: r).take x.length = x := List.take_left
  unfold mkW
  rw [hA']
  have hcs : x.length = 1 ∨ x.length = 2 ∨ x.length = 3 := by omega
  rcases hcs with e | e | e
  · rw [e] at htk
    rw [if_neg (by rw [hno 3 (by omega)]; decide), if_neg (by rw [hno 2 (by omega)]; decide), htk, if_pos hmk]
  · rw [e] at htk
    rw [if_neg (by rw [hno 3 (by omega)]; decide), htk, if_pos hmk]
  · rw [e] at htk
    rw [htk, if_pos hmk]
end Go.Proofs.YtohclfgghobldaaDoor
