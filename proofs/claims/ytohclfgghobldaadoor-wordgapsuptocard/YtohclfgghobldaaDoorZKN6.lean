import Derived.Test.YtohclfgghobldaaDoorZKN5
namespace Go.Proofs.YtohclfgghobldaaDoor
open Go.RowKit
set_option linter.unusedVariables false
set_option linter.unusedSimpArgs false

theorem escL_loc {A A' y u u' : List UInt8} {k k' n d : Nat} (hA : A.drop k = y ++ u) (hA' : A'.drop k' = y ++ u') (h : escL A k = (n, k + d, 0)) (hd : d ≤ y.length) : escL A' k' = (n, k' + d, 0) := by
  unfold escL at h ⊢
  rw [hA] at h
  rw [hA']
  cases h1 : shortL (y ++ u) with
  | some r =>
    rw [h1] at h
    have e := Prod.mk.inj h
    have e2 := (Prod.mk.inj e.2).1
    have hd2 : d = 2 := by omega
    subst hd2
    rw [shortL_long hd] at h1
    rw [shortL_long hd, h1]
    dsimp only at e ⊢
    rw [e.1]
  | none =>
    rw [h1] at h
    cases h2 : numL (y ++ u) with
    | none => rw [h2] at h; have e := Prod.mk.inj h; exact absurd (Prod.mk.inj e.2).2 (by decide)
    | some m =>
      rw [h2] at h
      dsimp only at h
      by_cases h3 : m < 55296 ∨ 57344 ≤ m
      · rw [if_pos h3] at h
        have e := Prod.mk.inj h
        have e2 := (Prod.mk.inj e.2).1
        have hd2 : d = 6 := by omega
        subst hd2
        rw [shortL_long (by omega)] at h1
        rw [numL_long hd] at h2
        rw [shortL_long (by omega), h1, numL_long hd, h2]
        dsimp only
        rw [if_pos h3, e.1]
      · rw [if_neg h3] at h
        have e6 : A.drop (k + 6) = (y ++ u).drop 6 := by rw [← List.drop_drop, hA]
        have e6' : A'.drop (k' + 6) = (y ++ u').drop 6 := by rw [← List.drop_drop, hA']
        rw [e6] at h
        rw [e6']
        cases h4 : numL ((y ++ u).drop 6) with
        | none => rw [h4] at h; have e := Prod.mk.inj h; exact absurd (Prod.mk.inj e.2).2 (by decide)
        | some m2 =>
          rw [h4] at h
          dsimp only at h
          by_cases h5 : m < 56320 ∧ 56320 ≤ m2 ∧ m2 < 57344
          · rw [if_pos h5] at h
            have e := Prod.mk.inj h
            have e2 := (Prod.mk.inj e.2).1
            have hd2 : d = 12 := by omega
            subst hd2
            rw [List.drop_append_of_le_length (by omega)] at h4
            have hy6 : 6 ≤ (y.drop 6).length := by rw [List.length_drop]; omega
            rw [numL_long hy6] at h4
            rw [shortL_long (by omega)] at h1
            rw [numL_long (by omega)] at h2
            rw [shortL_long (by omega), h1, numL_long (by omega), h2]
            dsimp only
            rw [if_neg h3, List.drop_append_of_le_length (by omega), numL_long hy6, h4]
            dsimp only
            rw [if_pos h5, e.1]
          · rw [if_neg h5] at h
            have e := Prod.mk.inj h
            exact absurd (Prod.mk.inj e.2).2 (by decide)
theorem dec_loc {y u u' : List UInt8} (hy : y ≠ []) (hs : strayL (y ++ u) = false) (hd : (decL (y ++ u)).2 ≤ y.length) : decL (y ++ u') = decL (y ++ u) ∧ strayL (y ++ u') = false := by
  have hne : ∀ v, y ++ v ≠ [] := fun v e => hy (List.append_eq_nil_iff.1 e).1
  rcases stray_or (y ++ u) (hne u) with ⟨n, post, hr, h, _⟩ | ⟨_, h⟩
  · have e1 : decL (y ++ u) = (n, (enc n).length) := by rw [h]; exact dec_enc n hr post
    rw [e1] at hd
    have hy' : y = enc n ++ y.drop (enc n).length := by
      have h1 : (y ++ u).take (enc n).length = enc n := by rw [h]; exact List.take_left
      rw [List.take_append_of_le_length hd] at h1
      have h2 := List.take_append_drop (enc n).length y
      rw [h1] at h2
      exact h2.symm
    have e2 : y ++ u' = enc n ++ (y.drop (enc n).length ++ u') := by rw [← List.append_assoc, ← hy']
    have e3 : decL (y ++ u') = (n, (enc n).length) := by rw [e2]; exact dec_enc n hr _
    refine ⟨e3.trans e1.symm, ?_⟩
    rcases stray_or (y ++ u') (hne u') with ⟨_, _, _, _, hs'⟩ | ⟨hd', hs'⟩
    · exact hs'
    · exfalso
      rw [hd'] at e3
      have hn : n = 65533 := (Prod.mk.inj e3).1.symm
      have hl : (enc n).length = 1 := (Prod.mk.inj e3).2.symm
      rw [hn, enc_err] at hl
      exact absurd hl (by decide)
  · rw [h] at hs; cases hs
theorem rpc_gt {A : List UInt8} : ∀ (f i : Nat) (acc r : List Nat) (e : Nat) (wh : Bool), A.length - i < f → rpc A f i acc = (r, e, wh, 0) → i < e := by
  intro f
  induction f with
  | zero => intro i acc r e wh h; omega
  | succ f ih =>
    intro i acc r e wh hf h
    rw [rpc] at h
    by_cases h1 : i < A.length
    · rw [if_pos h1] at h
      by_cases h2 : (A.getD i 0).toNat = 34
      · rw [if_pos h2] at h
        have := (Prod.mk.inj (Prod.mk.inj h).2).1
        omega
      rw [if_neg h2] at h
      by_cases h3 : inwB A i = true
      · rw [if_pos h3] at h
        have := (Prod.mk.inj (Prod.mk.inj h).2).1
        omega
      rw [if_neg h3] at h
      by_cases h4 : (A.getD i 0).toNat = 92
      · rw [if_pos h4] at h
        by_cases h5 : (escL A i).2.2 = 0
        · rw [if_pos h5] at h
          obtain ⟨g1, g2, _⟩ := escL_ok h5
          have := ih _ _ _ _ _ (by omega) h
          omega
        · rw [if_neg h5] at h
          exact absurd (Prod.mk.inj (Prod.mk.inj (Prod.mk.inj h).2).2).2 h5
      rw [if_neg h4] at h
      by_cases h5 : (A.getD i 0).toNat < 32
      · rw [if_pos h5] at h
        exact absurd (Prod.mk.inj (Prod.mk.inj (Prod.mk.inj h).2).2).2 (by decide)
      rw [if_neg h5] at h
      by_cases h6 : strayL (A.drop i) = true
      · rw [if_pos h6] at h
        exact absurd (Prod.mk.inj (Prod.mk.inj (Prod.mk.inj h).2).2).2 (by decide)
      rw [if_neg h6] at h
      have hd := decL_pos (A.drop i)
      have := ih _ _ _ _ _ (by omega) h
      omega
    · rw [if_neg h1] at h
      exact absurd (Prod.mk.inj (Prod.mk.inj (Prod.mk.inj h).2).2).2 (by decide)
/-- a piece hangs on its own bytes alone -/
theorem rpc_loc {A A' x u u' : List UInt8} {p p' : Nat} (hA : A.drop p = x ++ u) (hA' : A'.drop p' = x ++ u') (hx : x ≠ []) : ∀ (f j : Nat) (acc r : List Nat) (wh : Bool), j ≤ x.length → A.length - (p + j) < f → rpc A f (p + j) acc = (r, p + x.length, wh, 0) → ∀ g, A'.length - (p' + j) < g → rpc A' g (p' + j) acc = (r, p' + x.length, wh, 0) := by
  have hl := drop_len hA (by intro e; exact hx (List.append_eq_nil_iff.1 e).1)
  have hl' := drop_len hA' (by intro e; exact hx (List.append_eq_nil_iff.1 e).1)
  intro f
  induction f with
  | zero => intro j acc r wh _ h; omega
  | succ f ih =>
    intro j acc r wh hj hf h g hg
    have hgt := rpc_gt _ _ _ _ _ _ hf h
    have hjx : j < x.length := by omega
    have hb : A'.getD (p' + j) 0 = A.getD (p + j) 0 := by rw [gd_app hA hjx, gd_app hA' hjx]
    have hdA : A.drop (p + j) = x.drop j ++ u := by rw [← List.drop_drop, hA, List.drop_append_of_le_length hj]
    have hdA' : A'.drop (p' + j) = x.drop j ++ u' := by rw [← List.drop_drop, hA', List.drop_append_of_le_length hj]
    have hyl : (x.drop j).length = x.length - j := List.length_drop
    obtain ⟨g, rfl⟩ : ∃ g', g = g' + 1 := ⟨g - 1, by omega⟩
    rw [rpc] at h ⊢
    rw [if_pos (by omega)] at h
    rw [if_pos (by omega), hb]
    have hinw : 2 ≤ x.length - j → inwB A' (p' + j) = inwB A (p + j) := fun h2 => by
      have hy : ∀ v, Lib.hasPrefix (x.drop j ++ v) [92, 40] = Lib.hasPrefix (x.drop j) [92, 40] := fun v => by
        unfold Lib.hasPrefix
        match hxj : x.drop j with
        | [] => rw [hxj] at hyl; simp at hyl; omega
        | [a] => rw [hxj] at hyl; simp at hyl; omega
        | a :: b :: r => simp [List.isPrefixOf]
      unfold inwB
      rw [hdA, hdA', hy, hy]
    by_cases h2 : (A.getD (p + j) 0).toNat = 34
    · rw [if_pos h2] at h ⊢
      obtain ⟨e1, e2⟩ := Prod.mk.inj h
      obtain ⟨e3, e4⟩ := Prod.mk.inj e2
      rw [← e1, ← (Prod.mk.inj e4).1, show p' + j + 1 = p' + x.length by omega]
    rw [if_neg h2] at h ⊢
    by_cases h3 : inwB A (p + j) = true
    · rw [if_pos h3] at h
      obtain ⟨e1, e2⟩ := Prod.mk.inj h
      obtain ⟨e3, e4⟩ := Prod.mk.inj e2
      rw [if_pos (by rw [hinw (by omega)]; exact h3), ← e1, ← (Prod.mk.inj e4).1, show p' + j + 2 = p' + x.length by omega]
    rw [if_neg h3] at h
    by_cases h4 : (A.getD (p + j) 0).toNat = 92
    · rw [if_pos h4] at h
      by_cases h5 : (escL A (p + j)).2.2 = 0
      · rw [if_pos h5] at h
        obtain ⟨g1, g2, _⟩ := escL_ok h5
        have hgt2 := rpc_gt _ _ _ _ _ _ (by omega) h
        obtain ⟨d, hd⟩ : ∃ d, (escL A (p + j)).2.1 = p + j + d := ⟨(escL A (p + j)).2.1 - (p + j), by omega⟩
        have he : escL A (p + j) = ((escL A (p + j)).1, p + j + d, 0) := by rw [← hd, ← h5]
        have he' := escL_loc hdA hdA' he (by omega)
        have hd2 : 2 ≤ d := by
          have := he
          unfold escL at this
          cases hs : shortL (A.drop (p + j)) with
          | some r => rw [hs] at this; have e2 := (Prod.mk.inj (Prod.mk.inj this).2).1; omega
          | none =>
            rw [hs] at this
            cases hn : numL (A.drop (p + j)) with
            | none => rw [hn] at this; exact absurd (Prod.mk.inj (Prod.mk.inj this).2).2 (by decide)
            | some m =>
              rw [hn] at this
              dsimp only at this
              by_cases h7 : m < 55296 ∨ 57344 ≤ m
              · rw [if_pos h7] at this; have e2 := (Prod.mk.inj (Prod.mk.inj this).2).1; omega
              · rw [if_neg h7] at this
                cases hn2 : numL (A.drop (p + j + 6)) with
                | none => rw [hn2] at this; exact absurd (Prod.mk.inj (Prod.mk.inj this).2).2 (by decide)
                | some m2 =>
                  rw [hn2] at this
                  dsimp only at this
                  split at this
                  · have e2 := (Prod.mk.inj (Prod.mk.inj this).2).1; omega
                  · exact absurd (Prod.mk.inj (Prod.mk.inj this).2).2 (by decide)
        rw [if_neg (by rw [hinw (by omega)]; exact h3), if_pos h4, he']
        dsimp only
        rw [if_pos rfl, show p' + j + d = p' + (j + d) by omega]
        rw [hd, show p + j + d = p + (j + d) by omega] at h
        exact ih (j + d) _ _ _ (by omega) (by omega) h g (by omega)
      · rw [if_neg h5] at h
        exact absurd (Prod.mk.inj (Prod.mk.inj (Prod.mk.inj h).2).2).2 h5
    rw [if_neg h4] at h
    have hin' : inwB A' (p' + j) = false := by
      cases hw : inwB A' (p' + j) with
      | false => rfl
      | true =>
        obtain ⟨q, hq⟩ := inw_iff.1 hw
        rw [drop_getD (by omega), hb] at hq
        have := (List.cons.inj hq).1
        rw [this] at h4
        exact absurd rfl h4
    rw [if_neg (by rw [hin']; decide), if_neg h4]
    by_cases h5 : (A.getD (p + j) 0).toNat < 32
    · rw [if_pos h5] at h
      exact absurd (Prod.mk.inj (Prod.mk.inj (Prod.mk.inj h).2).2).2 (by decide)
    rw [if_neg h5] at h ⊢
    by_cases h6 : strayL (A.drop (p + j)) = true
    · rw [if_pos h6] at h
      exact absurd (Prod.mk.inj (Prod.mk.inj (Prod.mk.inj h).2).2).2 (by decide)
    rw [if_neg h6] at h
    have h6' : strayL (x.drop j ++ u) = false := by rw [← hdA]; cases hs : strayL (A.drop (p + j)) with | false => rfl | true => exact absurd hs h6
    have hd := decL_pos (A.drop (p + j))
    have hgt2 := rpc_gt _ _ _ _ _ _ (by omega) h
    have hyne : x.drop j ≠ [] := fun e => by rw [e] at hyl; simp at hyl; omega
    have hdl := dec_loc (u' := u') hyne h6' (by rw [← hdA, hyl]; omega)
    rw [← hdA, ← hdA'] at hdl
    rw [if_neg (by rw [hdl.2]; decide), hdl.1, Nat.add_assoc]
    rw [Nat.add_assoc] at h
    exact ih _ _ _ _ (by omega) (by omega) h g (by omega)
end Go.Proofs.YtohclfgghobldaaDoor
