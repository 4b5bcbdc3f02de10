import Derived.Test.YtohclfgghobldaaDoorZKN6
namespace Go.Proofs.YtohclfgghobldaaDoor
open Go.RowKit
set_option linter.unusedVariables false
set_option linter.unusedSimpArgs false

theorem name_x {A y u : List UInt8} {q : Nat} (hA : A.drop q = y ++ u) (hn : nameW A q ≠ []) (hl : (nameW A q).length = y.length) : nameW A q = y := by
  unfold nameW at hn hl ⊢
  split at hl
  · next hh =>
    rw [if_pos hh]
    have hb := bhP_ge inB (l := A) (p := q) (by omega)
    rw [cut_len hb.2] at hl
    rw [show bhP inB A q = q + y.length by omega]
    exact cut_app hA
  · next hh => rw [if_neg hh] at hn; exact absurd rfl hn
theorem piece_all {A A' x u u' : List UInt8} {p p' a b : Nat} (hA : A.drop p = x ++ u) (hA' : A'.drop p' = x ++ u') (hx : x ≠ []) (hp : p < A.length) (h : (pieceC A p a b).err = 0) (hf : (pieceC A p a b).fin = p + x.length) :
    pieceC A' p' a b = ⟨(pieceC A p a b).kind, p', p' + x.length, (pieceC A p a b).text, 0⟩ := by
  have hpos := List.length_pos_iff.2 hx
  have hl' := drop_len hA' (by intro e; exact hx (List.append_eq_nil_iff.1 e).1)
  have hl := rpc_loc hA hA' hx (A.length + 1) 1 []
  unfold pieceC at h hf ⊢
  generalize rpc A (A.length + 1) (p + 1) [] = R at *
  obtain ⟨r, e, wh, c⟩ := R
  dsimp only at h hf ⊢
  by_cases hc : c = 0
  · subst hc
    rw [if_pos rfl] at hf ⊢
    have he : e = p + x.length := by cases wh <;> exact hf
    subst he
    have hl2 := hl r wh (by omega) (by omega) rfl (A'.length + 1) (by omega)
    rw [hl2]
    dsimp only
    rw [if_pos rfl]
    cases wh <;> rfl
  · rw [if_neg hc] at h
    exact absurd h hc
/-- a token hangs on its own bytes alone, if a break follows -/
theorem tok_all {A A' x u u' : List UInt8} {p p' : Nat} {op : List Nat} (hp : p < A.length) (he : (tokW A op p).err = 0) (hA : A.drop p = x ++ u) (hf : (tokW A op p).fin = p + x.length) (hA' : A'.drop p' = x ++ u') (hu : Brk u') :
    tokW A' op p' = ⟨(tokW A op p).kind, p', p' + x.length, (tokW A op p).text, 0⟩ := by
  have hup := tok_up hp he
  have hpos : 0 < x.length := by omega
  have hx : x ≠ [] := List.length_pos_iff.1 hpos
  have hl' := drop_len hA' (by intro e; exact hx (List.append_eq_nil_iff.1 e).1)
  have hp' : p' < A'.length := by omega
  have hb : A'.getD p' 0 = A.getD p 0 := by
    have e1 := gd_app hA (j := 0) hpos
    have e2 := gd_app hA' (j := 0) hpos
    rw [Nat.add_zero] at e1 e2
    rw [e1, e2]
  have hA1 : A.drop (p + 1) = x.drop 1 ++ u := by rw [← List.drop_drop, hA, List.drop_append_of_le_length (by omega)]
  have hA1' : A'.drop (p' + 1) = x.drop 1 ++ u' := by rw [← List.drop_drop, hA', List.drop_append_of_le_length (by omega)]
  have hx1 : (x.drop 1).length = x.length - 1 := List.length_drop
  have hnm : nameW A (p + 1) ≠ [] → (nameW A (p + 1)).length = x.length - 1 → nameW A (p + 1) = x.drop 1 ∧ nameW A' (p' + 1) = x.drop 1 := fun h1 h2 => by
    have e := name_x hA1 h1 (by rw [hx1]; exact h2)
    refine ⟨e, name_all hA1 hA1' hu ?_ e⟩
    rw [← e]; exact h1
  rw [tok_eq hp] at he hf ⊢
  rw [tok_eq hp']
  unfold tkC at he hf ⊢
  rw [hb]
  by_cases h1 : leB (A.getD p 0) = true
  · rw [if_pos h1] at he hf ⊢
    rw [if_pos h1]
    have hl : (nameW A p).length = x.length := by
      have : p + (nameW A p).length = p + x.length := hf
      omega
    have e1 := name_x hA (by intro e; rw [e] at hl; simp at hl; omega) hl
    have e2 := name_all hA hA' hu hx e1
    unfold nameT
    rw [e1, e2]
  rw [if_neg h1] at he hf ⊢
  rw [if_neg h1]
  by_cases h2 : (A.getD p 0).toNat = 36
  · rw [if_pos h2] at he hf ⊢
    rw [if_pos h2]
    unfold varT at he hf ⊢
    by_cases hpl : plainW (nameW A (p + 1)) = true
    · rw [if_pos hpl] at hf ⊢
      have hl : (nameW A (p + 1)).length = x.length - 1 := by
        have : p + 1 + (nameW A (p + 1)).length = p + x.length := hf
        omega
      obtain ⟨e1, e2⟩ := hnm (fun e => by rw [e] at hpl; exact absurd hpl (by decide)) hl
      rw [e1] at hpl
      rw [e2, e1, if_pos hpl, hx1, show p' + 1 + (x.length - 1) = p' + x.length by omega]
    · rw [if_neg hpl] at he; cases he
  rw [if_neg h2] at he hf ⊢
  rw [if_neg h2]
  by_cases h3 : (A.getD p 0).toNat = 46 ∧ nameW A (p + 1) ≠ []
  · rw [if_pos h3] at he hf ⊢
    unfold fieldT at hf ⊢
    have hl : (nameW A (p + 1)).length = x.length - 1 := by
      have : p + 1 + (nameW A (p + 1)).length = p + x.length := hf
      omega
    obtain ⟨e1, e2⟩ := hnm h3.2 hl
    have h3' : x.drop 1 ≠ [] := by rw [← e1]; exact h3.2
    rw [if_pos ⟨h3.1, by rw [e2]; exact h3'⟩, e2, e1, hx1, show p' + 1 + (x.length - 1) = p' + x.length by omega]
  rw [if_neg h3] at he hf ⊢
  have h3' : ¬ ((A.getD p 0).toNat = 46 ∧ nameW A' (p' + 1) ≠ []) := by
    rintro ⟨h46, hn⟩
    have hn0 : nameW A (p + 1) = [] := by
      by_cases e : nameW A (p + 1) = []
      · exact e
      · exact absurd ⟨h46, e⟩ h3
    have hle : p' + 1 < A'.length ∧ leB (A'.getD (p' + 1) 0) = true := by
      unfold nameW at hn
      by_cases hh : p' + 1 < A'.length ∧ leB (A'.getD (p' + 1) 0) = true
      · exact hh
      · rw [if_neg hh] at hn; exact absurd rfl hn
    by_cases h1x : 1 < x.length
    · have e1 := gd_app hA h1x
      have e2 := gd_app hA' h1x
      have hln : p + 1 < A.length := by
        have := drop_len hA (by intro e; exact hx (List.append_eq_nil_iff.1 e).1)
        omega
      have hpo := nameW_pos hln (by rw [e1, ← e2]; exact hle.2)
      rw [hn0] at hpo
      simp at hpo
    · obtain ⟨c, r, rfl, _, _, hc⟩ := brk_in hu
      have e2 := gd_behind hA'
      rw [show p' + x.length = p' + 1 by omega] at e2
      rw [e2, hc] at hle
      cases hle.2
  rw [if_neg h3']
  by_cases h4 : dgB (A.getD p 0) = true
  · rw [if_pos h4] at he hf ⊢
    rw [if_pos h4]
    unfold numT16 at he hf ⊢
    by_cases hfo : Pl.formed (cut A p (bhP nuB A p)) = true
    · rw [if_pos hfo] at hf ⊢
      have hbh : bhP nuB A p = p + x.length := hf
      obtain ⟨c, r, rfl, _, hc, _⟩ := brk_in hu
      have hr := run_all hA' (run_in hA (by omega) hbh) hc
      rw [hbh, cut_app hA] at hfo
      rw [hr, cut_app hA', if_pos hfo, hbh, cut_app hA]
    · rw [if_neg hfo] at he; cases he
  rw [if_neg h4] at he hf ⊢
  rw [if_neg h4]
  by_cases h5 : (A.getD p 0).toNat = 34
  · rw [if_pos h5] at he hf ⊢
    rw [if_pos h5]
    exact piece_all hA hA' hx hp he hf
  rw [if_neg h5] at he hf ⊢
  rw [if_neg h5]
  by_cases h6 : (A.getD p 0).toNat = 41 ∧ clsB op = true
  · rw [if_pos h6] at he hf ⊢
    rw [if_pos h6]
    exact piece_all hA hA' hx hp he hf
  rw [if_neg h6] at he hf ⊢
  rw [if_neg h6]
  unfold markT at he hf ⊢
  by_cases hm : mkW A p = []
  · rw [if_pos hm] at he; cases he
  · rw [if_neg hm] at hf ⊢
    have hl : (mkW A p).length = x.length := by
      have : p + (mkW A p).length = p + x.length := hf
      omega
    have hmx : mkW A p = x := by
      have hpre : ∃ k, mkW A p = (A.drop p).take k := by
        unfold mkW
        split
        · exact ⟨3, rfl⟩
        · split
          · exact ⟨2, rfl⟩
          · split
            · exact ⟨1, rfl⟩
            · exact ⟨0, rfl⟩
      obtain ⟨k, hk⟩ := hpre
      rw [hk, hA] at hl ⊢
      rw [List.length_take, List.length_append] at hl
      by_cases hkx : k ≤ x.length
      · rw [List.take_append_of_le_length hkx, show k = x.length by omega, List.take_length]
      · have hu0 : u = [] := List.length_eq_zero_iff.1 (by omega)
        rw [hu0, List.append_nil, List.take_of_length_le (by omega)]
    have e2 := mark_all hA hA' hu hx hmx
    rw [e2, hmx, if_neg hx]

/-- what begins a token -/
theorem tok_first {l : List UInt8} {op : List Nat} {p : Nat} (hp : p < l.length) (he : (tokW l op p).err = 0) : blB (l.getD p 0) = false ∧ (l.getD p 0).toNat ≠ 35 := by
  have key : (l.getD p 0).toNat = 32 ∨ (l.getD p 0).toNat = 9 ∨ (l.getD p 0).toNat = 10 ∨ (l.getD p 0).toNat = 13 ∨ (l.getD p 0).toNat = 35 → False := fun h => by
    have hno : ∀ x ∈ mkL, x.head? ≠ some 32 ∧ x.head? ≠ some 9 ∧ x.head? ≠ some 10 ∧ x.head? ≠ some 13 ∧ x.head? ≠ some 35 := by decide
    have hf : ∀ k, mkB ((l.drop p).take (k + 1)) = false := fun k => by
      cases hb : mkB ((l.drop p).take (k + 1)) with
      | false => rfl
      | true =>
        have hm := List.contains_iff_mem.1 hb
        have hn := hno _ hm
        rw [drop_getD hp] at hn
        have eq5 : ∀ c : UInt8, c.toNat = (l.getD p 0).toNat → l.getD p 0 = c := fun c hc => by apply UInt8.toNat_inj.1; exact hc.symm
        rcases h with h | h | h | h | h
        · exact absurd (by rw [eq5 32 (by rw [h]; rfl)]; rfl) hn.1
        · exact absurd (by rw [eq5 9 (by rw [h]; rfl)]; rfl) hn.2.1
        · exact absurd (by rw [eq5 10 (by rw [h]; rfl)]; rfl) hn.2.2.1
        · exact absurd (by rw [eq5 13 (by rw [h]; rfl)]; rfl) hn.2.2.2.1
        · exact absurd (by rw [eq5 35 (by rw [h]; rfl)]; rfl) hn.2.2.2.2
    have hmk : mkW l p = [] := by
      unfold mkW
      rw [if_neg (by rw [hf 2]; decide), if_neg (by rw [hf 1]; decide), if_neg (by rw [hf 0]; decide)]
    have h1 : leB (l.getD p 0) = false := by unfold leB; exact decide_eq_false (by omega)
    have h4 : dgB (l.getD p 0) = false := by unfold dgB; exact decide_eq_false (by omega)
    unfold tokW at he
    rw [if_neg (by rw [h1]; decide), if_neg (by omega), if_neg (by omega), if_neg (by rw [h4]; decide), if_neg (by omega), if_neg (by omega)] at he
    unfold markT at he
    rw [if_pos hmk] at he
    cases he
  constructor
  · unfold blB
    exact decide_eq_false (fun h => key (by omega))
  · exact fun h => key (by omega)
theorem tok_me {l : List UInt8} {op : List Nat} {p : Nat} (h : (tokW l op p).kind = 8 ∨ (tokW l op p).kind = 9) : (l.getD p 0).toNat = 41 := by
  unfold tokW at h
  split at h
  · unfold nameT at h
    cases ho : ownB (nameW l p) <;> rw [ho] at h <;> simp at h
  · split at h
    · unfold varT at h; split at h <;> simp at h
    · split at h
      · unfold fieldT at h; simp at h
      · split at h
        · unfold numT16 at h; split at h <;> simp at h
        · split at h
          · unfold pieceW at h; split at h
            · split at h <;> simp at h
            · simp at h
          · split at h
            · next g => exact g.1
            · unfold markT at h; split at h <;> simp at h
end Go.Proofs.YtohclfgghobldaaDoor
