import Derived.Test.YtajnaiddcobkiaaGreatDoorM29
namespace Go.Proofs.YtajnaiddcobkiaaGreatDoor
open Go.RowKit
set_option linter.unusedVariables false
set_option linter.unusedSimpArgs false
def Nx (u u' : List UInt8) : Prop := ∃ c r, u' = c :: r ∧ ((c = 32 ∨ c = 10 ∨ c = 35) ∨ ∃ r2, u = c :: r2)
def Lc (u u' : List UInt8) : Prop := ∃ j c r, j ≤ u.length ∧ u' = u.take j ++ c :: r ∧ (c = 32 ∨ c = 10 ∨ c = 35)
theorem Lc.nx {u u' : List UInt8} (h : Lc u u') : Nx u u' := by
 obtain ⟨j, c, r, hj, rfl, hc⟩ := h
 cases j with
 | zero => exact ⟨c, r, rfl, .inl hc⟩
 | succ j =>
  cases u with
  | nil => simp at hj
  | cons d u2 => exact ⟨d, _, rfl, .inr ⟨u2, rfl⟩⟩
theorem brk3 {c : UInt8} (h : c = 32 ∨ c = 10 ∨ c = 35) : inB c = false ∧ nuB c = false ∧ leB c = false := by
 rcases h with rfl | rfl | rfl <;> decide
theorem stop_at {P : UInt8 → Bool} {A x r : List UInt8} {c : UInt8} {p : Nat} (hA : A.drop p = x ++ c :: r) (h : bhP P A p = p + x.length) : P c = false := by
 have hl := drop_len hA (by simp)
 rw [List.length_cons] at hl
 have := bhP_at (P := P) (l := A) A.length p (by omega) (by omega) (by rw [h]; omega)
 rw [h, gd_behind hA] at this
 exact this
theorem name_lc {A A' x u u' : List UInt8} {p p' : Nat} (hA : A.drop p = x ++ u) (hA' : A'.drop p' = x ++ u') (hu : Nx u u') (hx : x ≠ []) (h : nameW A p = x) : nameW A' p' = x := by
 obtain ⟨c, r, rfl, hcc⟩ := hu
 have hpos := List.length_pos_iff.2 hx
 have hl := drop_len hA (by intro e; exact hx (List.append_eq_nil_iff.1 e).1)
 have hl' := drop_len hA' (by simp)
 simp at hl'
 unfold nameW at h
 split at h
 · next hh =>
   have hb := bhP_ge inB (l := A) (p := p) (by omega)
   have hlen : bhP inB A p = p + x.length := by
    have := congrArg List.length h
    rw [cut_len hb.2] at this
    omega
   have hc : inB c = false := by
    rcases hcc with hc | ⟨r2, rfl⟩
    · exact (brk3 hc).1
    · exact stop_at hA hlen
   have h1 := run_in hA (by omega) hlen
   have h2 := run_all hA' h1 hc
   unfold nameW
   have hle : leB (A'.getD p' 0) = true := by
    have e1 := gd_app hA (j := 0) hpos
    have e2 := gd_app hA' (j := 0) hpos
    rw [Nat.add_zero] at e1 e2
    rw [e2, ← e1]; exact hh.2
   rw [if_pos ⟨by omega, hle⟩, h2, cut_app hA']
 · exact absurd h.symm hx
theorem mk_brk3 : ∀ m ∈ mkL, ∀ k, 1 ≤ k → k < m.length → m.getD k 0 ≠ 32 ∧ m.getD k 0 ≠ 10 ∧ m.getD k 0 ≠ 35 := by
 intro m hm k h1 h2
 have hl : ∀ m ∈ mkL, m.length ≤ 3 := by decide
 have h3 := hl m hm
 have hk : k = 1 ∨ k = 2 := by omega
 have hd : ∀ m ∈ mkL, (m.getD 1 0 ≠ 32 ∧ m.getD 1 0 ≠ 10 ∧ m.getD 1 0 ≠ 35) ∧ (m.getD 2 0 ≠ 32 ∧ m.getD 2 0 ≠ 10 ∧ m.getD 2 0 ≠ 35) := by decide
 rcases hk with rfl | rfl
 · exact (hd m hm).1
 · exact (hd m hm).2
theorem mark_lc {A A' x u u' : List UInt8} {p p' : Nat} (hA : A.drop p = x ++ u) (hA' : A'.drop p' = x ++ u') (hu : Lc u u') (hx : x ≠ []) (h : mkW A p = x) : mkW A' p' = x := by
 obtain ⟨j, c, r, hj, rfl, hc⟩ := hu
 have hpos := List.length_pos_iff.2 hx
 have hmk : mkB x = true := by
  unfold mkW at h
  split at h
  · next g => rw [← h]; exact g
  · split at h
    · next g => rw [← h]; exact g
    · split at h
      · next g => rw [← h]; exact g
      · exact absurd h.symm hx
 have hxm := List.contains_iff_mem.1 hmk
 have hl3 : x.length ≤ 3 := by
  have hl : ∀ m ∈ mkL, m.length ≤ 3 := by decide
  exact hl x hxm
 have hno : ∀ k, x.length < k → k ≤ 3 → mkB ((x ++ (u.take j ++ c :: r)).take k) = false := fun k hk hk3 => by
  cases hb : mkB ((x ++ (u.take j ++ c :: r)).take k) with
  | false => rfl
  | true =>
   exfalso
   by_cases hk2 : k ≤ x.length + j
   · have e1 : (x ++ (u.take j ++ c :: r)).take k = (A.drop p).take k := by
      rw [hA, List.take_append, List.take_append, List.take_append, List.take_take, Nat.min_eq_left (by omega)]
      rw [show k - x.length - (u.take j).length = 0 by rw [List.length_take]; omega, List.take_zero, List.append_nil]
     rw [e1] at hb
     have hlen : ((A.drop p).take k).length = k := by rw [List.length_take, hA, List.length_append]; omega
     unfold mkW at h
     have hcs : k = 2 ∨ k = 3 := by omega
     rcases hcs with rfl | rfl
     · split at h
       · next g =>
         have := congrArg List.length h
         rw [List.length_take] at this
         rw [List.length_take] at hlen
         omega
       · (try rw [if_pos hb] at h)
         have := congrArg List.length h
         omega
     · (try rw [if_pos hb] at h)
       have := congrArg List.length h
       omega
   · have hm := List.contains_iff_mem.1 hb
     have hlt : (u.take j).length = j := by rw [List.length_take]; omega
     have hlen : x.length + j < ((x ++ (u.take j ++ c :: r)).take k).length := by
      rw [List.length_take, List.length_append, List.length_append, List.length_cons, hlt]
      omega
     have h1 := mk_brk3 _ hm (x.length + j) (by omega) hlen
     have h2 : ((x ++ (u.take j ++ c :: r)).take k).getD (x.length + j) 0 = c := by
      rw [List.getD, List.getElem?_take_of_lt (by omega), List.getElem?_append_right (by omega), show x.length + j - x.length = j by omega, List.getElem?_append_right (by omega), hlt, Nat.sub_self]
      rfl
     rw [h2] at h1
     rcases hc with rfl | rfl | rfl
     · exact absurd rfl h1.1
     · exact absurd rfl h1.2.1
     · exact absurd rfl h1.2.2
 have htk : (x ++ (u.take j ++ c :: r)).take x.length = x := List.take_left
 unfold mkW
 rw [hA']
 have hcs : x.length = 1 ∨ x.length = 2 ∨ x.length = 3 := by omega
 rcases hcs with e | e | e
 · rw [e] at htk
   rw [if_neg (by rw [hno 3 (by omega) (by omega)]; decide), if_neg (by rw [hno 2 (by omega) (by omega)]; decide), htk, if_pos hmk]
 · rw [e] at htk
   rw [if_neg (by rw [hno 3 (by omega) (by omega)]; decide), htk, if_pos hmk]
 · rw [e] at htk
   rw [htk, if_pos hmk]
theorem tok_lc {A A' x u u' : List UInt8} {p p' : Nat} {op : List Nat} (hp : p < A.length) (he : (tokW A op p).err = 0) (hA : A.drop p = x ++ u) (hf : (tokW A op p).fin = p + x.length) (hA' : A'.drop p' = x ++ u') (hu : Lc u u') :
 tokW A' op p' = ⟨(tokW A op p).kind, p', p' + x.length, (tokW A op p).text, 0⟩ := by
 have hup := tok_up hp he
 have hpos : 0 < x.length := by omega
 have hx : x ≠ [] := List.length_pos_iff.1 hpos
 have hl' := drop_len hA' (by intro e; exact hx (List.append_eq_nil_iff.1 e).1)
 have hp' : p' < A'.length := by omega
 have hb : A'.getD p' 0 = A.getD p 0 := by
  have e1 := gd_app hA (j := 0) hpos
  have e2 := gd_app hA' (j := 0) hpos
  rw [Nat.add_zero] at e1 e2
  rw [e1, e2]
 have hA1 : A.drop (p + 1) = x.drop 1 ++ u := by rw [← List.drop_drop, hA, List.drop_append_of_le_length (by omega)]
 have hA1' : A'.drop (p' + 1) = x.drop 1 ++ u' := by rw [← List.drop_drop, hA', List.drop_append_of_le_length (by omega)]
 have hx1 : (x.drop 1).length = x.length - 1 := List.length_drop
 have hnm : nameW A (p + 1) ≠ [] → (nameW A (p + 1)).length = x.length - 1 → nameW A (p + 1) = x.drop 1 ∧ nameW A' (p' + 1) = x.drop 1 := fun h1 h2 => by
  have e := name_x hA1 h1 (by rw [hx1]; exact h2)
  refine ⟨e, name_lc hA1 hA1' hu.nx ?_ e⟩
  rw [← e]; exact h1
 rw [tok_eq hp] at he hf ⊢
 rw [tok_eq hp']
 unfold tkC at he hf ⊢
 rw [hb]
 by_cases h1 : leB (A.getD p 0) = true
 · rw [if_pos h1] at he hf ⊢
   rw [if_pos h1]
   have hl : (nameW A p).length = x.length := by
    have : p + (nameW A p).length = p + x.length := hf
    omega
   have e1 := name_x hA (by intro e; rw [e] at hl; simp at hl; omega) hl
   have e2 := name_lc hA hA' hu.nx hx e1
   unfold nameT
   rw [e1, e2]
 rw [if_neg h1] at he hf ⊢
 rw [if_neg h1]
 by_cases h2 : (A.getD p 0).toNat = 36
 · rw [if_pos h2] at he hf ⊢
   rw [if_pos h2]
   unfold varT at he hf ⊢
   by_cases hpl : plainW (nameW A (p + 1)) = true
   · rw [if_pos hpl] at hf ⊢
     have hl : (nameW A (p + 1)).length = x.length - 1 := by
      have : p + 1 + (nameW A (p + 1)).length = p + x.length := hf
      omega
     obtain ⟨e1, e2⟩ := hnm (fun e => by rw [e] at hpl; exact absurd hpl (by decide)) hl
     rw [e1] at hpl
     rw [e2, e1, if_pos hpl, hx1, show p' + 1 + (x.length - 1) = p' + x.length by omega]
   · rw [if_neg hpl] at he; cases he
 rw [if_neg h2] at he hf ⊢
 rw [if_neg h2]
 by_cases h3 : (A.getD p 0).toNat = 46 ∧ nameW A (p + 1) ≠ []
 · rw [if_pos h3] at he hf ⊢
   unfold fieldT at hf ⊢
   have hl : (nameW A (p + 1)).length = x.length - 1 := by
    have : p + 1 + (nameW A (p + 1)).length = p + x.length := hf
    omega
   obtain ⟨e1, e2⟩ := hnm h3.2 hl
   have h3' : x.drop 1 ≠ [] := by rw [← e1]; exact h3.2
   rw [if_pos ⟨h3.1, by rw [e2]; exact h3'⟩, e2, e1, hx1, show p' + 1 + (x.length - 1) = p' + x.length by omega]
 rw [if_neg h3] at he hf ⊢
 have h3' : ¬ ((A.getD p 0).toNat = 46 ∧ nameW A' (p' + 1) ≠ []) := by
  rintro ⟨h46, hn⟩
  have hn0 : nameW A (p + 1) = [] := by
   by_cases e : nameW A (p + 1) = []
   · exact e
   · exact absurd ⟨h46, e⟩ h3
  have hle : p' + 1 < A'.length ∧ leB (A'.getD (p' + 1) 0) = true := by
   unfold nameW at hn
   by_cases hh : p' + 1 < A'.length ∧ leB (A'.getD (p' + 1) 0) = true
   · exact hh
   · rw [if_neg hh] at hn; exact absurd rfl hn
  by_cases h1x : 1 < x.length
  · have e1 := gd_app hA h1x
    have e2 := gd_app hA' h1x
    have hln : p + 1 < A.length := by
     have := drop_len hA (by intro e; exact hx (List.append_eq_nil_iff.1 e).1)
     omega
    have hpo := nameW_pos hln (by rw [e1, ← e2]; exact hle.2)
    rw [hn0] at hpo
    simp at hpo
  · obtain ⟨c, r, rfl, hc⟩ := hu.nx
    have e2 := gd_behind hA'
    rw [show p' + x.length = p' + 1 by omega] at e2
    rw [e2] at hle
    rcases hc with hc | ⟨r2, rfl⟩
    · rw [(brk3 hc).2.2] at hle
      cases hle.2
    · have e1 := gd_behind hA
      have hln := drop_len hA (by simp)
      rw [List.length_cons] at hln
      rw [show p + x.length = p + 1 by omega] at e1
      have hpo := nameW_pos (l := A) (p := p + 1) (by omega) (by rw [e1]; exact hle.2)
      rw [hn0] at hpo
      simp at hpo
 rw [if_neg h3']
 by_cases h4 : dgB (A.getD p 0) = true
 · rw [if_pos h4] at he hf ⊢
   rw [if_pos h4]
   unfold numT16 at he hf ⊢
   by_cases hfo : Pl.formed (cut A p (bhP nuB A p)) = true
   · rw [if_pos hfo] at hf ⊢
     have hbh : bhP nuB A p = p + x.length := hf
     obtain ⟨c, r, rfl, hcc⟩ := hu.nx
     have hc : nuB c = false := by
      rcases hcc with hc | ⟨r2, rfl⟩
      · exact (brk3 hc).2.1
      · exact stop_at hA hbh
     have hr := run_all hA' (run_in hA (by omega) hbh) hc
     rw [hbh, cut_app hA] at hfo
     rw [hr, cut_app hA', if_pos hfo, hbh, cut_app hA]
   · rw [if_neg hfo] at he; cases he
 rw [if_neg h4] at he hf ⊢
 rw [if_neg h4]
 by_cases h5 : (A.getD p 0).toNat = 34
 · rw [if_pos h5] at he hf ⊢
   rw [if_pos h5]
   exact piece_all hA hA' hx hp he hf
 rw [if_neg h5] at he hf ⊢
 rw [if_neg h5]
 by_cases h6 : (A.getD p 0).toNat = 41 ∧ clsB op = true
 · rw [if_pos h6] at he hf ⊢
   rw [if_pos h6]
   exact piece_all hA hA' hx hp he hf
 rw [if_neg h6] at he hf ⊢
 rw [if_neg h6]
 unfold markT at he hf ⊢
 by_cases hm : mkW A p = []
 · rw [if_pos hm] at he; cases he
 · rw [if_neg hm] at hf ⊢
   have hl : (mkW A p).length = x.length := by
    have : p + (mkW A p).length = p + x.length := hf
    omega
   have hmx : mkW A p = x := by
    have hpre : ∃ k, mkW A p = (A.drop p).take k := by
     unfold mkW
     split
     · exact ⟨3, rfl⟩
     · split
       · exact ⟨2, rfl⟩
       · split
         · exact ⟨1, rfl⟩
         · exact ⟨0, rfl⟩
    obtain ⟨k, hk⟩ := hpre
    rw [hk, hA] at hl ⊢
    rw [List.length_take, List.length_append] at hl
    by_cases hkx : k ≤ x.length
    · rw [List.take_append_of_le_length hkx, show k = x.length by omega, List.take_length]
    · have hu0 : u = [] := List.length_eq_zero_iff.1 (by omega)
      rw [hu0, List.append_nil, List.take_of_length_le (by omega)]
   have e2 := mark_lc hA hA' hu hx hmx
   rw [e2, hmx, if_neg hx]
def brL (l : List UInt8) : List UInt8 := 40 :: (l ++ [10, 41])
theorem br_len (l : List UInt8) : (brL l).length = l.length + 3 := by unfold brL; simp
theorem br_get {l : List UInt8} {q : Nat} (h : q < l.length) : (brL l).getD (q + 1) 0 = l.getD q 0 := by
 unfold brL
 rw [List.getD_cons_succ, gd_left h]
theorem br_drop {l : List UInt8} {q : Nat} (h : q ≤ l.length) : (brL l).drop (q + 1) = l.drop q ++ [10, 41] := by
 unfold brL
 rw [List.drop_succ_cons, List.drop_append_of_le_length h]
theorem br_nl (l : List UInt8) : (brL l).getD (l.length + 1) 0 = 10 := by
 unfold brL
 rw [List.getD_cons_succ, gd_at]
theorem br_cl (l : List UInt8) : (brL l).getD (l.length + 2) 0 = 41 := by
 unfold brL
 rw [show l.length + 2 = l.length + 1 + 1 from rfl, List.getD_cons_succ, gd_at1]
theorem br_run (l : List UInt8) : ∀ (n q : Nat), l.length - q ≤ n → q ≤ l.length → bhP rmB (brL l) (q + 1) = bhP rmB l q + 1 := by
 intro n
 induction n with
 | zero =>
  intro q hn hq
  rw [show q = l.length by omega, bhP_end, bhP_stop (by rw [br_len]; omega) (by rw [br_nl]; decide)]
 | succ n ih =>
  intro q hn hq
  by_cases h : q < l.length
  · cases hr : rmB (l.getD q 0) with
    | true =>
     rw [bhP_step h hr, bhP_step (l := brL l) (by rw [br_len]; omega) (by rw [br_get h]; exact hr)]
     exact ih (q + 1) (by omega) (by omega)
    | false => rw [bhP_stop h hr, bhP_stop (l := brL l) (by rw [br_len]; omega) (by rw [br_get h]; exact hr)]
  · rw [show q = l.length by omega, bhP_end, bhP_stop (by rw [br_len]; omega) (by rw [br_nl]; decide)]
theorem br_id (l : List UInt8) : ∀ (n q : Nat), l.length - q ≤ n → q ≤ l.length → idW (brL l) (q + 1) = if idW l q < l.length then idW l q + 1 else l.length + 2 := by
 have hend : idW (brL l) (l.length + 1) = l.length + 2 := by
  rw [idn_blank (by rw [br_len]; omega) (by rw [br_nl]; decide), idn_stop (by rw [br_len]; omega) (by rw [br_cl]; decide) (by rw [br_cl]; decide)]
 intro n
 induction n with
 | zero =>
  intro q hn hq
  rw [show q = l.length by omega, idn_end, if_neg (by omega), hend]
 | succ n ih =>
  intro q hn hq
  by_cases h : q < l.length
  · have hb : q + 1 < (brL l).length := by rw [br_len]; omega
    by_cases h1 : blB (l.getD q 0) = true
    · rw [idn_blank h h1, idn_blank hb (by rw [br_get h]; exact h1)]
      exact ih (q + 1) (by omega) (by omega)
    · rw [Bool.not_eq_true] at h1
      by_cases h2 : (l.getD q 0).toNat = 35
      · have hg := bhP_gt (P := rmB) h (by unfold rmB; rw [h2]; rfl)
        have hge := bhP_ge rmB (l := l) (p := q) hq
        rw [idn_rem h h2, idn_rem hb (by rw [br_get h]; exact h2), br_run l _ q (Nat.le_refl _) hq]
        exact ih _ (by omega) hge.2
      · rw [idn_stop h h1 h2, idn_stop hb (by rw [br_get h]; exact h1) (by rw [br_get h]; exact h2), if_pos h]
  · rw [show q = l.length by omega, idn_end, if_neg (by omega), hend]
def shT1 (t : Tok) : Tok := ⟨t.kind, t.at_ + 1, t.fin + 1, t.text, 0⟩
def clT (l : List UInt8) : Tok := ⟨10, l.length + 2, l.length + 3, [41], 0⟩
theorem br_close (l : List UInt8) (F : Nat) (hF : 1 < F) : scF (brL l) F (l.length + 2) [] = [clT l] := by
 obtain ⟨F, rfl⟩ : ∃ f, F = f + 1 + 1 := ⟨F - 2, by omega⟩
 have hd : (brL l).drop (l.length + 2) = [41] := by
  rw [show l.length + 2 = l.length + 1 + 1 from rfl]
  unfold brL
  rw [List.drop_succ_cons, ← List.drop_drop, List.drop_left]
  rfl
 have ht : tokW (brL l) [] (l.length + 2) = clT l := by
  unfold tokW
  rw [br_cl]
  rw [if_neg (by decide), if_neg (by decide), if_neg (fun e => absurd e.1 (by decide)), if_neg (by decide), if_neg (by decide), if_neg (by decide)]
  unfold markT mkW
  rw [hd]
  rfl
 rw [scF, if_pos (by rw [br_len]; omega), ht, if_pos (show (clT l).err = 0 from rfl)]
 rw [show idW (brL l) (clT l).fin = l.length + 3 by
  show idW (brL l) (l.length + 3) = _
  rw [show l.length + 3 = (brL l).length by rw [br_len], idn_end]]
 rw [show openW (clT l) [] = [] from rfl, scF, if_neg (by rw [br_len]; omega), if_pos rfl]
theorem br_rest (l : List UInt8) : ∀ (f q : Nat) (op : List Nat), q ≤ l.length → l.length - q < f → (∀ t ∈ scF l f (idW l q) op, t.err = 0) → ∀ F, l.length + 2 - q < F → scF (brL l) F (idW (brL l) (q + 1)) op = (scF l f (idW l q) op).map shT1 ++ [clT l]
 | 0, q, op, hq, hf, _, F, hF => by omega
 | f + 1, q, op, hq, hf, h, F, hF => by
  have hid := idW_ge hq
  rw [br_id l _ q (Nat.le_refl _) hq]
  by_cases hp : idW l q < l.length
  · rw [if_pos hp]
    generalize idW l q = p at *
    by_cases he : (tokW l op p).err = 0
    · obtain ⟨e1, e2, e3⟩ := tok_up hp he
      have hT : tokW (brL l) op (p + 1) = ⟨(tokW l op p).kind, p + 1, p + 1 + ((tokW l op p).fin - p), (tokW l op p).text, 0⟩ := by
       have hcut : l.drop p = (l.drop p).take ((tokW l op p).fin - p) ++ (l.drop p).drop ((tokW l op p).fin - p) := (List.take_append_drop _ _).symm
       have hlen : ((l.drop p).take ((tokW l op p).fin - p)).length = (tokW l op p).fin - p := by rw [List.length_take, List.length_drop]; omega
       have := tok_lc (A := l) (A' := brL l) (p' := p + 1) (x := (l.drop p).take ((tokW l op p).fin - p)) (u := (l.drop p).drop ((tokW l op p).fin - p)) (u' := (l.drop p).drop ((tokW l op p).fin - p) ++ [10, 41]) hp he hcut (by rw [hlen]; omega) (by rw [br_drop (by omega), ← List.append_assoc, List.take_append_drop]) ⟨((l.drop p).drop ((tokW l op p).fin - p)).length, 10, [41], Nat.le_refl _, by rw [List.take_length], .inr (.inl rfl)⟩
       rw [hlen] at this
       exact this
      rw [scF, if_pos hp, if_pos he] at h ⊢
      obtain ⟨F, rfl⟩ : ∃ g, F = g + 1 := ⟨F - 1, by omega⟩
      rw [scF, if_pos (by rw [br_len]; omega), hT, if_pos rfl]
      rw [show openW ⟨(tokW l op p).kind, p + 1, p + 1 + ((tokW l op p).fin - p), (tokW l op p).text, 0⟩ op = openW (tokW l op p) op from rfl]
      show _ :: scF (brL l) F (idW (brL l) (p + 1 + ((tokW l op p).fin - p))) _ = _
      rw [show p + 1 + ((tokW l op p).fin - p) = (tokW l op p).fin + 1 by omega]
      rw [br_rest l f (tokW l op p).fin (openW (tokW l op p) op) e3 (by omega) (fun t ht => h t (List.mem_cons_of_mem _ ht)) F (by omega)]
      rw [List.map_cons, List.cons_append]
      congr 1
      unfold shT1
      rw [e1]
    · rw [scF, if_pos hp, if_neg he] at h
      exact absurd (h _ mcS) he
  · rw [if_neg hp]
    rw [scF, if_neg hp] at h ⊢
    by_cases ho : op = []
    · rw [if_pos ho, ho]
      exact br_close l F (by omega)
    · rw [if_neg ho] at h
      exact absurd (h _ mcS) (show ¬ (21 = 0) by decide)
def opT : Tok := ⟨10, 0, 1, [40], 0⟩
theorem br_sc {l : List UInt8} (h : ∀ t ∈ scW l, t.err = 0) : scW (brL l) = opT :: ((scW l).map shT1 ++ [clT l]) := by
 unfold scW at h ⊢
 have h0 : (brL l).getD 0 0 = 40 := rfl
 have hi : idW (brL l) 0 = 0 := idn_stop (by rw [br_len]; omega) (by rw [h0]; decide) (by rw [h0]; decide)
 have ht : tokW (brL l) [] 0 = opT := by
  unfold tokW
  rw [h0]
  rw [if_neg (by decide), if_neg (by decide), if_neg (fun e => absurd e.1 (by decide)), if_neg (by decide), if_neg (by decide), if_neg (by decide)]
  have hm : ∀ m ∈ mkL, m.getD 0 0 = 40 → m = [40] := by decide
  have hk : ∀ k, 1 < k → 1 < ((brL l).take k).length → mkB ((brL l).take k) = false := fun k hk hl => by
   cases hb : mkB ((brL l).take k) with
   | false => rfl
   | true =>
    have := hm _ (List.contains_iff_mem.1 hb) (by
     obtain ⟨k, rfl⟩ : ∃ j, k = j + 1 := ⟨k - 1, by omega⟩
     rfl)
    rw [this] at hl
    simp at hl
  have hmw : mkW (brL l) 0 = [40] := by
   unfold mkW
   rw [List.drop_zero, if_neg (by rw [hk 3 (by decide) (by rw [List.length_take, br_len]; omega)]; decide), if_neg (by rw [hk 2 (by decide) (by rw [List.length_take, br_len]; omega)]; decide)]
   rfl
  unfold markT
  rw [hmw]
  rfl
 rw [hi, scF, if_pos (by rw [br_len]; omega), ht, if_pos (show opT.err = 0 from rfl)]
 rw [show openW opT [] = [] from rfl]
 show _ :: scF (brL l) (brL l).length (idW (brL l) (0 + 1)) [] = _
 rw [br_rest l (l.length + 1) 0 [] (Nat.zero_le _) (by omega) h _ (by rw [br_len]; omega)]
end Go.Proofs.YtajnaiddcobkiaaGreatDoor
