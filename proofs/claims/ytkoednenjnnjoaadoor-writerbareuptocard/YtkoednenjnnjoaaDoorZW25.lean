import Derived.Test.YtkoednenjnnjoaaDoorM25
namespace Go.Proofs.YtkoednenjnnjoaaDoor
open Go.RowKit
set_option linter.unusedVariables false
set_option linter.unusedSimpArgs false

/-- what Bare leaves of a text, from inside a literal or not -/
def bareF : Bool → List UInt8 → List UInt8
  | _, [] => []
  | ins, [c] => if (if c = 34 then !ins else ins) = true ∨ (c ≠ 10 ∧ c ≠ 32) then [c] else []
  | ins, c :: d :: r => if ins = true ∧ c = 92 then c :: d :: bareF ins r else (if (if c = 34 then !ins else ins) = true ∨ (c ≠ 10 ∧ c ≠ 32) then [c] else []) ++ bareF (if c = 34 then !ins else ins) (d :: r)
theorem bareF_step (ins : Bool) (c : UInt8) (r : List UInt8) (h : ¬ (ins = true ∧ c = 92)) : bareF ins (c :: r) = (if (if c = 34 then !ins else ins) = true ∨ (c ≠ 10 ∧ c ≠ 32) then [c] else []) ++ bareF (if c = 34 then !ins else ins) r := by
  cases r with
  | nil => simp [bareF]
  | cons d r => rw [bareF, if_neg h]
theorem bareF_esc (d : UInt8) (r : List UInt8) : bareF true (92 :: d :: r) = 92 :: d :: bareF true r := by rw [bareF, if_pos ⟨rfl, rfl⟩]
theorem bareF_in (c : UInt8) (r : List UInt8) (h1 : c ≠ 92) (h2 : c ≠ 34) : bareF true (c :: r) = c :: bareF true r := by
  rw [bareF_step true c r (fun h => h1 h.2), if_neg h2, if_pos (.inl rfl)]; rfl
theorem bareF_out (c : UInt8) (r : List UInt8) (h2 : c ≠ 34) (h3 : c ≠ 10) (h4 : c ≠ 32) : bareF false (c :: r) = c :: bareF false r := by
  rw [bareF_step false c r (fun h => by cases h.1), if_neg h2, if_pos (.inr ⟨h3, h4⟩)]; rfl
theorem bareF_nl (r : List UInt8) : bareF false (10 :: r) = bareF false r := by
  rw [bareF_step false 10 r (fun h => by cases h.1), if_neg (by decide), if_neg (by decide)]; rfl
theorem bareF_sp (r : List UInt8) : bareF false (32 :: r) = bareF false r := by
  rw [bareF_step false 32 r (fun h => by cases h.1), if_neg (by decide), if_neg (by decide)]; rfl
theorem bareF_open (r : List UInt8) : bareF false (34 :: r) = 34 :: bareF true r := by
  rw [bareF_step false 34 r (fun h => by cases h.1), if_pos rfl, if_pos (.inl rfl)]; rfl
theorem bareF_close (r : List UInt8) : bareF true (34 :: r) = 34 :: bareF false r := by
  rw [bareF_step true 34 r (fun h => absurd h.2 (by decide)), if_pos rfl, if_pos (.inr ⟨by decide, by decide⟩)]; rfl
theorem bareF_ins : ∀ (l r : List UInt8), (∀ c ∈ l, c ≠ 92 ∧ c ≠ 34) → bareF true (l ++ r) = l ++ bareF true r
  | [], _, _ => rfl
  | c :: l, r, h => by
    rw [List.cons_append, bareF_in c _ (h c (List.mem_cons_self ..)).1 (h c (List.mem_cons_self ..)).2, bareF_ins l r (fun x hx => h x (List.mem_cons_of_mem _ hx))]; rfl
theorem bareF_outs : ∀ (l r : List UInt8), (∀ c ∈ l, c ≠ 34 ∧ c ≠ 10 ∧ c ≠ 32) → bareF false (l ++ r) = l ++ bareF false r
  | [], _, _ => rfl
  | c :: l, r, h => by
    have hc := h c (List.mem_cons_self ..)
    rw [List.cons_append, bareF_out c _ hc.1 hc.2.1 hc.2.2, bareF_outs l r (fun x hx => h x (List.mem_cons_of_mem _ hx))]; rfl
theorem bareF_sps : ∀ (n : Nat) (r : List UInt8), bareF false (List.replicate n 32 ++ r) = bareF false r
  | 0, _ => rfl
  | n + 1, r => by rw [List.replicate_succ, List.cons_append, bareF_sp, bareF_sps n r]

/-- the bytes of a rune as Quote writes it -/
theorem hx_plain : ∀ n, n < 16 → hx n ≠ 92 ∧ hx n ≠ 34 ∧ 32 ≤ (hx n).toNat ∧ (hx n).toNat < 128 := by decide
theorem sgn_low {z : Nat} {c : UInt8} (h : sgn z = some c) : 32 ≤ c.toNat ∧ c.toNat < 128 := by
  unfold sgn at h
  repeat' split at h
  all_goals first | (cases h; done) | (cases h; decide)
theorem enc_ne {z : Nat} (hz : isR z) (h34 : z ≠ 34) (h92 : z ≠ 92) : ∀ c ∈ enc z, c ≠ 92 ∧ c ≠ 34 := by
  intro c hc
  by_cases h : z < 128
  · have e : enc z = [UInt8.ofNat z] := by unfold enc; rw [if_pos h]
    rw [e] at hc
    obtain rfl := List.mem_singleton.1 hc
    have hn : (UInt8.ofNat z).toNat = z := ofNat_small (by omega)
    constructor
    · intro e1; rw [e1] at hn; exact h92 hn.symm
    · intro e1; rw [e1] at hn; exact h34 hn.symm
  · have hh := enc_high hz (by omega) c hc
    constructor
    · rintro rfl; revert hh; decide
    · rintro rfl; revert hh; decide
theorem sgn_none {z : Nat} (h : sgn z = none) : z ≠ 34 ∧ z ≠ 92 := by
  constructor
  · rintro rfl; cases h
  · rintro rfl; cases h
theorem unit_lt {z : Nat} (h : z < 65536) : ∀ c ∈ [hx (z / 4096), hx (z / 256 % 16), hx (z / 16 % 16), hx (z % 16)], c ≠ 92 ∧ c ≠ 34 ∧ 32 ≤ c.toNat ∧ c.toNat < 128 := by
  intro c hc
  simp only [List.mem_cons, List.not_mem_nil, or_false] at hc
  rcases hc with rfl | rfl | rfl | rfl
  · exact hx_plain _ (by omega)
  · exact hx_plain _ (by omega)
  · exact hx_plain _ (by omega)
  · exact hx_plain _ (by omega)
theorem bare_qd (z : Nat) (hz : isR z) (r : List UInt8) : bareF true (qd z ++ r) = qd z ++ bareF true r := by
  unfold qd
  split
  · exact bareF_esc _ _
  · rename_i hs
    split
    · rename_i h
      show bareF true (92 :: 117 :: ([hx (z / 4096), hx (z / 256 % 16), hx (z / 16 % 16), hx (z % 16)] ++ r)) = _
      rw [bareF_esc, bareF_ins _ _ (fun c hc => ⟨(unit_lt (by omega) c hc).1, (unit_lt (by omega) c hc).2.1⟩)]; rfl
    · exact bareF_ins _ _ (enc_ne hz (sgn_none hs).1 (sgn_none hs).2)
theorem bare_qb : ∀ (zs : List Nat) (r : List UInt8), (∀ z ∈ zs, isR z) → bareF true (qb zs ++ r) = qb zs ++ bareF true r
  | [], _, _ => rfl
  | z :: zs, r, h => by rw [qb_cons, List.append_assoc, bare_qd z (h z (List.mem_cons_self ..)), bare_qb zs r (fun x hx => h x (List.mem_cons_of_mem _ hx)), List.append_assoc]
theorem bare_wQ (l r : List UInt8) : bareF false (wQ l ++ r) = wQ l ++ bareF false r := by
  unfold wQ
  rw [List.cons_append, bareF_open, List.append_assoc, bare_qb _ _ (runes_isR l), List.singleton_append, bareF_close]
  simp

theorem digits_of {l : List UInt8} (h : Pl.formed l = true) : ∀ c ∈ l, c.toNat = 45 ∨ (48 ≤ c.toNat ∧ c.toNat ≤ 57) := by
  intro c hc
  unfold Pl.formed at h
  rcases Bool.or_eq_true_iff.1 h with h1 | h1
  · have e : l = [48] := by simpa using h1
    rw [e] at hc
    obtain rfl := List.mem_singleton.1 hc
    right; decide
  · have key : ∀ m : List UInt8, Pl.plainB m = true → ∀ x ∈ m, 48 ≤ x.toNat ∧ x.toNat ≤ 57 := by
      intro m hm x hx
      cases m with
      | nil => cases hm
      | cons a r =>
        simp only [Pl.plainB, Bool.and_eq_true] at hm
        have := List.all_eq_true.1 hm.2 x hx
        unfold Pl.isDig at this
        simpa using this
    cases l with
    | nil => cases hc
    | cons a r =>
      unfold Pl.body at h1
      split at h1
      · rename_i hn
        rcases List.mem_cons.1 hc with rfl | h2
        · left; simpa [Pl.neg] using hn
        · exact .inr (key _ h1 c h2)
      · exact .inr (key _ h1 c hc)
theorem bare_ln (s d : Nat) (r : List UInt8) : bareF false (lnW (some s) d ++ r) = bareF false r := by
  show bareF false (10 :: (List.replicate (d * s) 32 ++ r)) = _
  rw [bareF_nl, bareF_sps]
theorem bare_join (g g' : Nat → List UInt8) : ∀ (k : Nat), (∀ i, i < k → ∀ r, bareF false (g i ++ r) = g' i ++ bareF false r) → ∀ r, bareF false (joinR g k ++ r) = joinR g' k ++ bareF false r
  | 0, _, _ => rfl
  | k + 1, h, r => by
    simp only [joinR, List.append_assoc]
    rw [bare_join g g' k (fun i hi => h i (by omega)), h k (by omega)]
/-- a laid text without its lines' ends and blanks is the plain one -/
theorem bare_wrV (s : Nat) : ∀ (h d d' : Nat) (T : VT), formN h T = true → ∀ r, bareF false (wrV (some s) h d T ++ r) = wrV none h d' T ++ bareF false r
  | 0, _, _, _, hf, _ => by cases hf
  | h + 1, d, d', T, hf, r => by
    by_cases k0 : T.kind = 0
    · unfold wrV; rw [if_pos k0, if_pos k0]; exact bareF_outs _ _ (by decide)
    by_cases k1 : T.kind = 1
    · unfold wrV; rw [if_neg k0, if_neg k0, if_pos k1, if_pos k1]; exact bareF_outs _ _ (by decide)
    by_cases k2 : T.kind = 2
    · unfold wrV; rw [if_neg k0, if_neg k0, if_neg k1, if_neg k1, if_pos k2, if_pos k2]; exact bareF_outs _ _ (by decide)
    by_cases k3 : T.kind = 3
    · unfold wrV; rw [if_neg k0, if_neg k0, if_neg k1, if_neg k1, if_neg k2, if_neg k2, if_pos k3, if_pos k3]
      refine bareF_outs _ _ (fun c hc => ?_)
      have := digits_of (form_num hf k3) c hc
      refine ⟨?_, ?_, ?_⟩ <;> (rintro rfl; revert this; decide)
    by_cases k4 : T.kind = 4
    · unfold wrV; rw [if_neg k0, if_neg k0, if_neg k1, if_neg k1, if_neg k2, if_neg k2, if_neg k3, if_neg k3, if_pos k4, if_pos k4]
      exact bare_wQ _ _
    have hk56 : T.kind = 5 ∨ T.kind = 6 := by rcases form_kind hf with h1 | h1 <;> omega
    unfold wrV
    rw [if_neg k0, if_neg k0, if_neg k1, if_neg k1, if_neg k2, if_neg k2, if_neg k3, if_neg k3, if_neg k4, if_neg k4]
    have ho : ∀ o : UInt8, o = (if T.kind = 6 then 123 else 91) ∨ o = (if T.kind = 6 then 125 else 93) → o ≠ 34 ∧ o ≠ 10 ∧ o ≠ 32 := by
      intro o h1
      by_cases h6 : T.kind = 6
      · rw [if_pos h6, if_pos h6] at h1; rcases h1 with rfl | rfl <;> decide
      · rw [if_neg h6, if_neg h6] at h1; rcases h1 with rfl | rfl <;> decide
    generalize ho1 : (if T.kind = 6 then (123 : UInt8) else 91) = o at *
    generalize hc1 : (if T.kind = 6 then (125 : UInt8) else 93) = c at *
    have hoo := ho o (.inl rfl)
    have hcc := ho c (.inr rfl)
    unfold rowW
    by_cases hN : T.items.length = 0
    · rw [if_pos hN, if_pos hN]
      exact bareF_outs [o, c] r (fun x hx => by
        rcases (show x = o ∨ x = c by simpa using hx) with rfl | rfl
        · exact hoo
        · exact hcc)
    · rw [if_neg hN, if_neg hN, List.append_assoc]
      rw [bare_join _ (pcW o (lnW none (d' + 1)) (nmV T none) (fun i => (T.items[i]?.map (wrV none h (d' + 1))).getD [])) T.items.length ?_]
      · rw [List.append_assoc, bare_ln, List.singleton_append, bareF_out c r hcc.1 hcc.2.1 hcc.2.2]
        simp [lnW]
      · intro i hil r
        simp only [pcW, List.append_assoc]
        have e1 : bareF false (sepW o i ++ (lnW (some s) (d + 1) ++ (nmV T (some s) i ++ ((T.items[i]?.map (wrV (some s) h (d + 1))).getD [] ++ r)))) = sepW o i ++ bareF false (lnW (some s) (d + 1) ++ (nmV T (some s) i ++ ((T.items[i]?.map (wrV (some s) h (d + 1))).getD [] ++ r))) := by
          refine bareF_outs _ _ (fun x hx => ?_)
          unfold sepW at hx
          split at hx
          · obtain rfl := List.mem_singleton.1 hx; exact hoo
          · obtain rfl := List.mem_singleton.1 hx; decide
        rw [e1, bare_ln]
        have e2 : bareF false (nmV T (some s) i ++ ((T.items[i]?.map (wrV (some s) h (d + 1))).getD [] ++ r)) = nmV T none i ++ bareF false ((T.items[i]?.map (wrV (some s) h (d + 1))).getD [] ++ r) := by
          unfold nmV
          split
          · rw [List.append_assoc, bare_wQ, List.append_assoc]
            congr 1
            show bareF false (58 :: 32 :: _) = _
            rw [bareF_out 58 _ (by decide) (by decide) (by decide), bareF_sp]; rfl
          · rfl
        rw [e2, List.getElem?_eq_getElem hil]
        show sepW o i ++ (nmV T none i ++ bareF false (wrV (some s) h (d + 1) T.items[i] ++ r)) = sepW o i ++ (lnW none (d' + 1) ++ (nmV T none i ++ (wrV none h (d' + 1) T.items[i] ++ bareF false r)))
        rw [bare_wrV s h (d + 1) (d' + 1) T.items[i] (form_items hf hk56 i hil)]
        rfl

/-- UTF-8 without control bytes -/
def goodL (l : List UInt8) : Prop := okB l = true ∧ ∀ c ∈ l, 32 ≤ c.toNat
theorem ok_app {a b : List UInt8} (ha : okB a = true) (hb : okB b = true) : okB (a ++ b) = true := by
  have ea : txt (runes a) = a := by unfold okB at ha; simpa using ha
  have eb : txt (runes b) = b := by unfold okB at hb; simpa using hb
  have e : a ++ b = txt (runes a ++ runes b) := by unfold txt; rw [List.flatMap_append]; exact congr (congrArg _ ea.symm) eb.symm
  rw [e]
  refine ok_txt _ (fun z hz => ?_)
  rcases List.mem_append.1 hz with h | h
  · exact runes_isR a z h
  · exact runes_isR b z h
theorem good_nil : goodL [] := ⟨ok_nil, by simp⟩
theorem good_app {a b : List UInt8} (ha : goodL a) (hb : goodL b) : goodL (a ++ b) := ⟨ok_app ha.1 hb.1, fun c hc => by
  rcases List.mem_append.1 hc with h | h
  · exact ha.2 c h
  · exact hb.2 c h⟩
theorem ok_enc1 (z : Nat) (hz : isR z) : okB (enc z) = true := by
  have := ok_enc z hz []
  rw [List.append_nil, ok_nil] at this
  exact this
theorem good_asc : ∀ (l : List UInt8), (∀ c ∈ l, 32 ≤ c.toNat ∧ c.toNat < 128) → goodL l
  | [], _ => good_nil
  | c :: l, h => by
    have hc := h c (List.mem_cons_self ..)
    have e : enc c.toNat = [c] := by unfold enc; rw [if_pos hc.2]; simp
    have hz : isR c.toNat := .inl (by omega)
    have h1 := ok_enc1 c.toNat hz
    rw [e] at h1
    exact good_app (a := [c]) ⟨h1, fun x hx => by obtain rfl := List.mem_singleton.1 hx; exact hc.1⟩ (good_asc l (fun x hx => h x (List.mem_cons_of_mem _ hx)))
theorem good_qd (z : Nat) (hz : isR z) : goodL (qd z) := by
  unfold qd
  split
  · rename_i c hs
    refine good_asc _ (fun x hx => ?_)
    rcases (show x = 92 ∨ x = c by simpa using hx) with rfl | rfl
    · decide
    · exact sgn_low hs
  · rename_i hs
    split
    · rename_i h
      refine good_asc _ (fun x hx => ?_)
      rcases List.mem_cons.1 hx with rfl | hx
      · decide
      rcases List.mem_cons.1 hx with rfl | hx
      · decide
      exact (unit_lt (by omega) x hx).2.2
    · rename_i h
      refine ⟨ok_enc1 z hz, fun c hc => ?_⟩
      by_cases hl : z < 128
      · have e : enc z = [UInt8.ofNat z] := by unfold enc; rw [if_pos hl]
        rw [e] at hc
        obtain rfl := List.mem_singleton.1 hc
        rw [ofNat_small (by omega)]; omega
      · have := enc_high hz (by omega) c hc; omega
theorem good_qb : ∀ (zs : List Nat), (∀ z ∈ zs, isR z) → goodL (qb zs)
  | [], _ => good_nil
  | z :: zs, h => by rw [qb_cons]; exact good_app (good_qd z (h z (List.mem_cons_self ..))) (good_qb zs (fun x hx => h x (List.mem_cons_of_mem _ hx)))
theorem good_wQ (l : List UInt8) : goodL (wQ l) := by
  have h1 : goodL ([34] : List UInt8) := good_asc _ (by decide)
  have e : wQ l = [34] ++ (qb (runes l) ++ [34]) := rfl
  rw [e]
  exact good_app h1 (good_app (good_qb _ (runes_isR l)) h1)
theorem good_join (g : Nat → List UInt8) : ∀ (k : Nat), (∀ i, i < k → goodL (g i)) → goodL (joinR g k)
  | 0, _ => good_nil
  | k + 1, h => good_app (good_join g k (fun i hi => h i (by omega))) (h k (by omega))
theorem good_wrV : ∀ (h d : Nat) (T : VT), formN h T = true → goodL (wrV none h d T)
  | 0, _, _, hf => by cases hf
  | h + 1, d, T, hf => by
    by_cases k0 : T.kind = 0
    · unfold wrV; rw [if_pos k0]; exact good_asc _ (by decide)
    by_cases k1 : T.kind = 1
    · unfold wrV; rw [if_neg k0, if_pos k1]; exact good_asc _ (by decide)
    by_cases k2 : T.kind = 2
    · unfold wrV; rw [if_neg k0, if_neg k1, if_pos k2]; exact good_asc _ (by decide)
    by_cases k3 : T.kind = 3
    · unfold wrV; rw [if_neg k0, if_neg k1, if_neg k2, if_pos k3]
      refine good_asc _ (fun c hc => ?_)
      have := digits_of (form_num hf k3) c hc
      omega
    by_cases k4 : T.kind = 4
    · unfold wrV; rw [if_neg k0, if_neg k1, if_neg k2, if_neg k3, if_pos k4]; exact good_wQ _
    have hk56 : T.kind = 5 ∨ T.kind = 6 := by rcases form_kind hf with h1 | h1 <;> omega
    unfold wrV
    rw [if_neg k0, if_neg k1, if_neg k2, if_neg k3, if_neg k4]
    have ho : ∀ o : UInt8, o = (if T.kind = 6 then 123 else 91) ∨ o = (if T.kind = 6 then 125 else 93) → 32 ≤ o.toNat ∧ o.toNat < 128 := by
      intro o h1
      by_cases h6 : T.kind = 6
      · rw [if_pos h6, if_pos h6] at h1; rcases h1 with rfl | rfl <;> decide
      · rw [if_neg h6, if_neg h6] at h1; rcases h1 with rfl | rfl <;> decide
    generalize ho1 : (if T.kind = 6 then (123 : UInt8) else 91) = o at *
    generalize hc1 : (if T.kind = 6 then (125 : UInt8) else 93) = c at *
    have hoo := ho o (.inl rfl)
    have hcc := ho c (.inr rfl)
    have hc2 : goodL [c] := good_asc _ (fun x hx => by obtain rfl := List.mem_singleton.1 hx; exact hcc)
    unfold rowW
    split
    · exact good_asc _ (fun x hx => by
        rcases (show x = o ∨ x = c by simpa using hx) with rfl | rfl
        · exact hoo
        · exact hcc)
    · refine good_app (good_join _ _ (fun i hil => ?_)) (good_app good_nil hc2)
      refine good_app (good_app (good_app ?_ good_nil) ?_) ?_
      · unfold sepW
        split
        · exact good_asc _ (fun x hx => by obtain rfl := List.mem_singleton.1 hx; exact hoo)
        · exact good_asc _ (by decide)
      · unfold nmV
        split
        · exact good_app (good_wQ _) (good_asc _ (by decide))
        · exact good_nil
      · show goodL ((T.items[i]?.map (wrV none h (d + 1))).getD [])
        rw [List.getElem?_eq_getElem hil]
        exact good_wrV h (d + 1) T.items[i] (form_items hf hk56 i hil)
end Go.Proofs.YtkoednenjnnjoaaDoor
