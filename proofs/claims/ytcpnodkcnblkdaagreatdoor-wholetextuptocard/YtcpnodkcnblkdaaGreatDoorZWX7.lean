import Derived.Test.YtcpnodkcnblkdaaGreatDoorM43
import Derived.Test.YtcpnodkcnblkdaaGreatDoorX0
namespace Go.Proofs.YtcpnodkcnblkdaaGreatDoor
open Go.RowKit Go.Shelf
set_option linter.unusedVariables false
set_option linter.unusedSimpArgs false

def PartBad {σ : Type} (l : List UInt8) (pt : σ → Tok → Nat → Rd σ) (x0 : σ) (e : List UInt8) (c : Nat) : Prop := ∀ x y, l = x ++ (e ++ y) → Sp y → ∃ t p1, mustL l x.length = .ok t p1 ∧ t.kind ≠ 2 ∧ t.kind ≠ 4 ∧ ∃ q, pt x0 t p1 = .bad c q
theorem loop_bad {σ : Type} {l : List UInt8} {pt : σ → Tok → Nat → Rd σ} {c : UInt8} {cl cd : Nat} {ln1 ln0 : List UInt8} (hcl : (c = 93 ∧ cl = 4) ∨ (c = 125 ∧ cl = 2)) (h1 : ∀ b ∈ ln1, cBl.contains b = true) (h0 : ∀ b ∈ ln0, cBl.contains b = true) (hw : ∀ b, cBl.contains b = true → cWd.contains b = false ∧ cNm.contains b = false) {x0 x1 : σ} {es : List (List UInt8)} (hP : PartsR l pt x0 es x1) {e : List UInt8} {fs : List (List UInt8)} (hB : PartBad l pt x1 e cd) :
    ∀ (n : Nat) (x y : List UInt8), l = x ++ (tlW c ln1 ln0 (es ++ e :: fs) ++ y) → es.length < n → ∃ q, loopL l cl pt n x0 x.length = .bad cd q := by
  have hc : cWd.contains c = false ∧ cNm.contains c = false := by rcases hcl with ⟨rfl, _⟩ | ⟨rfl, _⟩ <;> exact ⟨by decide +kernel, by decide +kernel⟩
  have hcl6 : ¬ 6 = cl := by rcases hcl with ⟨_, rfl⟩ | ⟨_, rfl⟩ <;> omega
  have step : ∀ (x y e : List UInt8) (es : List (List UInt8)), l = x ++ (tlW c ln1 ln0 (e :: es) ++ y) → mustL l x.length = .ok ⟨6, x.length + 0, x.length + 0 + 1, [], 0⟩ (x.length + 0 + 1) ∧ l = (x ++ 44 :: ln1) ++ (e ++ (tlW c ln1 ln0 es ++ y)) ∧ l = (x ++ 44 :: (ln1 ++ e)) ++ (tlW c ln1 ln0 es ++ y) ∧ mustL l (x.length + 0 + 1) = mustL l (x ++ 44 :: ln1).length := by
    intro x y e es hl
    have hl' : l = x ++ ([] ++ 44 :: (ln1 ++ (e ++ (tlW c ln1 ln0 es ++ y)))) := by rw [hl]; simp [tlW]
    have hm : mustL l x.length = .ok ⟨6, x.length + 0, x.length + 0 + 1, [], 0⟩ (x.length + 0 + 1) := by
      rw [hl']
      have := must_mark (x := x) (y := ln1 ++ (e ++ (tlW c ln1 ln0 es ++ y))) (b := []) 44 (fun c hc => by cases hc) (by decide) (by decide)
      rw [kind_c6] at this; exact this
    have hl2 : l = (x ++ [44]) ++ (ln1 ++ (e ++ (tlW c ln1 ln0 es ++ y))) := by rw [hl']; simp
    have hsk := must_skip (x := x ++ [44]) (b := ln1) (y := e ++ (tlW c ln1 ln0 es ++ y)) h1
    rw [← hl2] at hsk
    have hlen : (x ++ [44]).length + ln1.length = (x ++ 44 :: ln1).length := by simp; omega
    rw [hlen] at hsk
    have hx1 : x.length + 0 + 1 = (x ++ [44]).length := by simp
    exact ⟨hm, by rw [hl']; simp, by rw [hl']; simp, by rw [hx1]; exact hsk⟩
  induction hP with
  | nil x0 =>
    intro n x y hl hn
    obtain ⟨n, rfl⟩ : ∃ m, n = m + 1 := ⟨n - 1, by omega⟩
    obtain ⟨hm, hl3, hl4, hsk⟩ := step x y e fs hl
    obtain ⟨t, p1, m1, k2, k4, q, hpt⟩ := hB _ _ hl3 (tl_sp hc h0 hw fs y)
    rw [m1] at hsk
    refine ⟨q, ?_⟩
    rw [loopL, hm]
    dsimp only
    rw [if_neg hcl6, if_pos rfl, hsk]
    dsimp only
    rw [hpt]
  | cons hp hps ih =>
    rename_i x0 x1 x2 e1 es
    intro n x y hl hn
    rw [List.length_cons] at hn
    obtain ⟨n, rfl⟩ : ∃ m, n = m + 1 := ⟨n - 1, by omega⟩
    obtain ⟨hm, hl3, hl4, hsk⟩ := step x y e1 (es ++ e :: fs) hl
    obtain ⟨t, p1, m1, k2, k4, hpt⟩ := hp _ _ hl3 (tl_sp hc h0 hw (es ++ e :: fs) y)
    rw [m1] at hsk
    obtain ⟨q, hr⟩ := ih hB n _ _ hl4 (by omega)
    refine ⟨q, ?_⟩
    rw [loopL, hm]
    dsimp only
    rw [if_neg hcl6, if_pos rfl, hsk]
    dsimp only
    rw [hpt]
    dsimp only
    have hq : (x ++ 44 :: ln1).length + e1.length = (x ++ 44 :: (ln1 ++ e1)).length := by simp; omega
    rw [hq]
    exact hr
theorem row_bad {σ : Type} {l : List UInt8} {pt : σ → Tok → Nat → Rd σ} {o c : UInt8} {cl cd : Nat} {ln1 ln0 : List UInt8} (hcl : (c = 93 ∧ cl = 4) ∨ (c = 125 ∧ cl = 2)) (h1 : ∀ b ∈ ln1, cBl.contains b = true) (h0 : ∀ b ∈ ln0, cBl.contains b = true) (hw : ∀ b, cBl.contains b = true → cWd.contains b = false ∧ cNm.contains b = false) {x0 x1 : σ} {es : List (List UInt8)} (hP : PartsR l pt x0 es x1) {e : List UInt8} {fs : List (List UInt8)} (hB : PartBad l pt x1 e cd)
    (x y : List UInt8) (hl : l = x ++ (rwT o c ln1 ln0 (es ++ e :: fs) ++ y)) : ∃ q, rowL l cl pt x0 (x.length + 1) = .bad cd q := by
  have hc : cWd.contains c = false ∧ cNm.contains c = false := by rcases hcl with ⟨rfl, _⟩ | ⟨rfl, _⟩ <;> exact ⟨by decide +kernel, by decide +kernel⟩
  have hxo : x.length + 1 = (x ++ [o]).length := by simp
  have hkc : ∀ t : Tok, t.kind ≠ 2 → t.kind ≠ 4 → ¬ t.kind = cl := by intro t a b; rcases hcl with ⟨_, rfl⟩ | ⟨_, rfl⟩ <;> assumption
  have first : ∀ (e : List UInt8) (es : List (List UInt8)), l = x ++ (rwT o c ln1 ln0 (e :: es) ++ y) → l = (x ++ o :: ln1) ++ (e ++ (tlW c ln1 ln0 es ++ y)) ∧ l = (x ++ o :: (ln1 ++ e)) ++ (tlW c ln1 ln0 es ++ y) ∧ mustL l (x ++ [o]).length = mustL l (x ++ o :: ln1).length := by
    intro e es hl
    have hl2 : l = (x ++ [o]) ++ (ln1 ++ (e ++ (tlW c ln1 ln0 es ++ y))) := by rw [hl]; simp [rwT]
    have hsk := must_skip (x := x ++ [o]) (b := ln1) (y := e ++ (tlW c ln1 ln0 es ++ y)) h1
    rw [← hl2] at hsk
    have hlen : (x ++ [o]).length + ln1.length = (x ++ o :: ln1).length := by simp; omega
    rw [hlen] at hsk
    exact ⟨by rw [hl]; simp [rwT], by rw [hl]; simp [rwT], hsk⟩
  cases hP with
  | nil =>
    obtain ⟨hl3, hl4, hsk⟩ := first e fs hl
    obtain ⟨t, p1, m1, k2, k4, q, hpt⟩ := hB _ _ hl3 (tl_sp hc h0 hw fs y)
    rw [m1] at hsk
    refine ⟨q, ?_⟩
    unfold rowL
    rw [hxo, hsk]
    dsimp only
    rw [if_neg (hkc t k2 k4), hpt]
  | cons hp hps =>
    rename_i x1' e1 es
    obtain ⟨hl3, hl4, hsk⟩ := first e1 (es ++ e :: fs) hl
    obtain ⟨t, p1, m1, k2, k4, hpt⟩ := hp _ _ hl3 (tl_sp hc h0 hw (es ++ e :: fs) y)
    rw [m1] at hsk
    have hn : es.length < l.length + 1 := by
      have h3 := tl_len c ln1 ln0 (es ++ e :: fs)
      have h4 : (tlW c ln1 ln0 (es ++ e :: fs)).length ≤ l.length := by rw [hl4]; simp only [List.length_append]; omega
      rw [List.length_append] at h3
      omega
    obtain ⟨q, hr⟩ := loop_bad hcl h1 h0 hw hps hB (l.length + 1) _ _ hl4 hn
    refine ⟨q, ?_⟩
    unfold rowL
    rw [hxo, hsk]
    dsimp only
    rw [if_neg (hkc t k2 k4), hpt]
    dsimp only
    have hq : (x ++ o :: ln1).length + e1.length = (x ++ o :: (ln1 ++ e1)).length := by simp; omega
    rw [hq]
    exact hr
theorem first_not {α : Type} (P : α → Prop) : ∀ l : List α, (∃ x ∈ l, ¬ P x) → ∃ a x b, l = a ++ x :: b ∧ (∀ y ∈ a, P y) ∧ ¬ P x
  | [], h => by obtain ⟨x, hx, _⟩ := h; cases hx
  | y :: l, h => by
    by_cases hy : P y
    · obtain ⟨a, x, b, e, h1, h2⟩ := first_not P l (by
        obtain ⟨x, hx, hn⟩ := h
        rcases List.mem_cons.1 hx with rfl | hx
        · exact absurd hy hn
        · exact ⟨x, hx, hn⟩)
      exact ⟨y :: a, x, b, by rw [e]; rfl, by
        intro z hz
        rcases List.mem_cons.1 hz with rfl | hz
        · exact hy
        · exact h1 z hz, h2⟩
    · exact ⟨[], y, l, rfl, (fun z hz => by cases hz), hy⟩
theorem mx_has (f : VT → Nat) : ∀ (l : List VT) (k : Nat), k < mxL (l.map f) → ∃ x ∈ l, ¬ f x ≤ k
  | [], k, h => by simp [mxL] at h
  | a :: r, k, h => by
    rw [List.map_cons] at h
    unfold mxL at h
    by_cases ha : f a ≤ k
    · obtain ⟨x, hx, hn⟩ := mx_has f r k (by omega)
      exact ⟨x, List.mem_cons_of_mem _ hx, hn⟩
    · exact ⟨a, List.mem_cons_self .., ha⟩
end Go.Proofs.YtcpnodkcnblkdaaGreatDoor
namespace Go.Proofs.YtcpnodkcnblkdaaGreatDoor
open Go.RowKit Go.Shelf
set_option linter.unusedVariables false
set_option linter.unusedSimpArgs false

def Refused (l : List UInt8) (vl : Tok → Nat → Rd VT) (tx : List UInt8) : Prop := ∀ x y, l = x ++ (tx ++ y) → Sp y → ∃ t p1, mustL l x.length = .ok t p1 ∧ t.kind ≠ 2 ∧ t.kind ≠ 4 ∧ ∃ q, vl t p1 = .bad 52 q
theorem bad_arr {l : List UInt8} {vl : Tok → Nat → Rd VT} {xs : List VT} {e : List UInt8} (h : Refused l vl e) : PartBad l (aPt vl) xs e 52 := by
  intro x y hl hy
  obtain ⟨t, p1, m, k2, k4, q, hq⟩ := h x y hl hy
  refine ⟨t, p1, m, k2, k4, q, ?_⟩
  unfold aPt
  rw [hq]
theorem bad_obj {l : List UInt8} {vl : Tok → Nat → Rd VT} {cl : List UInt8} (hcl : ∀ b ∈ cl, cBl.contains b = true) {fs : List (List UInt8 × VT)} {p : FldT} (h : Refused l vl p.tx) (hk : okB p.key = true) (hf : ∀ f ∈ fs, f.1 ≠ p.key) : PartBad l (oPt l vl) fs (FldT.text cl p) 52 := by
  intro x y hl hy
  have hl1 : l = x ++ (wL p.key ++ (58 :: (cl ++ (p.tx ++ y)))) := by rw [hl]; simp [FldT.text]
  have m1 := must_tok (x := x) (tk := wL p.key) (y := 58 :: (cl ++ (p.tx ++ y))) (by simp [wL, List.getD]; decide) (by simp [wL]) (next_lit p.key _ hk)
  rw [← hl1] at m1
  have hl2 : l = (x ++ wL p.key) ++ ([] ++ 58 :: (cl ++ (p.tx ++ y))) := by rw [hl1]; simp
  have m2 := must_mark (x := x ++ wL p.key) (y := cl ++ (p.tx ++ y)) (b := []) 58 (fun c hc => by cases hc) (by decide) (by decide)
  rw [← hl2, kind_c5] at m2
  have hl3 : l = (x ++ (wL p.key ++ [58])) ++ (cl ++ (p.tx ++ y)) := by rw [hl1]; simp
  have hl4 : l = (x ++ (wL p.key ++ 58 :: cl)) ++ (p.tx ++ y) := by rw [hl1]; simp
  obtain ⟨t, p1, m3, k2, k4, q, hv⟩ := h _ _ hl4 hy
  have hsk := must_skip (x := x ++ (wL p.key ++ [58])) (b := cl) (y := p.tx ++ y) hcl
  rw [← hl3] at hsk
  have hlen : (x ++ (wL p.key ++ [58])).length + cl.length = (x ++ (wL p.key ++ 58 :: cl)).length := by simp; omega
  rw [hlen, m3] at hsk
  have hany : fs.any (fun f => f.1 == p.key) = false := by
    rw [List.any_eq_false]
    intro f hfm
    have := hf f hfm
    simpa using this
  refine ⟨_, _, m1, by show 11 ≠ 2; omega, by show 11 ≠ 4; omega, q, ?_⟩
  unfold oPt
  dsimp only
  rw [if_pos rfl, if_neg (by rw [hany]; decide)]
  have e1 : x.length + (wL p.key).length = (x ++ wL p.key).length := by simp
  have e2 : (x ++ wL p.key).length + ([] : List UInt8).length + 1 = (x ++ (wL p.key ++ [58])).length := by simp; omega
  rw [e1, m2]
  dsimp only
  rw [if_pos rfl, e2, hsk]
  dsimp only
  rw [hv]
theorem wr_deep (st : Option Nat) : ∀ (H : Nat) (T : VT), formN H T = true → ShV H T → ∀ (d0 f d : Nat) (l : List UInt8), f < dpN H T → f + d = 65 → Refused l (valL l (obL l) f d) (wrV st H d0 T)
  | 0, T, hf, _, _, _, _, _, _, _ => by cases hf
  | H + 1, T, hf, hs, d0, f, d, l, hd, hfd => by
    intro x y hl hy
    rcases form_open hf with (rfl | rfl | rfl) | ⟨n, rfl, hn⟩ | ⟨t, rfl, ht⟩ | ⟨i, rfl, hi⟩ | ⟨i, ks, rfl, hlen, hr, ho, hi⟩
    · exact absurd hd (by show ¬ f < 0; omega)
    · exact absurd hd (by show ¬ f < 0; omega)
    · exact absurd hd (by show ¬ f < 0; omega)
    · exact absurd hd (by show ¬ f < 0; omega)
    · exact absurd hd (by show ¬ f < 0; omega)
    · have hd1 : f < 1 + mxL (i.map (dpN H)) := hd
      have hw := wr_arr st H d0 i
      rw [hw] at hl
      obtain ⟨z, hz⟩ : ∃ z, l = x ++ ([] ++ 91 :: z) := by
        rw [hl]
        cases i.map (wrV st H (d0 + 1)) with
        | nil => exact ⟨_, by simp [rwT]; rfl⟩
        | cons e es => exact ⟨_, by simp [rwT]; rfl⟩
      have m := must_mark (x := x) (y := z) (b := []) 91 (fun c hc => by cases hc) (by decide) (by decide)
      rw [← hz, kind_c3] at m
      refine ⟨_, _, m, by show 3 ≠ 2; omega, by show 3 ≠ 4; omega, ?_⟩
      cases f with
      | zero =>
        unfold valL valAt
        rw [if_pos rfl, if_neg (by omega)]
        exact ⟨_, rfl⟩
      | succ f =>
        obtain ⟨a, u, b, hab, ha, hu⟩ := first_not (fun t => dpN H t ≤ f) i (mx_has (dpN H) i f (by omega))
        subst hab
        have hRd : ∀ t ∈ a, Reads l (valL l (obL l) f (d + 1)) (wrV st H (d0 + 1) t) t := fun t ht => wr_read st 1048576 f t (form_rt H t f (hi t (by simp [ht])) (hs.2.2.2 t (by simp [VT.items, ht])) (ha t ht)) H (d0 + 1) f (d + 1) l (hi t (by simp [ht])) (Nat.le_refl _) (by omega)
        have hBd : Refused l (valL l (obL l) f (d + 1)) (wrV st H (d0 + 1) u) := wr_deep st H u (hi u (by simp)) (hs.2.2.2 u (by simp [VT.items])) (d0 + 1) f (d + 1) l (by omega) (by omega)
        have hp := parts_arr (l := l) (vl := valL l (obL l) f (d + 1)) (a.map fun t => (wrV st H (d0 + 1) t, t)) [] (by
          intro p hp
          obtain ⟨t, ht, rfl⟩ := List.mem_map.1 hp
          exact hRd t ht)
        have hmap : (a.map fun t => (wrV st H (d0 + 1) t, t)).map (·.1) = a.map (wrV st H (d0 + 1)) := by rw [List.map_map]; rfl
        rw [hmap] at hp
        rw [List.map_append, List.map_cons] at hl
        obtain ⟨q, hq⟩ := row_bad (.inl ⟨rfl, rfl⟩) (lnW_bl st (d0 + 1)) (lnW_bl st d0) bl_sp hp (bad_arr hBd) x y hl
        refine ⟨q, ?_⟩
        unfold valL valAt
        rw [if_pos rfl, if_pos (by omega)]
        have hq' : rowL l 4 (aPt (valL l (obL l) f (d + 1))) [] (x.length + ([] : List UInt8).length + 1) = .bad 52 q := hq
        unfold arrL
        rw [hq']
    · have hd1 : f < 1 + mxL (i.map (dpN H)) := hd
      have hw := wr_obj st H d0 i ks hlen
      have hcl := clB_bl st
      rw [hw] at hl
      obtain ⟨z, hz⟩ : ∃ z, l = x ++ ([] ++ 123 :: z) := by
        rw [hl]
        cases (fldsT st H d0 ks i).map (FldT.text (clB st)) with
        | nil => exact ⟨_, by simp [rwT]; rfl⟩
        | cons e es => exact ⟨_, by simp [rwT]; rfl⟩
      have m := must_mark (x := x) (y := z) (b := []) 123 (fun c hc => by cases hc) (by decide) (by decide)
      rw [← hz, kind_c1] at m
      refine ⟨_, _, m, by show 1 ≠ 2; omega, by show 1 ≠ 4; omega, ?_⟩
      cases f with
      | zero =>
        unfold valL valAt
        rw [if_neg (by show ¬ 1 = 3; omega), if_pos rfl, if_neg (by omega)]
        exact ⟨_, rfl⟩
      | succ f =>
        have hris := risF_zip ks i hlen (risK_rK hr)
        have hex : ∃ p ∈ ks.zip i, ¬ dpN H p.2 ≤ f := by
          obtain ⟨u, hu, hn⟩ := mx_has (dpN H) i f (by omega)
          obtain ⟨j, hj, rfl⟩ := List.getElem_of_mem hu
          have hjz : j < (ks.zip i).length := by simp; omega
          refine ⟨(ks.zip i)[j], List.getElem_mem hjz, ?_⟩
          simpa using hn
        obtain ⟨a, u, b, hab, ha, hu⟩ := first_not (fun p : ByteArray × VT => dpN H p.2 ≤ f) (ks.zip i) hex
        have hmem : ∀ p ∈ ks.zip i, p.1 ∈ ks ∧ p.2 ∈ i := fun p hp => List.of_mem_zip (a := p.1) (b := p.2) hp
        have hok : ∀ k ∈ ks, okB k.data.toList = true := by
          intro k hk
          unfold oK at ho
          rw [List.all_eq_true] at ho
          obtain ⟨j, hj, rfl⟩ := List.getElem_of_mem hk
          have := ho j (List.mem_range.2 hj)
          rw [List.getD_eq_getElem?_getD, List.getElem?_eq_getElem hj] at this
          exact this
        have hia : ∀ p ∈ a, p ∈ ks.zip i := fun p hp => by rw [hab]; simp [hp]
        have hiu : u ∈ ks.zip i := by rw [hab]; simp
        have hRd : ∀ p ∈ a, Reads l (valL l (obL l) f (d + 1)) (wrV st H (d0 + 1) p.2) p.2 := fun p hp => wr_read st 1048576 f p.2 (form_rt H p.2 f (hi p.2 (hmem p (hia p hp)).2) (hs.2.2.2 p.2 (hmem p (hia p hp)).2) (ha p hp)) H (d0 + 1) f (d + 1) l (hi p.2 (hmem p (hia p hp)).2) (Nat.le_refl _) (by omega)
        have hBd : Refused l (valL l (obL l) f (d + 1)) (wrV st H (d0 + 1) u.2) := wr_deep st H u.2 (hi u.2 (hmem u hiu).2) (hs.2.2.2 u.2 (hmem u hiu).2) (d0 + 1) f (d + 1) l (by omega) (by omega)
        unfold fldsT at hl
        rw [hab] at hris hl
        rw [List.map_append, List.map_cons] at hris
        have hr2 := List.pairwise_append.1 hris
        have hp := parts_obj (l := l) (vl := valL l (obL l) f (d + 1)) hcl (a.map fun p => (⟨p.1.data.toList, wrV st H (d0 + 1) p.2, p.2⟩ : FldT)) [] (by
          intro p hp
          obtain ⟨t, ht, rfl⟩ := List.mem_map.1 hp
          exact ⟨hRd t ht, hok t.1 (hmem t (hia t ht)).1⟩) (by
          rw [List.map_map]
          have h2 := hr2.1
          rw [List.pairwise_map] at h2
          show (a.map fun p => p.1.data.toList).Pairwise (· ≠ ·)
          rw [List.pairwise_map]
          exact h2.imp (fun {p q} hpq e => by rw [e] at hpq; exact List.lt_irrefl _ hpq)) (fun p _ f hf => by cases hf)
        rw [List.nil_append] at hp
        have hBad := bad_obj (l := l) (vl := valL l (obL l) f (d + 1)) hcl (fs := (a.map fun p => (⟨p.1.data.toList, wrV st H (d0 + 1) p.2, p.2⟩ : FldT)).map fun p => (p.key, p.val)) (p := ⟨u.1.data.toList, wrV st H (d0 + 1) u.2, u.2⟩) hBd (hok u.1 (hmem u hiu).1) (by
          intro g hg
          obtain ⟨p', hp', rfl⟩ := List.mem_map.1 hg
          obtain ⟨p, hpa, rfl⟩ := List.mem_map.1 hp'
          have := hr2.2.2 (p.1.data.toList, p.2) (List.mem_map.2 ⟨p, hpa, rfl⟩) (u.1.data.toList, u.2) (List.mem_cons_self ..)
          intro e
          have e' : p.1.data.toList = u.1.data.toList := e
          have this' : p.1.data.toList < u.1.data.toList := this
          rw [e'] at this'
          exact List.lt_irrefl _ this')
        rw [List.map_append, List.map_cons, List.map_append, List.map_cons] at hl
        obtain ⟨q, hq⟩ := row_bad (.inr ⟨rfl, rfl⟩) (lnW_bl st (d0 + 1)) (lnW_bl st d0) bl_sp hp hBad x y hl
        refine ⟨q, ?_⟩
        unfold valL valAt
        rw [if_neg (by show ¬ 1 = 3; omega), if_pos rfl, if_pos (by omega)]
        have hq' : rowL l 2 (oPt l (valL l (obL l) f (d + 1))) [] (x.length + ([] : List UInt8).length + 1) = .bad 52 q := hq
        show obL l (valL l (obL l) f (d + 1)) (x.length + ([] : List UInt8).length + 1) = .bad 52 q
        generalize hv : valL l (obL l) f (d + 1) = vl at hq' ⊢
        unfold obL
        rw [hq']
theorem one_deep {st : Option Nat} {h : Nat} {T : VT} (hf : formN h T = true) (hs : ShV h T) (hd : 64 < dpN h T) {s : ByteArray} (e : s.data.toList = wrV st h 0 T) : ∃ q, onlL s.data.toList (vL s) 0 = .bad 52 q := by
  have hr := wr_deep st h T hf hs 0 64 1 s.data.toList hd rfl
  obtain ⟨t, p1, m, _, _, q, hv⟩ := hr [] [] (by rw [List.nil_append, List.append_nil]; exact e) (fun c r h => by cases h)
  have m' : mustL s.data.toList 0 = .ok t p1 := m
  have hv' : vL s t p1 = .bad 52 q := hv
  refine ⟨q, ?_⟩
  unfold onlL
  rw [m']
  dsimp only
  rw [hv']
end Go.Proofs.YtcpnodkcnblkdaaGreatDoor
