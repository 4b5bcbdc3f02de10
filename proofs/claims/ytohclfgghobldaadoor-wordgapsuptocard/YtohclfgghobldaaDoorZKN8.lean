import Derived.Test.YtohclfgghobldaaDoorZKN7
namespace Go.Proofs.YtohclfgghobldaaDoor
open Go.RowKit
set_option linter.unusedVariables false
set_option linter.unusedSimpArgs false

theorem idn_blank {l : List UInt8} {p : Nat} (hp : p < l.length) (h : blB (l.getD p 0) = true) : idW l p = idW l (p + 1) := by unfold idW; rw [bhP_step hp h]
theorem idn_rem {l : List UInt8} {p : Nat} (hp : p < l.length) (h : (l.getD p 0).toNat = 35) : idW l p = idW l (bhP rmB l p) := by
  unfold idW
  rw [bhP_stop hp (by unfold blB; rw [h]; decide), idF_remark ⟨hp, h⟩]
theorem idn_stop {l : List UInt8} {p : Nat} (hp : p < l.length) (h : blB (l.getD p 0) = false) (h2 : (l.getD p 0).toNat ≠ 35) : idW l p = p := by
  unfold idW
  rw [bhP_stop hp h, idF_rest (fun g => h2 g.2)]
theorem idn_end (l : List UInt8) : idW l l.length = l.length := by
  have := idW_ge (l := l) (p := l.length) (Nat.le_refl _)
  omega
def gapL (b : Bool) : List UInt8 := if b = true then [35, 32, 34, 120, 92, 40, 10] else [32, 9]
theorem gap_brk (b : Bool) (u : List UInt8) : Brk (gapL b ++ u) := by
  cases b
  · exact ⟨32, _, rfl, .inl rfl⟩
  · exact ⟨35, _, rfl, .inr (.inl rfl)⟩
/-- past a gap -/
theorem gap_id {T v : List UInt8} {P : Nat} (b : Bool) (hT : T.drop P = gapL b ++ v) : idW T P = idW T (P + (gapL b).length) := by
  have hl := drop_len hT (by cases b <;> simp [gapL])
  cases b
  · have e0 := gd_app hT (j := 0) (by decide)
    have e1 := gd_app hT (j := 1) (by decide)
    rw [Nat.add_zero] at e0
    have hlen : (gapL false).length = 2 := rfl
    rw [hlen] at hl ⊢
    rw [idn_blank (by omega) (by rw [e0]; decide), idn_blank (by omega) (by rw [e1]; decide)]
  · have hlen : (gapL true).length = 7 := rfl
    rw [hlen] at hl ⊢
    have e0 := gd_app hT (j := 0) (by decide)
    have e6 := gd_app hT (j := 6) (by decide)
    rw [Nat.add_zero] at e0
    have hr : bhP rmB T P = P + 6 := run_all (P := rmB) (A := T) (x := [35, 32, 34, 120, 92, 40]) (c := 10) (r := v) hT (by
      intro j hj
      have hj : j < 6 := hj
      rcases (show j = 0 ∨ j = 1 ∨ j = 2 ∨ j = 3 ∨ j = 4 ∨ j = 5 by omega) with rfl | rfl | rfl | rfl | rfl | rfl <;> decide) (by decide)
    rw [idn_rem (by omega) (by rw [e0]; decide), hr, idn_blank (by omega) (by rw [e6]; decide)]
/-- the text with gaps, and its tokens -/
def sepL (b : Bool) (t : Tok) : List UInt8 := if t.kind = 8 ∨ t.kind = 9 then [] else gapL b
def gpW (b : Bool) (l : List UInt8) : List Tok → List UInt8
  | [] => []
  | t :: r => sepL b t ++ (cut l t.at_ t.fin ++ gpW b l r)
def gpT (b : Bool) : Nat → List Tok → List Tok
  | _, [] => []
  | o, t :: r => ⟨t.kind, o + (sepL b t).length, o + (sepL b t).length + (t.fin - t.at_), t.text, 0⟩ :: gpT b (o + (sepL b t).length + (t.fin - t.at_)) r
theorem gpW_snoc (b : Bool) (l : List UInt8) (t : Tok) : ∀ ts, gpW b l (ts ++ [t]) = gpW b l ts ++ (sepL b t ++ cut l t.at_ t.fin)
  | [] => by simp [gpW]
  | s :: r => by rw [List.cons_append, gpW, gpW, gpW_snoc b l t r]; simp
theorem gpT_snoc (b : Bool) (l : List UInt8) (t : Tok) : ∀ (ts : List Tok) (o : Nat), (∀ x ∈ ts, (cut l x.at_ x.fin).length = x.fin - x.at_) → gpT b o (ts ++ [t]) = gpT b o ts ++ [⟨t.kind, o + (gpW b l ts).length + (sepL b t).length, o + (gpW b l ts).length + (sepL b t).length + (t.fin - t.at_), t.text, 0⟩]
  | [], o, _ => by simp [gpT, gpW]
  | s :: r, o, h => by
    rw [List.cons_append, gpT, gpT, gpT_snoc b l t r _ (fun x hx => h x (List.mem_cons_of_mem _ hx)), gpW]
    have hs := h s (by simp)
    rw [List.length_append, List.length_append, hs, List.cons_append]
    rw [show o + (sepL b s).length + (s.fin - s.at_) + (gpW b l r).length = o + ((sepL b s).length + (s.fin - s.at_ + (gpW b l r).length)) by omega]
theorem gpT_ok (b : Bool) : ∀ (ts : List Tok) (o : Nat), ∀ t ∈ gpT b o ts, t.err = 0
  | [], _ => fun t h => by cases h
  | s :: r, o => fun t h => by
    rw [gpT] at h
    rcases List.mem_cons.1 h with e | h
    · rw [e]
    · exact gpT_ok b r _ t h
theorem gpT_len (b : Bool) : ∀ (ts : List Tok) (o : Nat), (gpT b o ts).length = ts.length
  | [], _ => rfl
  | s :: r, o => by rw [gpT, List.length_cons, List.length_cons, gpT_len b r]
theorem drop_pre {pre y : List UInt8} : (pre ++ y).drop pre.length = y := List.drop_left
theorem gap_rest (b : Bool) (l : List UInt8) : ∀ (f p : Nat) (op : List Nat), p ≤ l.length → l.length - p < f → (∀ t ∈ scF l f p op, t.err = 0) → ∀ (pre T : List UInt8) (F : Nat), T = pre ++ (gpW b l (scF l f p op) ++ gapL b) → T.length - pre.length < F → scF T F (idW T pre.length) op = gpT b pre.length (scF l f p op) := by
  intro f
  induction f with
  | zero => intro p op _ h; omega
  | succ f ih =>
    intro p op hp hf hok pre T F hT hF
    obtain ⟨F, rfl⟩ : ∃ G, F = G + 1 := ⟨F - 1, by omega⟩
    obtain ⟨TS, hTS⟩ : ∃ TS, scF l (f + 1) p op = TS := ⟨_, rfl⟩
    rw [hTS] at hok hT ⊢
    rw [scF] at hTS
    by_cases h1 : p < l.length
    · rw [if_pos h1] at hTS
      by_cases h2 : (tokW l op p).err = 0
      · rw [if_pos h2] at hTS
        subst hTS
        obtain ⟨u1, u2, u3⟩ := tok_up h1 h2
        have hi := idW_ge u3
        have hok2 := fun t ht => hok t (List.mem_cons_of_mem _ ht)
        have hfst := tok_first h1 h2
        have hme := tok_me (l := l) (op := op) (p := p)
        have hall := fun A' p' u' => tok_all (A := l) (A' := A') (op := op) (x := cut l p (tokW l op p).fin) (u := l.drop (tokW l op p).fin) (u' := u') (p := p) (p' := p') h1 h2 (cut_drop (by omega))
        have hxl : (cut l p (tokW l op p).fin).length = (tokW l op p).fin - p := cut_len u3
        have hih := ih (idW l (tokW l op p).fin) (openW (tokW l op p) op) hi.2 (by omega) hok2
        -- what follows begins with a break
        have hbrk : Brk (gpW b l (scF l f (idW l (tokW l op p).fin) (openW (tokW l op p) op)) ++ gapL b) := by
          cases f with
          | zero => rw [scF]; exact gap_brk b [] |> fun h => by simpa [gpW] using h
          | succ f =>
            rw [scF] at hok2 ⊢
            by_cases g1 : idW l (tokW l op p).fin < l.length
            · rw [if_pos g1] at hok2 ⊢
              by_cases g2 : (tokW l (openW (tokW l op p) op) (idW l (tokW l op p).fin)).err = 0
              · rw [if_pos g2, gpW]
                obtain ⟨v1, v2, v3⟩ := tok_up g1 g2
                by_cases g3 : (tokW l (openW (tokW l op p) op) (idW l (tokW l op p).fin)).kind = 8 ∨ (tokW l (openW (tokW l op p) op) (idW l (tokW l op p).fin)).kind = 9
                · have h41 := tok_me g3
                  unfold sepL
                  rw [if_pos g3, List.nil_append, v1]
                  have e41 : l.getD (idW l (tokW l op p).fin) 0 = 41 := by apply UInt8.toNat_inj.1; exact h41
                  have hc : ∃ r, cut l (idW l (tokW l op p).fin) (tokW l (openW (tokW l op p) op) (idW l (tokW l op p).fin)).fin = 41 :: r := by
                    unfold cut
                    rw [drop_getD g1, e41]
                    obtain ⟨m, hm⟩ : ∃ m, (tokW l (openW (tokW l op p) op) (idW l (tokW l op p).fin)).fin - idW l (tokW l op p).fin = m + 1 := ⟨(tokW l (openW (tokW l op p) op) (idW l (tokW l op p).fin)).fin - idW l (tokW l op p).fin - 1, by omega⟩
                    rw [hm]
                    exact ⟨_, rfl⟩
                  obtain ⟨r, hr⟩ := hc
                  rw [hr]
                  exact ⟨41, _, rfl, .inr (.inr rfl)⟩
                · unfold sepL
                  rw [if_neg g3, List.append_assoc]
                  exact gap_brk b _
              · rw [if_neg g2] at hok2
                exact absurd (hok2 _ (List.mem_singleton.2 rfl)) g2
            · rw [if_neg g1] at hok2 ⊢
              by_cases g3 : openW (tokW l op p) op = []
              · rw [if_pos g3]; exact gap_brk b [] |> fun h => by simpa [gpW] using h
              · rw [if_neg g3] at hok2
                exact absurd (hok2 _ (List.mem_singleton.2 rfl)) (by simp)
        generalize scF l f (idW l (tokW l op p).fin) (openW (tokW l op p) op) = R at *
        rw [gpW, u1] at hT
        have hT2 : T = (pre ++ sepL b (tokW l op p)) ++ (cut l p (tokW l op p).fin ++ (gpW b l R ++ gapL b)) := by rw [hT]; simp
        have hT3 : T = ((pre ++ sepL b (tokW l op p)) ++ cut l p (tokW l op p).fin) ++ (gpW b l R ++ gapL b) := by rw [hT2]; simp
        have hdr : T.drop (pre.length + (sepL b (tokW l op p)).length) = cut l p (tokW l op p).fin ++ (gpW b l R ++ gapL b) := by
          rw [hT2, ← List.length_append]; exact drop_pre
        have hTl : T.length = pre.length + (sepL b (tokW l op p)).length + ((tokW l op p).fin - p) + (gpW b l R ++ gapL b).length := by
          rw [hT3, List.length_append, List.length_append, List.length_append, hxl]
        have hgl : 0 < (gpW b l R ++ gapL b).length := by
          obtain ⟨c, r, e, _⟩ := hbrk
          rw [e]; simp
        have hb0 : T.getD (pre.length + (sepL b (tokW l op p)).length) 0 = l.getD p 0 := by
          have e1 := gd_app hdr (j := 0) (by rw [hxl]; omega)
          have e2 := gd_app (cut_drop (l := l) (i := p) (E := (tokW l op p).fin) (by omega)) (j := 0) (by rw [hxl]; omega)
          rw [Nat.add_zero] at e1 e2
          rw [e1, e2]
        have hid : idW T pre.length = pre.length + (sepL b (tokW l op p)).length := by
          have hst := idn_stop (l := T) (p := pre.length + (sepL b (tokW l op p)).length) (by omega) (by rw [hb0]; exact hfst.1) (by rw [hb0]; exact hfst.2)
          by_cases g3 : (tokW l op p).kind = 8 ∨ (tokW l op p).kind = 9
          · have hs : sepL b (tokW l op p) = [] := by unfold sepL; rw [if_pos g3]
            rw [hs] at hst ⊢
            exact hst
          · have hs : sepL b (tokW l op p) = gapL b := by unfold sepL; rw [if_neg g3]
            have hdp : T.drop pre.length = gapL b ++ (cut l p (tokW l op p).fin ++ (gpW b l R ++ gapL b)) := by
              rw [hT2, hs, List.append_assoc]; exact drop_pre
            rw [gap_id b hdp]
            rw [hs] at hst ⊢
            exact hst
        have htk := hall T (pre.length + (sepL b (tokW l op p)).length) (gpW b l R ++ gapL b) (by rw [hxl]; omega) hdr hbrk
        rw [hid, scF, if_pos (by omega), htk]
        dsimp only
        rw [if_pos rfl, gpT, u1, hxl]
        congr 1
        have hpl : ((pre ++ sepL b (tokW l op p)) ++ cut l p (tokW l op p).fin).length = pre.length + (sepL b (tokW l op p)).length + ((tokW l op p).fin - p) := by rw [List.length_append, List.length_append, hxl]
        have hop : openW ⟨(tokW l op p).kind, pre.length + (sepL b (tokW l op p)).length, pre.length + (sepL b (tokW l op p)).length + ((tokW l op p).fin - p), (tokW l op p).text, 0⟩ op = openW (tokW l op p) op := rfl
        rw [hop]
        have := hih ((pre ++ sepL b (tokW l op p)) ++ cut l p (tokW l op p).fin) T F hT3 (by rw [hpl]; omega)
        rw [hpl] at this
        exact this
      · rw [if_neg h2] at hTS
        subst hTS
        exact absurd (hok _ (List.mem_singleton.2 rfl)) h2
    · rw [if_neg h1] at hTS
      by_cases ho : op = []
      · rw [if_pos ho] at hTS
        subst hTS
        subst ho
        have hdp : T.drop pre.length = gapL b ++ [] := by rw [hT, gpW, List.nil_append, List.append_nil]; exact drop_pre
        have hTl : T.length = pre.length + (gapL b).length := by rw [hT, gpW, List.nil_append, List.length_append]
        rw [gap_id b hdp, ← hTl, idn_end, scF, if_neg (by omega), if_pos rfl, gpT]
      · rw [if_neg ho] at hTS
        subst hTS
        exact absurd (hok _ (List.mem_singleton.2 rfl)) (by simp)
/-- gaps put in move places alone -/
theorem sc_gap (b : Bool) {l : List UInt8} (h : ∀ t ∈ scW l, t.err = 0) : scW (gpW b l (scW l) ++ gapL b) = gpT b 0 (scW l) := by
  have hi := idW_ge (l := l) (p := 0) (Nat.zero_le _)
  exact gap_rest b l (l.length + 1) (idW l 0) [] hi.2 (by omega) h [] _ _ rfl (by simp)
end Go.Proofs.YtohclfgghobldaaDoor
