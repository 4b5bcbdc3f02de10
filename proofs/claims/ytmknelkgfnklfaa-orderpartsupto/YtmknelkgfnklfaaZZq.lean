import Derived.Test.YtmknelkgfnklfaaZZp
namespace Go.Proofs.Ytmknelkgfnklfaa
open Go.RowKit Go.Shelf Go.Sort
set_option linter.unusedVariables false
set_option linter.unusedSimpArgs false

/-- a row that grows from nothing, of values that lie in w0 -/
def ApS (w0 wr : World) (h : Nat) (us : List VT) (v : Value) : Prop := Below w0.heap.size w0 wr ∧ ∃ c : Nat → Fin 5 → Value, wr.ownsRow w0.heap.size 25 5 v us.length (flat c us.length) ∧ ∀ i, (hi : i < us.length) → InH w0 h us[i] (.agg #[c i 0, c i 1, c i 2, c i 3, c i 4])
theorem ApS.start (w0 : World) (h : Nat) : ApS w0 w0 h [] (.slice none 0 0) := ⟨Below.refl _ _, fun _ _ => undef, World.ownsRow_nil _ _ _ _, fun i hi => absurd hi (Nat.not_lt_zero _)⟩
theorem ApS.low {w0 wr u : World} {h : Nat} {us : List VT} {v : Value} (H : ApS w0 wr h us v) (hb : Below wr.heap.size wr u) : ApS w0 u h us v := by
  obtain ⟨h1, c, h2, h3⟩ := H
  exact ⟨h1.trans (hb.mono h1.size), c, own_low h2 hb, h3⟩
theorem ApS.more {w0 wr w3 : World} {h : Nat} {us : List VT} {v v3 : Value} {o : Obj} {T : VT} {y0 y1 y2 y3 y4 : Value} (H : ApS w0 wr h us v) (c : Nat → Fin 5 → Value) (h2 : wr.ownsRow w0.heap.size 25 5 v us.length (flat c us.length)) (h3 : ∀ i, (hi : i < us.length) → InH w0 h us[i] (.agg #[c i 0, c i 1, c i 2, c i 3, c i 4]))
    (hT : InH w0 h T (.agg #[y0, y1, y2, y3, y4])) (hg : (wr.alloc o).grownBy w3 v.ownBlock) (ho : w3.ownsRow w0.heap.size 25 5 v3 (us.length + 1) (flat c us.length ++ [y0, y1, y2, y3, y4])) : ApS w0 w3 h (us ++ [T]) v3 := by
  have hs := H.1.size
  refine ⟨(H.1.alloc hs o).grown hg (by simp; omega) (own_baseZ h2), fun i => if i < us.length then c i else (fun j => match j with | 0 => y0 | 1 => y1 | 2 => y2 | 3 => y3 | 4 => y4), ?_, fun i hi => ?_⟩
  · rw [List.length_append]
    show World.ownsRow _ _ _ _ _ (us.length + 1) (flat _ (us.length + 1))
    rw [flat_up, flat_eq (d := c) (fun i hi => if_pos hi), if_neg (Nat.lt_irrefl _)]
    exact ho
  · rw [List.length_append] at hi
    by_cases hik : i < us.length
    · rw [List.getElem_append_left hik]
      simp only [if_pos hik]
      exact h3 i hik
    · have e : i = us.length := by simp at hi; omega
      subst e
      rw [List.getElem_append_right (Nat.le_refl _)]
      simp only [if_neg hik, Nat.sub_self, List.getElem_cons_zero]
      exact hT
theorem ApS.row {w0 wr : World} {h : Nat} {us : List VT} {v : Value} (H : ApS w0 wr h us v) : ∃ so cap, v = .slice so us.length cap ∧ us.length ≤ cap ∧ (so = none → cap = 0) ∧ IIn wr h so us := by
  obtain ⟨h1, c, h2, h3⟩ := H
  rcases Nat.eq_zero_or_pos us.length with h0 | h0
  · rcases h2.2 with ⟨e1, e2⟩ | ⟨g', cap', cur, e1, hcap, _⟩
    · exact ⟨none, 0, by rw [e1, h0], by omega, fun _ => rfl, ⟨fun hp => by omega⟩⟩
    · exact ⟨_, cap', e1, by omega, (fun e => by cases e), ⟨fun hp => by omega⟩⟩
  · obtain ⟨m, hm⟩ : ∃ m, us.length = m + 1 := ⟨us.length - 1, by omega⟩
    rw [hm] at h2
    obtain ⟨g, cap, e⟩ := own_succZ h2
    subst e
    have hcap : m + 1 ≤ cap := by
      rcases h2.2 with ⟨e1, _⟩ | ⟨g', cap', cur, e1, hcap, _⟩
      · cases e1
      · simp only [Value.slice.injEq, Option.some.injEq, Addr.mk.injEq] at e1
        omega
    refine ⟨_, cap, by rw [hm], by omega, (fun e => by cases e), ⟨fun _ => ⟨g, 0, rfl, (h2.lt g rfl).2, fun i hi => ⟨c i 0, c i 1, c i 2, c i 3, c i 4, ?_, (h3 i hi).keep h1⟩⟩⟩⟩
    have cc : ∀ j : Fin 5, wr.cell? ⟨g, i * 5 + j.1, none⟩ = some (c i j) := fun j => by
      have hj := j.2
      rw [own_cellAt h2 (by omega), flat_get c (m + 1) i j (by omega)]
    simp only [Nat.zero_add]
    exact ⟨cc 0, cc 1, cc 2, cc 3, cc 4⟩

/-- a row that rises, as pairs -/
theorem sort_one {h : Nat} : ∀ (xs ys : List VT), (∀ T ∈ xs, formN h T = true) → xs.Perm ys → xs.Pairwise (fun a b => cmpH h a b ≤ 0) → ys.Pairwise (fun a b => cmpH h a b ≤ 0) → xs = ys
  | [], ys, _, hp, _, _ => (hp.nil_eq)
  | x :: xs, [], _, hp, _, _ => absurd hp.length_eq (by simp)
  | x :: xs, y :: ys, hf, hp, hx, hy => by
    have o := cmpH_ord h
    obtain ⟨hx1, hx2⟩ := List.pairwise_cons.1 hx
    obtain ⟨hy1, hy2⟩ := List.pairwise_cons.1 hy
    have fx := hf x (List.mem_cons_self ..)
    have fy := hf y (hp.mem_iff.2 (List.mem_cons_self ..))
    have e : x = y := by
      have my : y ∈ x :: xs := hp.mem_iff.2 (List.mem_cons_self ..)
      have mx : x ∈ y :: ys := hp.mem_iff.1 (List.mem_cons_self ..)
      rcases List.mem_cons.1 my with e | my
      · exact e.symm
      · rcases List.mem_cons.1 mx with e | mx
        · exact e
        · have a := hx1 y my
          have b := hy1 x mx
          have s := o.sw x y fx fy
          exact o.zr x y fx fy (by omega)
    subst e
    rw [sort_one xs ys (fun T hT => hf T (List.mem_cons_of_mem _ hT)) (hp.cons_inv) hx2 hy2]

theorem pick_perm {zs : List VT} {a b : List Nat} (h : a.Perm b) : (pick zs a).Perm (pick zs b) := h.map _
theorem pick_id (ls : List VT) : pick ls (List.range ls.length) = ls := by have := pick_range ls []; rwa [List.append_nil] at this
theorem pick_pair {h : Nat} {zs : List VT} {l : List Nat} (hl : ∀ x ∈ l, x < zs.length) (hp : l.Pairwise (Ahd (cK h zs))) : (pick zs l).Pairwise (fun a b => cmpH h a b ≤ 0) := by
  unfold pick
  rw [List.pairwise_map]
  refine hp.imp_of_mem ?_
  intro a b ma mb hab
  have ha := hl a ma
  have hb := hl b mb
  have := hab.le
  rw [cK_at ha hb] at this
  simpa [ha, hb] using this

theorem all_iff {h : Nat} {ts : List VT} : ts.all (formN h) = true ↔ ∀ T ∈ ts, formN h T = true := List.all_eq_true
theorem gpE_ok {h : Nat} {ls ks : List VT} (h1 : ∀ T ∈ ls, formN h T = true) (h2 : ∀ T ∈ ks, formN h T = true) (hl : ls.length = ks.length) : gpE h ls ks = 0 := by
  unfold gpE; rw [all_iff.2 h1, all_iff.2 h2, Bool.and_self, if_pos rfl, if_pos hl]
theorem gpL_ok {h : Nat} {ls ks : List VT} (e : gpE h ls ks = 0) : (gpL h ls ks).flatten = srt (cK h ks) ks.length := by
  rcases gpL_flat (h := h) (ls := ls) (ks := ks) with ⟨_, h1⟩ | ⟨_, h1⟩
  · exact h1
  · exact absurd e h1

/-- what is sorted -/
structure Srt (h : Nat) (ls us : List VT) : Prop where
  perm : us.Perm ls
  pair : us.Pairwise (fun a b => cmpH h a b ≤ 0)
theorem Srt.eq {h : Nat} {ls ks us vs : List VT} (hf : ∀ T ∈ ls, formN h T = true) (hk : ls.Perm ks) (a : Srt h ls us) (b : Srt h ks vs) : us = vs :=
  sort_one us vs (fun T hT => hf T (a.perm.mem_iff.1 hT)) (a.perm.trans (hk.trans b.perm.symm)) a.pair b.pair
theorem sort_srt {h : Nat} {ls : List VT} (hf : ∀ T ∈ ls, formN h T = true) : Srt h ls (sbL h ls ls) := by
  have e := gpL_ok (gpE_ok hf hf rfl)
  unfold sbL
  rw [e]
  refine ⟨?_, pick_pair (fun x hx => srt_lt hx) (srt_ahd (cK_pre hf))⟩
  have := pick_perm (zs := ls) (srt_perm (cK h ls) ls.length)
  rwa [pick_id] at this
theorem Srt.form {h : Nat} {ls us : List VT} (hf : ∀ T ∈ ls, formN h T = true) (a : Srt h ls us) : ∀ T ∈ us, formN h T = true := fun T hT => hf T (a.perm.mem_iff.1 hT)
theorem Srt.rises {h : Nat} {ls us : List VT} (hf : ∀ T ∈ ls, formN h T = true) (a : Srt h ls us) : risB (cK h us) us.length = true := by
  refine risB_iff.2 fun j hj => ?_
  have p := List.pairwise_iff_getElem.1 a.pair j (j + 1) (by omega) hj (by omega)
  have s := (cmpH_ord h).sw _ _ (a.form hf _ (List.getElem_mem (show j < us.length by omega))) (a.form hf _ (List.getElem_mem hj))
  omega
theorem Srt.cnt {h : Nat} {ls us : List VT} (a : Srt h ls us) (V : VT) : cnt us V = cnt ls V := (a.perm.filter _).length_eq
theorem Srt.self {h : Nat} {ls us : List VT} (a : Srt h ls us) : Srt h us us := ⟨.refl _, a.pair⟩
theorem Srt.sz {h : Nat} {ls us : List VT} {B : Nat} (a : Srt h ls us) (hs : ∀ T ∈ ls, szN h T ≤ B) : ∀ T ∈ us, szN h T ≤ B := fun T hT => hs T (a.perm.mem_iff.1 hT)

/-- what is merged of what rises -/
theorem merge_srt {h : Nat} {xs ys : List VT} (fx : ∀ T ∈ xs, formN h T = true) (fy : ∀ T ∈ ys, formN h T = true) (rx : risB (cK h xs) xs.length = true) (ry : risB (cK h ys) ys.length = true) : mrE h xs ys = 0 ∧ Srt h (xs ++ ys) (mrL h xs ys) := by
  have e : mrE h xs ys = 0 := by unfold mrE; rw [all_iff.2 fx, all_iff.2 fy, rx, ry, Bool.and_self, if_pos rfl, if_pos rfl]
  refine ⟨e, ?_⟩
  have fz : ∀ T ∈ xs ++ ys, formN h T = true := fun T hT => by
    rcases List.mem_append.1 hT with h1 | h1
    · exact fx T h1
    · exact fy T h1
  unfold mrL
  rw [if_pos e]
  unfold mrI
  have lt1 : ∀ x ∈ List.range xs.length, x < (xs ++ ys).length := fun x hx => by have := List.mem_range.1 hx; rw [List.length_append]; omega
  have lt2 : ∀ x ∈ (List.range ys.length).map (xs.length + ·), x < (xs ++ ys).length := fun x hx => by
    obtain ⟨i, hi, rfl⟩ := List.mem_map.1 hx
    have := List.mem_range.1 hi
    rw [List.length_append]; omega
  have pp := mg_perm (cK h (xs ++ ys)) (List.range xs.length) ((List.range ys.length).map (xs.length + ·))
  refine ⟨?_, pick_pair (fun x hx => ?_) (mg_ahd (cK_pre fz) _ _ lt1 lt2 (fun x hx y hy => ?_) ?_ ?_)⟩
  · have := pick_perm (zs := xs ++ ys) pp
    rwa [pick_app, pick_range, pick_range'] at this
  · rcases List.mem_append.1 (pp.mem_iff.1 hx) with h1 | h1
    · exact lt1 x h1
    · exact lt2 x h1
  · obtain ⟨i, hi, rfl⟩ := List.mem_map.1 hy
    have := List.mem_range.1 hx
    omega
  · refine List.pairwise_lt_range.imp_of_mem ?_
    intro a b ma mb hab
    have hb := List.mem_range.1 mb
    have m := rises_mono fx (risB_iff.1 rx) a (b - a) (by omega)
    have eb : a + (b - a) = b := by omega
    simp only [eb] at m
    have c0 : cK h (xs ++ ys) a b ≤ 0 := by
      rw [cK_at (by rw [List.length_append]; omega) (by rw [List.length_append]; omega), List.getElem_append_left (by omega), List.getElem_append_left hb]; exact m
    by_cases hz : cK h (xs ++ ys) a b = 0
    · exact .inr ⟨hz, hab⟩
    · exact .inl (by omega)
  · rw [List.pairwise_map]
    refine List.pairwise_lt_range.imp_of_mem ?_
    intro a b ma mb hab
    have hb := List.mem_range.1 mb
    have m := rises_mono fy (risB_iff.1 ry) a (b - a) (by omega)
    have eb : a + (b - a) = b := by omega
    simp only [eb] at m
    have c0 : cK h (xs ++ ys) (xs.length + a) (xs.length + b) ≤ 0 := by
      rw [cK_at (by rw [List.length_append]; omega) (by rw [List.length_append]; omega), List.getElem_append_right (by omega), List.getElem_append_right (by omega)]
      simpa using m
    by_cases hz : cK h (xs ++ ys) (xs.length + a) (xs.length + b) = 0
    · exact .inr ⟨hz, by omega⟩
    · exact .inl (by omega)
end Go.Proofs.Ytmknelkgfnklfaa
