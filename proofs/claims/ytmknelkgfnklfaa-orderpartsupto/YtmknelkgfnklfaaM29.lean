import Derived.Test.YtmknelkgfnklfaaM28
namespace Go.Proofs.Ytmknelkgfnklfaa
open Go.RowKit Go.Shelf Go.Sort
set_option linter.unusedVariables false
set_option linter.unusedSimpArgs false
attribute [local go_sem] Oper.semAt_some

/-- a slice of values, as it lies -/
structure VtC (w : World) (h : Nat) (ao : Option Addr) (cap : Nat) (us : List VT) : Prop where
  fit : us.length ≤ cap
  nil : ao = none → cap = 0
  it : IIn w h ao us
theorem VtC.keep {w w' : World} {h : Nat} {ao : Option Addr} {cap : Nat} {us : List VT} (H : VtC w h ao cap us) (hb : Below w.heap.size w w') : VtC w' h ao cap us := ⟨H.fit, H.nil, H.it.keep hb⟩
theorem VtC.tail {w : World} {h b off cap : Nat} {T : VT} {us : List VT} (H : VtC w h (some ⟨b, off, none⟩) cap (T :: us)) (ao : Option Addr) (ha : ao = none → cap - 1 = 0) (ha2 : ¬ cap = 1 → ao = some ⟨b, off + 5, none⟩) : VtC w h ao (cap - 1) us := by
  have hf := H.fit
  simp only [List.length_cons] at hf
  refine ⟨by omega, ha, ⟨fun h0 => ?_⟩⟩
  obtain ⟨b', off', e, hl, hc⟩ := H.it.row (by simp)
  simp only [Option.some.injEq, Addr.mk.injEq] at e
  obtain ⟨rfl, rfl, _⟩ := e
  refine ⟨b, off + 5, ha2 (by omega), hl, fun i hi => ?_⟩
  obtain ⟨v0, v1, v2, v3, v4, hcell, ht⟩ := hc (i + 1) (by simp; omega)
  have e : off + (i + 1) * 5 = off + 5 + i * 5 := by omega
  rw [e] at hcell
  exact ⟨v0, v1, v2, v3, v4, hcell, ht⟩

theorem flat_mem {c : Nat → Fin 5 → Value} {n : Nat} {u : Value} (h : u ∈ flat c n) : ∃ i j, i < n ∧ u = c i j := by
  unfold flat at h
  obtain ⟨i, hi, hu⟩ := List.mem_flatMap.1 h
  refine ⟨i, ?_⟩
  simp at hu
  rcases hu with rfl | rfl | rfl | rfl | rfl
  · exact ⟨0, List.mem_range.1 hi, rfl⟩
  · exact ⟨1, List.mem_range.1 hi, rfl⟩
  · exact ⟨2, List.mem_range.1 hi, rfl⟩
  · exact ⟨3, List.mem_range.1 hi, rfl⟩
  · exact ⟨4, List.mem_range.1 hi, rfl⟩
theorem InH.one {w : World} {h : Nat} {T : VT} {c : Fin 5 → Value} (H : InH w h T (.agg #[c 0, c 1, c 2, c 3, c 4])) (j : Fin 5) : (c j).oneCell' = true := by
  obtain ⟨k, n, t, io, N, ic, ko, K, kc, e0, e1, e2, e3, e4⟩ := H.shape
  match j with
  | 0 => rw [e0]; rfl
  | 1 => rw [e1]; rfl
  | 2 => rw [e2]; rfl
  | 3 => rw [e3]; rfl
  | 4 => rw [e4]; rfl

/-- its cells, as append asks for them -/
theorem VtC.news {w : World} {h : Nat} {ao : Option Addr} {cap : Nat} {us : List VT} (H : VtC w h ao cap us) : ∃ c : Nat → Fin 5 → Value, (∀ ad, ao = some ad → ∀ j u, (flat c us.length)[j]? = some u → w.cell? (ad.add j) = some u) ∧ (∀ u ∈ flat c us.length, u.oneCell' = true) ∧ ∀ i, (hi : i < us.length) → InH w h us[i] (.agg #[c i 0, c i 1, c i 2, c i 3, c i 4]) := by
  rcases Nat.eq_zero_or_pos us.length with h0 | h0
  · refine ⟨fun _ _ => undef, fun ad _ j u hu => ?_, fun u hu => ?_, fun i hi => by omega⟩
    · rw [h0] at hu; cases hu
    · rw [h0] at hu; cases hu
  · obtain ⟨b, off, e, hl, hc⟩ := H.it.row h0
    have hch : ∀ i, ∃ f : Fin 5 → Value, (hi : i < us.length) → (∀ j : Fin 5, w.cell? ⟨b, off + i * 5 + j.1, none⟩ = some (f j)) ∧ InH w h us[i] (.agg #[f 0, f 1, f 2, f 3, f 4]) := fun i => by
      by_cases hi : i < us.length
      · obtain ⟨v0, v1, v2, v3, v4, ⟨c0, c1, c2, c3, c4⟩, ht⟩ := hc i hi
        refine ⟨fun j => match j with | 0 => v0 | 1 => v1 | 2 => v2 | 3 => v3 | 4 => v4, fun _ => ⟨fun j => ?_, ht⟩⟩
        match j with
        | 0 => exact c0
        | 1 => exact c1
        | 2 => exact c2
        | 3 => exact c3
        | 4 => exact c4
      · exact ⟨fun _ => undef, fun hi' => absurd hi' hi⟩
    refine ⟨fun i => (hch i).choose, fun ad ha j u hu => ?_, fun u hu => ?_, fun i hi => ((hch i).choose_spec hi).2⟩
    · rw [e] at ha
      obtain rfl := Option.some.inj ha
      have hj : j < us.length * 5 := by have := (List.getElem?_eq_some_iff.1 hu).1; rwa [flat_len] at this
      have hg := flat_get (fun i => (hch i).choose) us.length (j / 5) ⟨j % 5, Nat.mod_lt _ (by omega)⟩ (by omega)
      have ej : j / 5 * 5 + j % 5 = j := by omega
      simp only [ej] at hg
      rw [hu] at hg
      obtain rfl := Option.some.inj hg
      rw [Addr.add_lit]
      have := ((hch (j / 5)).choose_spec (by omega)).1 ⟨j % 5, Nat.mod_lt _ (by omega)⟩
      rw [← this]
      show w.cell? ⟨b, off + j, none⟩ = w.cell? ⟨b, off + j / 5 * 5 + j % 5, none⟩
      rw [show off + j / 5 * 5 + j % 5 = off + j from by omega]
    · obtain ⟨i, j, hi, rfl⟩ := flat_mem hu
      exact InH.one ((hch i).choose_spec hi).2 j

/-- a row of one's own of values that lie elsewhere -/
def OutR (w wr : World) (h k N : Nat) (us : List VT) : Prop := us.length = k ∧ ∃ c : Nat → Fin 5 → Value, wr.ownsRow w.heap.size 25 5 (.slice (some ⟨w.heap.size, 0, none⟩) k N) k (flat c k) ∧ ∀ i, (hi : i < us.length) → InH w h us[i] (.agg #[c i 0, c i 1, c i 2, c i 3, c i 4])
theorem OutR.low {w wr u : World} {h k N : Nat} {us : List VT} (H : OutR w wr h k N us) (hb : Below wr.heap.size wr u) : OutR w u h k N us := by
  obtain ⟨h1, c, h2, h3⟩ := H
  exact ⟨h1, c, own_low h2 hb, h3⟩
theorem flat_app (c d : Nat → Fin 5 → Value) (k n : Nat) : flat c k ++ flat d n = flat (fun i => if i < k then c i else d (i - k)) (k + n) := by
  induction n with
  | zero =>
    rw [Nat.add_zero, show flat d 0 = [] from rfl, List.append_nil]
    exact flat_eq fun i hi => (if_pos hi).symm
  | succ n ih =>
    rw [flat_up, ← List.append_assoc, ih, ← Nat.add_assoc, flat_up]
    simp [show ¬ k + n < k by omega]
theorem OutR.app {w w3 : World} {h k N n : Nat} {us vs : List VT} (hk : us.length = k) (hn : vs.length = n) (c d : Nat → Fin 5 → Value) (h3 : ∀ i, (hi : i < us.length) → InH w h us[i] (.agg #[c i 0, c i 1, c i 2, c i 3, c i 4])) (h4 : ∀ i, (hi : i < vs.length) → InH w h vs[i] (.agg #[d i 0, d i 1, d i 2, d i 3, d i 4]))
    (ho : w3.ownsRow w.heap.size 25 5 (.slice (some ⟨w.heap.size, 0, none⟩) (k + n) N) (k + n) (flat c k ++ flat d n)) : OutR w w3 h (k + n) N (us ++ vs) := by
  rw [flat_app] at ho
  refine ⟨by rw [List.length_append, hk, hn], _, ho, fun i hi => ?_⟩
  rw [List.length_append] at hi
  by_cases hik : i < us.length
  · rw [List.getElem_append_left hik]
    simp only [if_pos (show i < k by omega)]
    exact h3 i hik
  · rw [List.getElem_append_right (by omega)]
    simp only [if_neg (show ¬ i < k by omega), hk]
    have := h4 (i - k) (by omega)
    exact this

/-- what merged holds in its loop, of values -/
structure MvS (w wr : World) (h : Nat) (zs : List VT) (xs ys l r pre : List Nat) (N : Nat) (ao : Option Addr) (ac : Nat) (bo : Option Addr) (bc : Nat) : Prop where
  below : Below w.heap.size w wr
  a : VtC w h ao ac (pick zs l)
  b : VtC w h bo bc (pick zs r)
  own : OutR w wr h pre.length N (pick zs pre)
  eq : mg (cK h zs) xs ys = pre ++ mg (cK h zs) l r
  len : pre.length + l.length + r.length = N
  ma : ∀ x ∈ l, x ∈ xs
  mb : ∀ x ∈ r, x ∈ ys

theorem pick_cons {zs : List VT} {x : Nat} {l : List Nat} (h : x < zs.length) : pick zs (x :: l) = zs[x] :: pick zs l := by simp [pick, h]
theorem pick_app (zs : List VT) (a b : List Nat) : pick zs (a ++ b) = pick zs a ++ pick zs b := by simp [pick]

theorem OutR.one {w wr w2 w3 : World} {h N : Nat} {zs : List VT} {pre : List Nat} {x : Nat} {o : Obj} {c : Nat → Fin 5 → Value} {y0 y1 y2 y3 y4 : Value} (hx : x < zs.length) (h3 : ∀ i, (hi : i < (pick zs pre).length) → InH w h (pick zs pre)[i] (.agg #[c i 0, c i 1, c i 2, c i 3, c i 4])) (hy : InH w h zs[x] (.agg #[y0, y1, y2, y3, y4]))
    (ho : w3.ownsRow w.heap.size 25 5 (.slice (some ⟨w.heap.size, 0, none⟩) (pre.length + 1) N) (pre.length + 1) (flat c pre.length ++ [y0, y1, y2, y3, y4])) : OutR w w3 h (pre ++ [x]).length N (pick zs (pre ++ [x])) := by
  rw [pick_app, List.length_append]
  have e : pick zs [x] = [zs[x]] := by rw [pick_cons hx]; rfl
  rw [e]
  refine OutR.app (pick_len ..) rfl c (fun _ j => match j with | 0 => y0 | 1 => y1 | 2 => y2 | 3 => y3 | 4 => y4) h3 (fun i hi => ?_) ho
  obtain rfl : i = 0 := by simp at hi; omega
  exact hy

theorem MvS.left {w wr w2 w3 : World} {h : Nat} {zs : List VT} {xs ys l r pre : List Nat} {x y N b off lc rc : Nat} {ro : Option Addr} {o : Obj} {c : Nat → Fin 5 → Value} {y0 y1 y2 y3 y4 : Value} (H : MvS w wr h zs xs ys (x :: l) (y :: r) pre N (some ⟨b, off, none⟩) lc ro rc) (hb : Below wr.heap.size wr w2) (hz : mg (cK h zs) (x :: l) (y :: r) = x :: mg (cK h zs) l (y :: r))
    (hx : x < zs.length) (h3 : ∀ i, (hi : i < (pick zs pre).length) → InH w h (pick zs pre)[i] (.agg #[c i 0, c i 1, c i 2, c i 3, c i 4])) (hy : InH w h zs[x] (.agg #[y0, y1, y2, y3, y4]))
    (hg : (w2.alloc o).drew.grownBy w3 (some w.heap.size)) (hown : w3.ownsRow w.heap.size 25 5 (.slice (some ⟨w.heap.size, 0, none⟩) (pre.length + 1) N) (pre.length + 1) (flat c pre.length ++ [y0, y1, y2, y3, y4])) (no : Option Addr) (ha : no = none → lc - 1 = 0) (ha2 : ¬ lc = 1 → no = some ⟨b, off + 5, none⟩) :
    MvS w w3 h zs xs ys l (y :: r) (pre ++ [x]) N no (lc - 1) ro rc := by
  have hs := H.below.size
  have hs2 := hb.size
  have e : pick zs (x :: l) = zs[x] :: pick zs l := pick_cons hx
  have ht := H.a
  rw [e] at ht
  refine ⟨(((H.below.trans (hb.mono hs)).alloc (by omega) o).drew.grown hg (by simp; omega) (fun j e => by cases e; exact Nat.le_refl _)), ht.tail no ha ha2, H.b, OutR.one (w2 := w2) (wr := wr) (o := o) hx h3 hy hown, ?_, ?_, fun z hz => H.ma z (List.mem_cons_of_mem _ hz), H.mb⟩
  · rw [H.eq, hz]; simp
  · have := H.len; simp at this ⊢; omega

theorem MvS.right {w wr w2 w3 : World} {h : Nat} {zs : List VT} {xs ys l r pre : List Nat} {x y N b off lc rc : Nat} {lo : Option Addr} {o : Obj} {c : Nat → Fin 5 → Value} {y0 y1 y2 y3 y4 : Value} (H : MvS w wr h zs xs ys (x :: l) (y :: r) pre N lo lc (some ⟨b, off, none⟩) rc) (hb : Below wr.heap.size wr w2) (hz : mg (cK h zs) (x :: l) (y :: r) = y :: mg (cK h zs) (x :: l) r)
    (hx : y < zs.length) (h3 : ∀ i, (hi : i < (pick zs pre).length) → InH w h (pick zs pre)[i] (.agg #[c i 0, c i 1, c i 2, c i 3, c i 4])) (hy : InH w h zs[y] (.agg #[y0, y1, y2, y3, y4]))
    (hg : (w2.alloc o).drew.grownBy w3 (some w.heap.size)) (hown : w3.ownsRow w.heap.size 25 5 (.slice (some ⟨w.heap.size, 0, none⟩) (pre.length + 1) N) (pre.length + 1) (flat c pre.length ++ [y0, y1, y2, y3, y4])) (no : Option Addr) (ha : no = none → rc - 1 = 0) (ha2 : ¬ rc = 1 → no = some ⟨b, off + 5, none⟩) :
    MvS w w3 h zs xs ys (x :: l) r (pre ++ [y]) N lo lc no (rc - 1) := by
  have hs := H.below.size
  have hs2 := hb.size
  have e : pick zs (y :: r) = zs[y] :: pick zs r := pick_cons hx
  have ht := H.b
  rw [e] at ht
  refine ⟨(((H.below.trans (hb.mono hs)).alloc (by omega) o).drew.grown hg (by simp; omega) (fun j e => by cases e; exact Nat.le_refl _)), H.a, ht.tail no ha ha2, OutR.one (w2 := w2) (wr := wr) (o := o) hx h3 hy hown, ?_, ?_, H.ma, fun z hz => H.mb z (List.mem_cons_of_mem _ hz)⟩
  · rw [H.eq, hz]; simp
  · have := H.len; simp at this ⊢; omega

end Go.Proofs.Ytmknelkgfnklfaa
namespace Go.Proofs.Ytmknelkgfnklfaa
open Go.RowKit Go.Shelf Go.Sort
set_option linter.unusedVariables false
set_option linter.unusedSimpArgs false
attribute [local go_sem] Oper.semAt_some

theorem cell_keep {w u : World} {a : Addr} {v : Value} (hb : Below w.heap.size w u) (h : w.cell? a = some v) : u.cell? a = some v := (hb.cell (block_lt_of_cell h)).trans h

/-- the rests behind, of values -/
theorem MvS.fin {w wr w2 w3 : World} {h : Nat} {zs : List VT} {xs ys l r pre : List Nat} {N lc rc : Nat} {lo ro : Option Addr} (H : MvS w wr h zs xs ys l r pre N lo lc ro rc) (hz : mg (cK h zs) l r = l ++ r)
    (c d e : Nat → Fin 5 → Value) (h3 : ∀ i, (hi : i < (pick zs pre).length) → InH w h (pick zs pre)[i] (.agg #[c i 0, c i 1, c i 2, c i 3, c i 4])) (h4 : ∀ i, (hi : i < (pick zs l).length) → InH w h (pick zs l)[i] (.agg #[d i 0, d i 1, d i 2, d i 3, d i 4])) (h5 : ∀ i, (hi : i < (pick zs r).length) → InH w h (pick zs r)[i] (.agg #[e i 0, e i 1, e i 2, e i 3, e i 4]))
    (hg : wr.grownBy w2 (some w.heap.size)) (hg2 : w2.grownBy w3 (some w.heap.size)) (hown : w3.ownsRow w.heap.size 25 5 (.slice (some ⟨w.heap.size, 0, none⟩) N N) N (flat c pre.length ++ flat d l.length ++ flat e r.length)) :
    OutR w w3 h N N (pick zs (mg (cK h zs) xs ys)) ∧ Below w.heap.size w w3 := by
  have hs := H.below.size
  have hs2 := hg.size
  refine ⟨?_, (H.below.grown hg hs (fun j e => by cases e; exact Nat.le_refl _)).grown hg2 (by omega) (fun j e => by cases e; exact Nat.le_refl _)⟩
  have hl := H.len
  subst hl
  rw [H.eq, hz, ← List.append_assoc, pick_app, pick_app]
  rw [flat_app] at hown
  refine OutR.app (by rw [List.length_append, pick_len, pick_len]) (pick_len ..) _ e (fun i hi => ?_) h5 hown
  rw [List.length_append] at hi
  by_cases hik : i < (pick zs pre).length
  · rw [List.getElem_append_left hik]
    simp only [if_pos (show i < pre.length by rw [pick_len] at hik; exact hik)]
    exact h3 i hik
  · rw [List.getElem_append_right (by omega)]
    simp only [if_neg (show ¬ i < pre.length by rw [pick_len] at hik; exact hik), pick_len]
    have := h4 (i - pre.length) (by rw [pick_len] at hik hi; rw [pick_len] at hi ⊢; omega)
    exact this

set_option maxRecDepth 100000 in
set_option maxHeartbeats 3200000 in
theorem w_mergedV (h : Nat) (zs : List VT) (ao : Option Addr) (M acap : Nat) (bo : Option Addr) (K bcap : Nat) (xs ys : List Nat) (w : World) (ha : VtC w h ao acap (pick zs xs)) (hb : VtC w h bo bcap (pick zs ys)) (hM : xs.length = M) (hK : ys.length = K) (hMK : M + K ≤ 1100000) (hx : ∀ x ∈ xs, x < zs.length) (hy : ∀ y ∈ ys, y < zs.length) :
    Calls Try.prog 34 #[.slice ao M acap, .slice bo K bcap, .func (.func 35) #[] #[]] w fun e w' => e = .returned (.slice (some ⟨w.heap.size, 0, none⟩) (M + K) (M + K)) ∧ OutR w w' h (M + K) (M + K) (pick zs (mg (cK h zs) xs ys)) ∧ Below w.heap.size w w' := by
  obtain ⟨i0, hi0, hz0, hz1, hz2⟩ := info_parts Try.infoV
  have HA := Hid.mk ha
  have HB := Hid.mk hb
  have HM := Hid.mk hM
  have HK := Hid.mk hK
  have HX := Hid.mk hx
  have HY := Hid.mk hy
  clear ha hb hM hK hx hy
  have hmax : M + K ≤ maxLen := by unfold maxLen; omega
  obtain ⟨R, HR⟩ : ∃ R, Hid (pick zs (mg (cK h zs) xs ys) = R) := ⟨_, rfl⟩
  rw [HR.out]
  go_enter Try.func34, Try.ntmps34
  go_wp2_with (at_make; go_loud (refine wpList_make_own _ rfl _ _ 22 rfl w.heap.size 25 i0 (.agg #[.int .i64 0, .string ⟨#[]⟩, .string ⟨#[]⟩, .slice none 0 0, .slice none 0 0]) 5 Try.underlying22 hi0 hz0 hz1 .i64 .i64 _ (M + K) rfl rfl (by omega) (by rw [hz2]; omega) hmax (Nat.le_refl _) ?_; intro w1 hown1 hgrow1))
  go_loopw [0, 1, 7] (fun va vb vo wr => ∃ (l r pre : List Nat) (lo : Option Addr) (lc : Nat) (ro : Option Addr) (rc : Nat), va = .slice lo l.length lc ∧ vb = .slice ro r.length rc ∧ vo = .slice (some ⟨w.heap.size, 0, none⟩) pre.length (M + K) ∧ Hid (MvS w wr h zs xs ys l r pre (M + K) lo lc ro rc)) (fun va vb _ _ => lenV va + lenV vb)
  case atStart => exact ⟨xs, ys, [], ao, acap, bo, bcap, by rw [HM.out], by rw [HK.out], rfl, ⟨(Below.refl _ _).grown hgrow1 (Nat.le_refl _) (fun j e => by cases e), HA.out, HB.out, ⟨rfl, fun _ _ => undef, hown1, fun i hi => absurd hi (Nat.not_lt_zero _)⟩, rfl, by simp [HM.out, HK.out], fun _ h => h, fun _ h => h⟩⟩
  case round =>
    clear hown1 hgrow1
    obtain ⟨l, r, pre, lo, lc, ro, rc, rfl, rfl, rfl, HS⟩ := hrel
    obtain ⟨_, c, hown0, hin0⟩ := HS.out.own
    have HIN := Hid.mk hin0
    clear hin0
    cases l with
    | nil =>
      obtain ⟨nb, hnb⟩ : ∃ nb, r.length = nb := ⟨_, rfl⟩
      rw [hnb]
      have HNB := Hid.mk hnb
      have hlen := HS.out.len
      simp only [List.length_nil, List.length_cons] at hlen
      rw [hnb] at hlen
      clear hnb
      obtain ⟨d, hd1, hd2, hd3⟩ := VtC.news HS.out.a
      obtain ⟨e, he1, he2, he3⟩ := VtC.news HS.out.b
      have HD3 := Hid.mk hd3
      have HE3 := Hid.mk he3
      have hll : (pick zs ([] : List Nat)).length = 0 := by rw [pick_len]; rfl
      have hrl : (pick zs r).length = nb := by rw [pick_len]; exact HNB.out
      rw [hll] at hd1 hd2
      rw [hrl] at he1 he2
      have HD : Hid ((∀ ad, lo = some ad → ∀ j u, (flat d 0)[j]? = some u → wr.cell? (ad.add j) = some u) ∧ (∀ u ∈ flat d 0, u.oneCell' = true)) := ⟨fun ad ha j u hu => cell_keep HS.out.below (hd1 ad ha j u hu), hd2⟩
      have HE : Hid ((∀ u ∈ flat e nb, u.oneCell' = true) ∧ True) := ⟨he2, trivial⟩
      have HE2 : Hid (∀ u2, Below w.heap.size w u2 → ∀ ad, ro = some ad → ∀ j u, (flat e nb)[j]? = some u → u2.cell? (ad.add j) = some u) := fun u2 hb ad ha j u hu => cell_keep hb (he1 ad ha j u hu)
      have hlln := Hid.mk hll
      have hrln := Hid.mk hrl
      clear hd1 hd2 hd3 he1 he2 he3 hll hrl
      go_wp2_with (at_builtin; first | (refine wpList_append_fits_any _ rfl _ _ 22 rfl w.heap.size 25 i0 5 Try.underlying22 hi0 hz1 w.heap.size pre.length (M + K) (flat c pre.length) rfl hown0 lo 0 lc (flat d 0) rfl (flat_len ..) (fun e => ⟨rfl, HS.out.a.nil e⟩) HD.out.1 HD.out.2 (by omega) ?_; intro w2 hown2 hgrow2) | (refine wpList_append_fits_any _ rfl _ _ 22 rfl w.heap.size 25 i0 5 Try.underlying22 hi0 hz1 w.heap.size (pre.length + 0) (M + K) _ rfl hown2 ro nb rc (flat e nb) rfl (flat_len ..) (fun e => ⟨(by have h1 := HS.out.b.fit; have h2 := HS.out.b.nil e; rw [pick_len] at h1; have h3 := HNB.out; omega), HS.out.b.nil e⟩) (HE2.out w2 (HS.out.below.grown hgrow2 HS.out.below.size (fun j e => by cases e; exact Nat.le_refl _))) HE.out.1 (by omega) ?_; intro w3 hown3 hgrow3))
      have eN : pre.length + 0 + nb = M + K := by omega
      rw [eN] at hown3
      clear eN
      have HFin := Hid.mk (MvS.fin HS.out (mg_nil ..) c d e HIN.out HD3.out HE3.out hgrow2 hgrow3 (by
        have e1 : ([] : List Nat).length = 0 := by rfl
        have e2 : r.length = nb := by exact HNB.out
        rw [e1, e2]; exact hown3))
      rw [HR.out] at HFin
      have HL : Hid (pre.length + 0 + nb = M + K) := hlen
      clear hown2 hown3 hgrow2 hgrow3 hlen hown0
      go_wp2_with fail
      go_ret
      exact ⟨by first | exact congrArg (fun n => Ending.returned (Value.slice (some ⟨w.heap.size, 0, none⟩) n (M + K))) HL.out | rfl, HFin.out.1, HFin.out.2⟩
    | cons x l =>
      cases r with
      | nil =>
        obtain ⟨na, hna⟩ : ∃ na, l.length = na := ⟨_, rfl⟩
        rw [List.length_cons, hna]
        have HNA := Hid.mk hna
        have e1 : 0 < (na : Int) + 1 := by omega
        have hlen := HS.out.len
        simp only [List.length_nil, List.length_cons] at hlen
        rw [hna] at hlen
        clear hna
        obtain ⟨d, hd1, hd2, hd3⟩ := VtC.news HS.out.a
        obtain ⟨e, he1, he2, he3⟩ := VtC.news HS.out.b
        have HD3 := Hid.mk hd3
        have HE3 := Hid.mk he3
        have hll : (pick zs (x :: l)).length = (na + 1) := by rw [pick_len]; rw [List.length_cons, HNA.out]
        have hrl : (pick zs ([] : List Nat)).length = 0 := by rw [pick_len]; rfl
        rw [hll] at hd1 hd2
        rw [hrl] at he1 he2
        have HD : Hid ((∀ ad, lo = some ad → ∀ j u, (flat d (na + 1))[j]? = some u → wr.cell? (ad.add j) = some u) ∧ (∀ u ∈ flat d (na + 1), u.oneCell' = true)) := ⟨fun ad ha j u hu => cell_keep HS.out.below (hd1 ad ha j u hu), hd2⟩
        have HE : Hid ((∀ u ∈ flat e 0, u.oneCell' = true) ∧ True) := ⟨he2, trivial⟩
        have HE2 : Hid (∀ u2, Below w.heap.size w u2 → ∀ ad, ro = some ad → ∀ j u, (flat e 0)[j]? = some u → u2.cell? (ad.add j) = some u) := fun u2 hb ad ha j u hu => cell_keep hb (he1 ad ha j u hu)
        have hlln := Hid.mk hll
        have hrln := Hid.mk hrl
        clear hd1 hd2 hd3 he1 he2 he3 hll hrl
        go_wp2_with (at_builtin; first | (refine wpList_append_fits_any _ rfl _ _ 22 rfl w.heap.size 25 i0 5 Try.underlying22 hi0 hz1 w.heap.size pre.length (M + K) (flat c pre.length) rfl hown0 lo (na + 1) lc (flat d (na + 1)) rfl (flat_len ..) (fun e => ⟨(by have h1 := HS.out.a.fit; have h2 := HS.out.a.nil e; rw [pick_len] at h1; simp at h1; omega), HS.out.a.nil e⟩) HD.out.1 HD.out.2 (by omega) ?_; intro w2 hown2 hgrow2) | (refine wpList_append_fits_any _ rfl _ _ 22 rfl w.heap.size 25 i0 5 Try.underlying22 hi0 hz1 w.heap.size (pre.length + (na + 1)) (M + K) _ rfl hown2 ro 0 rc (flat e 0) rfl (flat_len ..) (fun e => ⟨rfl, HS.out.b.nil e⟩) (HE2.out w2 (HS.out.below.grown hgrow2 HS.out.below.size (fun j e => by cases e; exact Nat.le_refl _))) HE.out.1 (by omega) ?_; intro w3 hown3 hgrow3))
        have eN : pre.length + (na + 1) + 0 = M + K := by omega
        rw [eN] at hown3
        clear eN
        have HFin := Hid.mk (MvS.fin HS.out (by rw [mg_nil', List.append_nil]) c d e HIN.out HD3.out HE3.out hgrow2 hgrow3 (by
          have e1 : (x :: l).length = (na + 1) := by rw [List.length_cons, HNA.out]
          have e2 : ([] : List Nat).length = 0 := by rfl
          rw [e1, e2]; exact hown3))
        rw [HR.out] at HFin
        have HL : Hid (pre.length + (na + 1) + 0 = M + K) := hlen
        clear hown2 hown3 hgrow2 hgrow3 hlen hown0
        go_wp2_with fail
        go_ret
        exact ⟨by first | exact congrArg (fun n => Ending.returned (Value.slice (some ⟨w.heap.size, 0, none⟩) n (M + K))) HL.out | rfl, HFin.out.1, HFin.out.2⟩
      | cons y r =>
        have hpx := HX.out x (HS.out.ma x (List.mem_cons_self ..))
        have hpy := HY.out y (HS.out.mb y (List.mem_cons_self ..))
        have HPX := Hid.mk hpx
        have HPY := Hid.mk hpy
        have hA0 := HS.out.a
        have hB0 := HS.out.b
        rw [pick_cons hpx] at hA0
        rw [pick_cons hpy] at hB0
        obtain ⟨b, off, hlo, hbl, hrow⟩ := hA0.it.row (by simp)
        obtain ⟨b2, off2, hro, hbl2, hrow2⟩ := hB0.it.row (by simp)
        subst hlo
        subst hro
        obtain ⟨ik, inm, itx, iio, iN, iicap, iko, iK, ikcap, ⟨c0, c1, c2, c3, c4⟩, ht⟩ := item_at hrow (i := 0) (by simp)
        obtain ⟨jk, jnm, jtx, jio, jN, jicap, jko, jK, jkcap, ⟨d0, d1, d2, d3, d4⟩, hu⟩ := item_at hrow2 (i := 0) (by simp)
        simp only [Nat.zero_mul, Nat.add_zero, List.getElem_cons_zero] at c0 c1 c2 c3 c4 d0 d1 d2 d3 d4 ht hu
        have HTX := Hid.mk ht
        have HTY := Hid.mk hu
        have HCC : Hid (∀ (d : Nat) (os : Array Obj), Calls Try.prog 35 #[.agg #[.int .i64 ik, .string inm, .string itx, .slice iio iN iicap, .slice iko iK ikcap], .agg #[.int .i64 jk, .string jnm, .string jtx, .slice jio jN jicap, .slice jko jK jkcap]] (grow (redrawn wr d) os) fun e w' => e = .returned (.int .i64 (cK h zs x y)) ∧ Below (grow (redrawn wr d) os).heap.size (grow (redrawn wr d) os) w') := fun d os => by
          rw [cK_at hpx hpy]
          exact w_vCmp h zs[x] zs[y] _ _ (grow (redrawn wr d) os) ((ht.keep HS.out.below).keep (below_regrown wr d os)) ((hu.keep HS.out.below).keep (below_regrown wr d os))
        have fl := HS.out.a.fit
        have fr := HS.out.b.fit
        rw [pick_len] at fl fr
        have HLE := Hid.mk (fun h' => mg_le (c := cK h zs) (x := x) (y := y) (xs := l) (ys := r) h')
        have HGT := Hid.mk (fun h' => mg_gt (c := cK h zs) (x := x) (y := y) (xs := l) (ys := r) h')
        generalize hcc : cK h zs x y = z at HCC HLE HGT
        clear hcc hrow hrow2 hA0 hB0 ht hu
        have k0 := cell_keep HS.out.below c0
        have k1 := cell_keep HS.out.below c1
        have k2 := cell_keep HS.out.below c2
        have k3 := cell_keep HS.out.below c3
        have k4 := cell_keep HS.out.below c4
        have m0 := cell_keep HS.out.below d0
        have m1 := cell_keep HS.out.below d1
        have m2 := cell_keep HS.out.below d2
        have m3 := cell_keep HS.out.below d3
        have m4 := cell_keep HS.out.below d4
        clear c0 c1 c2 c3 c4 d0 d1 d2 d3 d4
        simp only [List.length_cons] at fl fr ⊢
        obtain ⟨na, hna⟩ : ∃ na, l.length = na := ⟨_, rfl⟩
        obtain ⟨nb, hnb⟩ : ∃ nb, r.length = nb := ⟨_, rfl⟩
        rw [hna] at fl ⊢
        rw [hnb] at fr ⊢
        have HNA := Hid.mk hna
        have HNB := Hid.mk hnb
        clear hna hnb
        have e1 : 0 < (na : Int) + 1 := by omega
        have e2 : 0 < (nb : Int) + 1 := by omega
        have R0 := fun d os => cell_regrown k0 d os
        have S0 := fun d os => cell_regrown m0 d os
        have R1 := fun d os => cell_regrown k1 d os
        have S1 := fun d os => cell_regrown m1 d os
        have R2 := fun d os => cell_regrown k2 d os
        have S2 := fun d os => cell_regrown m2 d os
        have R3 := fun d os => cell_regrown k3 d os
        have S3 := fun d os => cell_regrown m3 d os
        have R4 := fun d os => cell_regrown k4 d os
        have S4 := fun d os => cell_regrown m4 d os
        go_wp2_with fail
        refine wp_region_quiet_below (by kernel_rfl) (by kernel_rfl) ?_
        repeat (go_big_quiet_step (exact Calls.regrown_of (HCC.out _ _)))
        refine wpQuiet_nil ?_
        intro w2 hw'
        have HB2 : Hid (Below wr.heap.size wr w2) := by
          obtain ⟨⟨dq, osq⟩, rfl⟩ := hw'
          exact below_regrown wr dq osq
        clear hw' R0 R1 R2 R3 R4 S0 S1 S2 S3 S4 HCC
        have hbr := HS.out.below.size
        by_cases hz : z ≤ 0
        · have HE := Hid.mk (HLE.out hz)
          clear HLE HGT
          have hkc : pre.length + 1 ≤ M + K := by have := HS.out.len; simp at this; omega
          have p0 : w2.cell? ⟨b, off, none⟩ = some (.int .i64 ik) := cell_keep HB2.out k0
          have q0 : ∀ o, (w2.alloc o).cell? ⟨b, off, none⟩ = some (.int .i64 ik) := fun o => cell_keep (below1 w2 o) p0
          have p1 : w2.cell? ⟨b, off + 1, none⟩ = some (.string inm) := cell_keep HB2.out k1
          have q1 : ∀ o, (w2.alloc o).cell? ⟨b, off + 1, none⟩ = some (.string inm) := fun o => cell_keep (below1 w2 o) p1
          have p2 : w2.cell? ⟨b, off + 2, none⟩ = some (.string itx) := cell_keep HB2.out k2
          have q2 : ∀ o, (w2.alloc o).cell? ⟨b, off + 2, none⟩ = some (.string itx) := fun o => cell_keep (below1 w2 o) p2
          have p3 : w2.cell? ⟨b, off + 3, none⟩ = some (.slice iio iN iicap) := cell_keep HB2.out k3
          have q3 : ∀ o, (w2.alloc o).cell? ⟨b, off + 3, none⟩ = some (.slice iio iN iicap) := fun o => cell_keep (below1 w2 o) p3
          have p4 : w2.cell? ⟨b, off + 4, none⟩ = some (.slice iko iK ikcap) := cell_keep HB2.out k4
          have q4 : ∀ o, (w2.alloc o).cell? ⟨b, off + 4, none⟩ = some (.slice iko iK ikcap) := fun o => cell_keep (below1 w2 o) p4
          have hown := own_low hown0 HB2.out
          have s1 : (1 : Int) ≤ (na : Int) + 1 := by omega
          clear k0 k1 k2 k3 k4 m0 m1 m2 m3 m4 hown0
          by_cases hl1 : lc = 1
          · subst hl1
            obtain rfl : na = 0 := by omega
            go_wp2_with fail
            go_region_law (refine step_append_fits (by rfl) _ _ _ (by rfl) w.heap.size 25 i0 5 Try.underlying22 hi0 hz1 w.heap.size pre.length (M + K) (flat c pre.length) (by rfl) (hown.alloc _) ⟨w2.heap.size, 0, none⟩ 1 1 [.int .i64 ik, .string inm, .string itx, .slice iio iN iicap, .slice iko iK ikcap] (by rfl) (by rfl) (new5 (heap_alloc_new w2 _)) (by intro u hu; simp at hu; rcases hu with rfl | rfl | rfl | rfl | rfl <;> rfl) hkc ?_; intro w3 hown3 hgrow3)
            have HN : Hid (MvS w w3 h zs xs ys l (y :: r) (pre ++ [x]) (M + K) (some ⟨b, off, none⟩) 0 (some ⟨b2, off2, none⟩) rc) := MvS.left HS.out HB2.out HE.out HPX.out HIN.out HTX.out hgrow3 hown3 (some ⟨b, off, none⟩) (fun e => by cases e) (fun e => absurd rfl e)
            clear hown3 hgrow3 hown p0 p1 p2 p3 p4 q0 q1 q2 q3 q4
            go_simp
            go_wp2_with fail
            go_roundw
            case rel => exact ⟨_, _, _, _, _, _, _, by rw [HNA.out], by rw [List.length_cons, HNB.out], by rw [List.length_append]; rfl, HN⟩
            case measure => simp [lenV]
          · go_wp2_with fail
            go_region_law (refine step_append_fits (by rfl) _ _ _ (by rfl) w.heap.size 25 i0 5 Try.underlying22 hi0 hz1 w.heap.size pre.length (M + K) (flat c pre.length) (by rfl) (hown.alloc _) ⟨w2.heap.size, 0, none⟩ 1 1 [.int .i64 ik, .string inm, .string itx, .slice iio iN iicap, .slice iko iK ikcap] (by rfl) (by rfl) (new5 (heap_alloc_new w2 _)) (by intro u hu; simp at hu; rcases hu with rfl | rfl | rfl | rfl | rfl <;> rfl) hkc ?_; intro w3 hown3 hgrow3)
            have HN : Hid (MvS w w3 h zs xs ys l (y :: r) (pre ++ [x]) (M + K) (some ⟨b, off + 5, none⟩) (lc - 1) (some ⟨b2, off2, none⟩) rc) := MvS.left HS.out HB2.out HE.out HPX.out HIN.out HTX.out hgrow3 hown3 (some ⟨b, off + 5, none⟩) (fun e => by cases e) (fun _ => rfl)
            clear hown3 hgrow3 hown p0 p1 p2 p3 p4 q0 q1 q2 q3 q4
            go_simp
            go_wp2_with fail
            go_roundw
            case rel => exact ⟨_, _, _, _, _, _, _, by rw [HNA.out], by rw [List.length_cons, HNB.out], by rw [List.length_append]; rfl, HN⟩
            case measure => simp [lenV]
        · have HE := Hid.mk (HGT.out (by omega))
          clear HLE HGT
          have hkc : pre.length + 1 ≤ M + K := by have := HS.out.len; simp at this; omega
          have p0 : w2.cell? ⟨b2, off2, none⟩ = some (.int .i64 jk) := cell_keep HB2.out m0
          have q0 : ∀ o, (w2.alloc o).cell? ⟨b2, off2, none⟩ = some (.int .i64 jk) := fun o => cell_keep (below1 w2 o) p0
          have p1 : w2.cell? ⟨b2, off2 + 1, none⟩ = some (.string jnm) := cell_keep HB2.out m1
          have q1 : ∀ o, (w2.alloc o).cell? ⟨b2, off2 + 1, none⟩ = some (.string jnm) := fun o => cell_keep (below1 w2 o) p1
          have p2 : w2.cell? ⟨b2, off2 + 2, none⟩ = some (.string jtx) := cell_keep HB2.out m2
          have q2 : ∀ o, (w2.alloc o).cell? ⟨b2, off2 + 2, none⟩ = some (.string jtx) := fun o => cell_keep (below1 w2 o) p2
          have p3 : w2.cell? ⟨b2, off2 + 3, none⟩ = some (.slice jio jN jicap) := cell_keep HB2.out m3
          have q3 : ∀ o, (w2.alloc o).cell? ⟨b2, off2 + 3, none⟩ = some (.slice jio jN jicap) := fun o => cell_keep (below1 w2 o) p3
          have p4 : w2.cell? ⟨b2, off2 + 4, none⟩ = some (.slice jko jK jkcap) := cell_keep HB2.out m4
          have q4 : ∀ o, (w2.alloc o).cell? ⟨b2, off2 + 4, none⟩ = some (.slice jko jK jkcap) := fun o => cell_keep (below1 w2 o) p4
          have hown := own_low hown0 HB2.out
          have s1 : (1 : Int) ≤ (nb : Int) + 1 := by omega
          clear k0 k1 k2 k3 k4 m0 m1 m2 m3 m4 hown0
          by_cases hl1 : rc = 1
          · subst hl1
            obtain rfl : nb = 0 := by omega
            go_wp2_with fail
            go_region_law (refine step_append_fits (by rfl) _ _ _ (by rfl) w.heap.size 25 i0 5 Try.underlying22 hi0 hz1 w.heap.size pre.length (M + K) (flat c pre.length) (by rfl) (hown.alloc _) ⟨w2.heap.size, 0, none⟩ 1 1 [.int .i64 jk, .string jnm, .string jtx, .slice jio jN jicap, .slice jko jK jkcap] (by rfl) (by rfl) (new5 (heap_alloc_new w2 _)) (by intro u hu; simp at hu; rcases hu with rfl | rfl | rfl | rfl | rfl <;> rfl) hkc ?_; intro w3 hown3 hgrow3)
            have HN : Hid (MvS w w3 h zs xs ys (x :: l) r (pre ++ [y]) (M + K) (some ⟨b, off, none⟩) lc (some ⟨b2, off2, none⟩) 0) := MvS.right HS.out HB2.out HE.out HPY.out HIN.out HTY.out hgrow3 hown3 (some ⟨b2, off2, none⟩) (fun e => by cases e) (fun e => absurd rfl e)
            clear hown3 hgrow3 hown p0 p1 p2 p3 p4 q0 q1 q2 q3 q4
            go_simp
            go_wp2_with fail
            go_roundw
            case rel => exact ⟨_, _, _, _, _, _, _, by rw [List.length_cons, HNA.out], by rw [HNB.out], by rw [List.length_append]; rfl, HN⟩
            case measure => simp [lenV]
          · go_wp2_with fail
            go_region_law (refine step_append_fits (by rfl) _ _ _ (by rfl) w.heap.size 25 i0 5 Try.underlying22 hi0 hz1 w.heap.size pre.length (M + K) (flat c pre.length) (by rfl) (hown.alloc _) ⟨w2.heap.size, 0, none⟩ 1 1 [.int .i64 jk, .string jnm, .string jtx, .slice jio jN jicap, .slice jko jK jkcap] (by rfl) (by rfl) (new5 (heap_alloc_new w2 _)) (by intro u hu; simp at hu; rcases hu with rfl | rfl | rfl | rfl | rfl <;> rfl) hkc ?_; intro w3 hown3 hgrow3)
            have HN : Hid (MvS w w3 h zs xs ys (x :: l) r (pre ++ [y]) (M + K) (some ⟨b, off, none⟩) lc (some ⟨b2, off2 + 5, none⟩) (rc - 1)) := MvS.right HS.out HB2.out HE.out HPY.out HIN.out HTY.out hgrow3 hown3 (some ⟨b2, off2 + 5, none⟩) (fun e => by cases e) (fun _ => rfl)
            clear hown3 hgrow3 hown p0 p1 p2 p3 p4 q0 q1 q2 q3 q4
            go_simp
            go_wp2_with fail
            go_roundw
            case rel => exact ⟨_, _, _, _, _, _, _, by rw [List.length_cons, HNA.out], by rw [HNB.out], by rw [List.length_append]; rfl, HN⟩
            case measure => simp [lenV]
end Go.Proofs.Ytmknelkgfnklfaa
namespace Go.Proofs.Ytmknelkgfnklfaa
open Go.RowKit Go.Shelf Go.Sort
set_option linter.unusedVariables false
set_option linter.unusedSimpArgs false

theorem rsetZ {u : World} {B i : Nat} {c : Array Value} {t : TypeId} (v : Value) (h : u.heap[B]? = some (.cells c t (0, 0))) : (u.setCell ⟨B, i, none⟩ v).heap[B]? = some (.cells (c.setIfInBounds i v) t (0, 0)) := by
  show (u.heap.modify B _)[B]? = _
  rw [Array.getElem?_modify, if_pos rfl, h]; rfl
/-- a cell of a row written over -/
theorem own_setZ {w : World} {B n cap g j size : Nat} {e : TypeId} {xs : List Value} (h : w.ownsRow B e size (.slice (some ⟨g, 0, none⟩) n cap) n xs) (hj : j < n * size) (x : Value) : (w.setCell ⟨g, j, none⟩ x).ownsRow B e size (.slice (some ⟨g, 0, none⟩) n cap) n (xs.set j x) := by
  refine ⟨by rw [List.length_set]; exact h.1, ?_⟩
  rcases h.2 with ⟨e1, e2⟩ | ⟨g', cap', cur, e1, hb, hg, h1, h2, h3, h4⟩
  · cases e1
  · simp only [Value.slice.injEq, Option.some.injEq, Addr.mk.injEq] at e1
    obtain ⟨⟨rfl, _, _⟩, _, rfl⟩ := e1
    refine .inr ⟨g, cap, cur.setIfInBounds j x, rfl, hb, rsetZ (i := j) x hg, h1, h2, by simpa using h3, ?_⟩
    rw [Array.toList_setIfInBounds, List.take_set, h4]
theorem flat_set (c : Nat → Fin 5 → Value) {n k : Nat} (hk : k < n) (j : Fin 5) (v : Value) : (flat c n).set (k * 5 + j.1) v = flat (fun i j' => if i = k ∧ j' = j then v else c i j') n := by
  refine List.ext_getElem? fun m => ?_
  by_cases hm : m < n * 5
  · have e : m / 5 * 5 + m % 5 = m := by omega
    have h1 := flat_get c n (m / 5) ⟨m % 5, Nat.mod_lt _ (by omega)⟩ (by omega)
    have h2 := flat_get (fun i j' => if i = k ∧ j' = j then v else c i j') n (m / 5) ⟨m % 5, Nat.mod_lt _ (by omega)⟩ (by omega)
    simp only [e] at h1 h2
    rw [h2]
    have hj := j.2
    by_cases he : m = k * 5 + j.1
    · rw [he, List.getElem?_set_self (by rw [flat_len]; omega)]
      have e1 : (k * 5 + j.1) / 5 = k := by omega
      have e2 : (k * 5 + j.1) % 5 = j.1 := by omega
      rw [if_pos ⟨e1, Fin.ext e2⟩]
    · rw [List.getElem?_set_ne (fun h => he h.symm), h1, if_neg]
      rintro ⟨a, b⟩
      have b' := congrArg Fin.val b
      simp at b'
      omega
  · rw [List.getElem?_eq_none (by rw [List.length_set, flat_len]; omega), List.getElem?_eq_none (by rw [flat_len]; omega)]

/-- five cells of a row of values written over -/
theorem own_set5Z {w : World} {B cap g k n : Nat} {e : TypeId} {c : Nat → Fin 5 → Value} (hk : k < n) (h : w.ownsRow B e 5 (.slice (some ⟨g, 0, none⟩) n cap) n (flat c n)) (x0 x1 x2 x3 x4 : Value) :
    (((((w.setCell ⟨g, k * 5, none⟩ x0).setCell ⟨g, k * 5 + 1, none⟩ x1).setCell ⟨g, k * 5 + 2, none⟩ x2).setCell ⟨g, k * 5 + 3, none⟩ x3).setCell ⟨g, k * 5 + 4, none⟩ x4).ownsRow B e 5 (.slice (some ⟨g, 0, none⟩) n cap) n (flat (fun i => if i = k then (fun j => match j with | 0 => x0 | 1 => x1 | 2 => x2 | 3 => x3 | 4 => x4) else c i) n) := by
  have h5 := own_setZ (own_setZ (own_setZ (own_setZ (own_setZ h (j := k * 5) (by omega) x0) (j := k * 5 + 1) (by omega) x1) (j := k * 5 + 2) (by omega) x2) (j := k * 5 + 3) (by omega) x3) (j := k * 5 + 4) (by omega) x4
  have f0 := flat_set c hk 0 x0
  have e0 : (((((flat c n).set (k * 5) x0).set (k * 5 + 1) x1).set (k * 5 + 2) x2).set (k * 5 + 3) x3).set (k * 5 + 4) x4 = flat (fun i => if i = k then (fun j => match j with | 0 => x0 | 1 => x1 | 2 => x2 | 3 => x3 | 4 => x4) else c i) n := by
    have g0 : (flat c n).set (k * 5) x0 = _ := f0
    rw [g0]
    have g1 := flat_set (fun i j' => if i = k ∧ j' = 0 then x0 else c i j') hk 1 x1
    have g1' : (flat (fun i j' => if i = k ∧ j' = 0 then x0 else c i j') n).set (k * 5 + 1) x1 = _ := g1
    rw [g1']
    have g2 := flat_set (fun i j' => if i = k ∧ j' = 1 then x1 else if i = k ∧ j' = 0 then x0 else c i j') hk 2 x2
    have g2' : (flat (fun i j' => if i = k ∧ j' = 1 then x1 else if i = k ∧ j' = 0 then x0 else c i j') n).set (k * 5 + 2) x2 = _ := g2
    rw [g2']
    have g3 := flat_set (fun i j' => if i = k ∧ j' = 2 then x2 else if i = k ∧ j' = 1 then x1 else if i = k ∧ j' = 0 then x0 else c i j') hk 3 x3
    have g3' : (flat (fun i j' => if i = k ∧ j' = 2 then x2 else if i = k ∧ j' = 1 then x1 else if i = k ∧ j' = 0 then x0 else c i j') n).set (k * 5 + 3) x3 = _ := g3
    rw [g3']
    have g4 := flat_set (fun i j' => if i = k ∧ j' = 3 then x3 else if i = k ∧ j' = 2 then x2 else if i = k ∧ j' = 1 then x1 else if i = k ∧ j' = 0 then x0 else c i j') hk 4 x4
    have g4' : (flat (fun i j' => if i = k ∧ j' = 3 then x3 else if i = k ∧ j' = 2 then x2 else if i = k ∧ j' = 1 then x1 else if i = k ∧ j' = 0 then x0 else c i j') n).set (k * 5 + 4) x4 = _ := g4
    rw [g4']
    refine flat_eq fun i hi => ?_
    funext j
    by_cases hik : i = k
    · subst hik
      match j with
      | 0 => simp
      | 1 => simp
      | 2 => simp
      | 3 => simp
      | 4 => simp
    · simp [hik]
  rw [e0] at h5
  exact h5

/-- what Merge holds while it makes twins -/
structure MtS (wm wr : World) (h N : Nat) (us : List VT) (k : Nat) : Prop where
  below : Below wm.heap.size wm wr
  len : us.length = N
  row : ∃ c : Nat → Fin 5 → Value, wr.ownsRow wm.heap.size 25 5 (.slice (some ⟨wm.heap.size, 0, none⟩) N N) N (flat c N) ∧ (∀ i, (hi : i < us.length) → i < k → InF (wm.heap.size + 1) wr h us[i] (.agg #[c i 0, c i 1, c i 2, c i 3, c i 4])) ∧ (∀ i, (hi : i < us.length) → k ≤ i → InH wm h us[i] (.agg #[c i 0, c i 1, c i 2, c i 3, c i 4]))
theorem MtS.low {wm wr u : World} {h N : Nat} {us : List VT} {k : Nat} (H : MtS wm wr h N us k) (hb : Below wr.heap.size wr u) : MtS wm u h N us k := by
  obtain ⟨c, h1, h2, h3⟩ := H.row
  exact ⟨H.below.trans (hb.mono H.below.size), H.len, c, own_low h1 hb, fun i hi hk => (h2 i hi hk).low hb, h3⟩
theorem MtS.next {wm w4 : World} {h N : Nat} {us : List VT} {k : Nat} (hk : k < us.length) (H : MtS wm w4 h N us k) {y0 y1 y2 y3 y4 : Value} (hy : InF (wm.heap.size + 1) w4 h us[k] (.agg #[y0, y1, y2, y3, y4])) :
    MtS wm (((((w4.setCell ⟨wm.heap.size, k * 5, none⟩ y0).setCell ⟨wm.heap.size, k * 5 + 1, none⟩ y1).setCell ⟨wm.heap.size, k * 5 + 2, none⟩ y2).setCell ⟨wm.heap.size, k * 5 + 3, none⟩ y3).setCell ⟨wm.heap.size, k * 5 + 4, none⟩ y4) h N us (k + 1) := by
  obtain ⟨c, h1, h2, h3⟩ := H.row
  have hl := H.len
  have keep : ∀ {T : VT} {v : Value}, InF (wm.heap.size + 1) w4 h T v → InF (wm.heap.size + 1) (((((w4.setCell ⟨wm.heap.size, k * 5, none⟩ y0).setCell ⟨wm.heap.size, k * 5 + 1, none⟩ y1).setCell ⟨wm.heap.size, k * 5 + 2, none⟩ y2).setCell ⟨wm.heap.size, k * 5 + 3, none⟩ y3).setCell ⟨wm.heap.size, k * 5 + 4, none⟩ y4) h T v := fun {T v} hI =>
    InF.keepB (by simp) (fun b hb hlt => by
      rw [Below.heap_setCell _ _ _ _ (by show b ≠ wm.heap.size; omega), Below.heap_setCell _ _ _ _ (by show b ≠ wm.heap.size; omega), Below.heap_setCell _ _ _ _ (by show b ≠ wm.heap.size; omega), Below.heap_setCell _ _ _ _ (by show b ≠ wm.heap.size; omega), Below.heap_setCell _ _ _ _ (by show b ≠ wm.heap.size; omega)]) (Nat.le_refl _) hI
  refine ⟨((((H.below.setCell (p := ⟨wm.heap.size, k * 5, none⟩) (Nat.le_refl _) _).setCell (p := ⟨wm.heap.size, k * 5 + 1, none⟩) (Nat.le_refl _) _).setCell (p := ⟨wm.heap.size, k * 5 + 2, none⟩) (Nat.le_refl _) _).setCell (p := ⟨wm.heap.size, k * 5 + 3, none⟩) (Nat.le_refl _) _).setCell (p := ⟨wm.heap.size, k * 5 + 4, none⟩) (Nat.le_refl _) _, hl, _, own_set5Z (by omega) h1 y0 y1 y2 y3 y4, fun i hi hik => ?_, fun i hi hik => ?_⟩
  · by_cases e : i = k
    · subst e
      simp only [if_pos rfl]
      exact keep hy
    · simp only [if_neg e]
      exact keep (h2 i hi (by omega))
  · simp only [if_neg (show i ≠ k by omega)]
    exact h3 i hi (by omega)
end Go.Proofs.Ytmknelkgfnklfaa
namespace Go.Proofs.Ytmknelkgfnklfaa
open Go.RowKit Go.Shelf Go.Sort
set_option linter.unusedVariables false
set_option linter.unusedSimpArgs false
attribute [local go_sem] Oper.semAt_some

theorem own_freeZ {w : World} {B e n cap g size : Nat} {xs : List Value} (h : w.ownsRow B e size (.slice (some ⟨g, 0, none⟩) n cap) n xs) (k : Nat) : w.frozen? ⟨g, k, none⟩ = false := by
  rcases h.2 with ⟨e, e2⟩ | ⟨g', cap', cur, e, hb, hg, _⟩
  · simp at e
  · simp only [Value.slice.injEq] at e
    have e1 : g = g' := by simpa using e.1
    subst e1
    exact frozen_of_row w g k _ _ hg

/-- Merge: the error, the values -/
def mrE (h : Nat) (ls ks : List VT) : Int := if (ls.all (formN h) && ks.all (formN h)) = true then (if (risB (cK h ls) ls.length && risB (cK h ks) ks.length) = true then 0 else 2) else 1
def mrI (h : Nat) (ls ks : List VT) : List Nat := mg (cK h (ls ++ ks)) (List.range ls.length) ((List.range ks.length).map (ls.length + ·))
def mrL (h : Nat) (ls ks : List VT) : List VT := if mrE h ls ks = 0 then pick (ls ++ ks) (mrI h ls ks) else []

theorem pick_get (zs : List VT) (l : List Nat) (i : Nat) : (pick zs l)[i]? = (l[i]?).map fun x => (zs[x]?).getD (.mk 0 .empty .empty [] []) := by
  unfold pick; rw [List.getElem?_map]
theorem pick_range (ls ks : List VT) : pick (ls ++ ks) (List.range ls.length) = ls := by
  refine List.ext_getElem? fun i => ?_
  rw [pick_get]
  by_cases h : i < ls.length
  · rw [List.getElem?_eq_getElem (by rw [List.length_range]; exact h), List.getElem_range, List.getElem?_eq_getElem h]
    simp [List.getElem?_append_left h, h]
  · rw [List.getElem?_eq_none (by rw [List.length_range]; omega), List.getElem?_eq_none (by omega)]; rfl
theorem pick_range' (ls ks : List VT) : pick (ls ++ ks) ((List.range ks.length).map (ls.length + ·)) = ks := by
  refine List.ext_getElem? fun i => ?_
  rw [pick_get, List.getElem?_map]
  by_cases h : i < ks.length
  · rw [List.getElem?_eq_getElem (by rw [List.length_range]; exact h), List.getElem_range, List.getElem?_eq_getElem h]
    simp [h]
  · rw [List.getElem?_eq_none (by rw [List.length_range]; omega), List.getElem?_eq_none (by omega)]; rfl

/-- how Merge ends -/
def MrR (w w' : World) (h : Nat) (us : List VT) (er : Int) (e : Ending) : Prop := ∃ so n, e = .returned (.tuple #[.slice so n n, .int .i64 er]) ∧ us.length = n ∧ IIn w' h so us ∧ Below w.heap.size w w' ∧ (er = 0 → ∃ g, so = some ⟨g, 0, none⟩ ∧ TwL w' h g n n us ∧ w.heap.size ≤ g)

set_option maxRecDepth 100000 in
set_option maxHeartbeats 3200000 in
theorem w_Merge (h : Nat) (io : Option Addr) (N icap : Nat) (ko : Option Addr) (K kcap : Nat) (ls ks : List VT) (w : World) (hi : IIn w h io ls) (hN : ls.length = N) (hcap : N ≤ icap) (hio : io = none → icap = 0) (hN2 : N ≤ 524288) (hk : IIn w h ko ks) (hK : ks.length = K) (hkcap : K ≤ kcap) (hko : ko = none → kcap = 0) (hK2 : K ≤ 524288) (hsz : ∀ T ∈ ls, szN h T ≤ 1048577) (hsz2 : ∀ T ∈ ks, szN h T ≤ 1048577) :
    Calls Try.prog 15 #[.slice io N icap, .slice ko K kcap] w fun e w' => MrR w w' h (mrL h ls ks) (mrE h ls ks) e := by
  have HNN := Hid.mk hN
  have HKK := Hid.mk hK
  have HF := Hid.mk (fun u (hb : Below w.heap.size w u) => w_oFormed h io N icap ls u (hi.keep hb) HNN.out hcap (by omega))
  have HG := Hid.mk (fun u (hb : Below w.heap.size w u) => w_oFormed h ko K kcap ks u (hk.keep hb) HKK.out hkcap (by omega))
  have HRi := Hid.mk (fun u (hb : Below w.heap.size w u) => w_oRises h io N icap ls u (hi.keep hb) HNN.out hcap (by omega))
  have HRk := Hid.mk (fun u (hb : Below w.heap.size w u) => w_oRises h ko K kcap ks u (hk.keep hb) HKK.out hkcap (by omega))
  have HMg : Hid (∀ u, Below w.heap.size w u → Calls Try.prog 34 #[.slice io N icap, .slice ko K kcap, .func (.func 35) #[] #[]] u fun e w' => e = .returned (.slice (some ⟨u.heap.size, 0, none⟩) (N + K) (N + K)) ∧ OutR u w' h (N + K) (N + K) (pick (ls ++ ks) (mrI h ls ks)) ∧ Below u.heap.size u w') := fun u hb => by
    refine w_mergedV h (ls ++ ks) io N icap ko K kcap (List.range ls.length) ((List.range ks.length).map (ls.length + ·)) u ⟨?_, hio, ?_⟩ ⟨?_, hko, ?_⟩ (by rw [List.length_range]; exact hN) (by rw [List.length_map, List.length_range]; exact hK) (by omega) (fun x hx => ?_) (fun x hx => ?_)
    · rw [pick_range, hN]; exact hcap
    · rw [pick_range]; exact hi.keep hb
    · rw [pick_range', hK]; exact hkcap
    · rw [pick_range']; exact hk.keep hb
    · have := List.mem_range.1 hx; rw [List.length_append]; omega
    · obtain ⟨i, hi, rfl⟩ := List.mem_map.1 hx
      have := List.mem_range.1 hi
      rw [List.length_append]; omega
  have HSZ : Hid (∀ T ∈ pick (ls ++ ks) (mrI h ls ks), szN h T ≤ 1048577) := by
    intro T hT
    have hp := (mg_perm (cK h (ls ++ ks)) (List.range ls.length) ((List.range ks.length).map (ls.length + ·)))
    have hm : T ∈ pick (ls ++ ks) (List.range ls.length ++ (List.range ks.length).map (ls.length + ·)) := by
      unfold pick at hT ⊢
      obtain ⟨i, hi, rfl⟩ := List.mem_map.1 hT
      exact List.mem_map.2 ⟨i, hp.mem_iff.1 hi, rfl⟩
    rw [pick_app, pick_range, pick_range'] at hm
    rcases List.mem_append.1 hm with h1 | h1
    · exact hsz T h1
    · exact hsz2 T h1
  clear hi hN hk hK hsz hsz2
  cases hf : ls.all (formN h) with
  | false =>
    have hE : mrE h ls ks = 1 := by unfold mrE; rw [hf, Bool.false_and, if_neg (by simp)]
    have hL : mrL h ls ks = [] := by unfold mrL; rw [hE, if_neg (by decide)]
    rw [hE, hL]
    rw [hf] at HF
    clear hf HG hE hL HRi HRk HMg HSZ
    go_enter Try.func15, Try.ntmps15
    go_wp2_with fail
    refine (HF.out w (Below.refl _ _)).mono ?_
    rintro e w2 ⟨rfl, hb2⟩
    have HB2 := Hid.mk hb2
    clear hb2
    go_wp2_with fail
    go_ret2
    exact ⟨none, 0, rfl, rfl, ⟨fun h => absurd h (Nat.lt_irrefl _)⟩, HB2.out, fun e => by cases e⟩
  | true =>
    rw [hf] at HF
    cases hg : ks.all (formN h) with
    | false =>
      have hE : mrE h ls ks = 1 := by unfold mrE; rw [hf, hg, Bool.and_false, if_neg (by simp)]
      have hL : mrL h ls ks = [] := by unfold mrL; rw [hE, if_neg (by decide)]
      rw [hE, hL]
      rw [hg] at HG
      clear hf hg hE hL HRi HRk HMg HSZ
      go_enter Try.func15, Try.ntmps15
      go_wp2_with fail
      refine (HF.out w (Below.refl _ _)).mono ?_
      rintro e w2 ⟨rfl, hb2⟩
      have HB2 := Hid.mk hb2
      clear hb2
      go_wp2_with fail
      refine (HG.out w2 HB2.out).mono ?_
      rintro e w3 ⟨rfl, hb3⟩
      have HB3 := Hid.mk (HB2.out.trans (hb3.mono HB2.out.size))
      clear hb3
      go_wp2_with fail
      go_ret2
      exact ⟨none, 0, rfl, rfl, ⟨fun h => absurd h (Nat.lt_irrefl _)⟩, HB3.out, fun e => by cases e⟩
    | true =>
      rw [hg] at HG
      cases hr : risB (cK h ls) ls.length with
      | false =>
        have hE : mrE h ls ks = 2 := by unfold mrE; rw [hf, hg, hr, Bool.and_true, Bool.false_and, if_pos rfl, if_neg (by simp)]
        have hL : mrL h ls ks = [] := by unfold mrL; rw [hE, if_neg (by decide)]
        rw [hE, hL]
        rw [HNN.out] at hr
        rw [hr] at HRi
        clear hf hg hE hL HRk HMg HSZ hr
        go_enter Try.func15, Try.ntmps15
        go_wp2_with fail
        refine (HF.out w (Below.refl _ _)).mono ?_
        rintro e w2 ⟨rfl, hb2⟩
        have HB2 := Hid.mk hb2
        clear hb2
        go_wp2_with fail
        refine (HG.out w2 HB2.out).mono ?_
        rintro e w3 ⟨rfl, hb3⟩
        have HB3 := Hid.mk (HB2.out.trans (hb3.mono HB2.out.size))
        clear hb3
        go_wp2_with fail
        refine (HRi.out w3 HB3.out).mono ?_
        rintro e w4 ⟨rfl, hb4⟩
        have HB4 := Hid.mk (HB3.out.trans (hb4.mono HB3.out.size))
        clear hb4
        go_wp2_with fail
        go_ret2
        exact ⟨none, 0, rfl, rfl, ⟨fun h => absurd h (Nat.lt_irrefl _)⟩, HB4.out, fun e => by cases e⟩
      | true =>
        cases hs : risB (cK h ks) ks.length with
        | false =>
          have hE : mrE h ls ks = 2 := by unfold mrE; rw [hf, hg, hr, hs, Bool.and_true, Bool.and_false, if_pos rfl, if_neg (by simp)]
          have hL : mrL h ls ks = [] := by unfold mrL; rw [hE, if_neg (by decide)]
          rw [hE, hL]
          rw [HNN.out] at hr
          rw [hr] at HRi
          rw [HKK.out] at hs
          rw [hs] at HRk
          clear hf hg hE hL HMg HSZ hr hs
          go_enter Try.func15, Try.ntmps15
          go_wp2_with fail
          refine (HF.out w (Below.refl _ _)).mono ?_
          rintro e w2 ⟨rfl, hb2⟩
          have HB2 := Hid.mk hb2
          clear hb2
          go_wp2_with fail
          refine (HG.out w2 HB2.out).mono ?_
          rintro e w3 ⟨rfl, hb3⟩
          have HB3 := Hid.mk (HB2.out.trans (hb3.mono HB2.out.size))
          clear hb3
          go_wp2_with fail
          refine (HRi.out w3 HB3.out).mono ?_
          rintro e w4 ⟨rfl, hb4⟩
          have HB4 := Hid.mk (HB3.out.trans (hb4.mono HB3.out.size))
          clear hb4
          go_wp2_with fail
          refine (HRk.out w4 HB4.out).mono ?_
          rintro e w5 ⟨rfl, hb5⟩
          have HB5 := Hid.mk (HB4.out.trans (hb5.mono HB4.out.size))
          clear hb5
          go_wp2_with fail
          go_ret2
          exact ⟨none, 0, rfl, rfl, ⟨fun h => absurd h (Nat.lt_irrefl _)⟩, HB5.out, fun e => by cases e⟩
        | true =>
          have hE : mrE h ls ks = 0 := by unfold mrE; rw [hf, hg, hr, hs, Bool.and_true, if_pos rfl, if_pos rfl]
          have hL : mrL h ls ks = pick (ls ++ ks) (mrI h ls ks) := by unfold mrL; rw [hE, if_pos rfl]
          rw [hE, hL]
          rw [HNN.out] at hr
          rw [hr] at HRi
          rw [HKK.out] at hs
          rw [hs] at HRk
          generalize hus : pick (ls ++ ks) (mrI h ls ks) = us at *
          clear hf hg hE hL hr hs hus
          go_enter Try.func15, Try.ntmps15
          go_wp2_with fail
          refine (HF.out w (Below.refl _ _)).mono ?_
          rintro e w2 ⟨rfl, hb2⟩
          have HB2 := Hid.mk hb2
          clear hb2
          go_wp2_with fail
          refine (HG.out w2 HB2.out).mono ?_
          rintro e w3 ⟨rfl, hb3⟩
          have HB3 := Hid.mk (HB2.out.trans (hb3.mono HB2.out.size))
          clear hb3
          go_wp2_with fail
          refine (HRi.out w3 HB3.out).mono ?_
          rintro e w4 ⟨rfl, hb4⟩
          have HB4 := Hid.mk (HB3.out.trans (hb4.mono HB3.out.size))
          clear hb4
          go_wp2_with fail
          refine (HRk.out w4 HB4.out).mono ?_
          rintro e w5 ⟨rfl, hb5⟩
          have HB5 := Hid.mk (HB4.out.trans (hb5.mono HB4.out.size))
          clear hb5
          go_wp2_with fail
          refine (HMg.out w5 HB5.out).mono ?_
          rintro e w6 ⟨rfl, ho6, hb6⟩
          have HS0 : Hid (MtS w5 w6 h (N + K) us 0) := by
            obtain ⟨h1, c, h2, h3⟩ := ho6
            exact ⟨hb6, h1, c, h2, fun i _ hi => absurd hi (Nat.not_lt_zero _), fun i hi _ => h3 i hi⟩
          clear ho6 hb6
          go_wp2_with fail
          go_loopw [30] (fun i wr => ∃ k : Nat, k ≤ N + K ∧ i = .int .i64 (k : Int) ∧ Hid (MtS w5 wr h (N + K) us k)) (fun i _ => N + K - (intOf i).toNat)
          case atStart => exact ⟨0, Nat.zero_le _, rfl, HS0⟩
          case round =>
            clear HS0
            obtain ⟨k, hk, rfl, HS⟩ := hrel
            by_cases hlt : k < N + K
            · have hl1 : (k : Int) < (N : Int) + (K : Int) := by omega
              have hl0 : (0 : Int) ≤ (k : Int) := by omega
              have hkl : k < us.length := by rw [HS.out.len]; exact hlt
              obtain ⟨c, h1, h2, h3⟩ := HS.out.row
              have ht := (h3 k hkl (Nat.le_refl _)).keep HS.out.below
              obtain ⟨ik, inm, itx, iio, iN, iicap, iko, iK, ikcap, e0, e1, e2, e3, e4⟩ := ht.shape
              rw [e0, e1, e2, e3, e4] at ht
              have cc : ∀ j : Fin 5, wr.cell? ⟨w5.heap.size, k * 5 + j.1, none⟩ = some (c k j) := fun j => by
                have hj := j.2
                rw [own_cellAt h1 (by omega), flat_get c (N + K) k j hlt]
              have c0 : wr.cell? ⟨w5.heap.size, k * 5, none⟩ = some (.int .i64 ik) := by rw [← e0]; exact cc 0
              have c1 : wr.cell? ⟨w5.heap.size, k * 5 + 1, none⟩ = some (.string inm) := by rw [← e1]; exact cc 1
              have c2 : wr.cell? ⟨w5.heap.size, k * 5 + 2, none⟩ = some (.string itx) := by rw [← e2]; exact cc 2
              have c3 : wr.cell? ⟨w5.heap.size, k * 5 + 3, none⟩ = some (.slice iio iN iicap) := by rw [← e3]; exact cc 3
              have c4 : wr.cell? ⟨w5.heap.size, k * 5 + 4, none⟩ = some (.slice iko iK ikcap) := by rw [← e4]; exact cc 4
              have HBx := Hid.mk (below1 wr (.cells #[.int .i64 ik, .string inm, .string itx, .slice iio iN iicap, .slice iko iK ikcap] 25))
              have HC := Hid.mk (w_Twin h _ _ (wr.alloc (.cells #[.int .i64 ik, .string inm, .string itx, .slice iio iN iicap, .slice iko iK ikcap] 25)) (ht.keep HBx.out) (HSZ.out _ (List.getElem_mem hkl)))
              have HLow := Hid.mk (HS.out.low HBx.out)
              have hgl : w5.heap.size < wr.heap.size := (h1.lt w5.heap.size rfl).2
              clear h1 h2 h3 ht e0 e1 e2 e3 e4 cc c
              go_wp2_with fail
              refine HC.out.mono ?_
              rintro e w8 ⟨v', rfl, hF, hb8⟩
              obtain ⟨yk, yn, yt, yio, yN, yic, yko, yK, ykc, rfl⟩ := hF.shape
              have HS8 := Hid.mk (HLow.out.low hb8)
              have HF8 : Hid (InF (w5.heap.size + 1) w8 h us[k] (.agg #[.int .i64 yk, .string yn, .string yt, .slice yio yN yic, .slice yko yK ykc])) := InF.keepB (Nat.le_refl _) (fun _ _ _ => rfl) (by simp; omega) hF
              clear hF hb8 HC c0 c1 c2 c3 c4 HLow
              have HN := Hid.mk (MtS.next hkl HS8.out HF8.out)
              obtain ⟨c, h1, h2, h3⟩ := HS8.out.row
              have f0 : w8.frozen? ⟨w5.heap.size, k * 5, none⟩ = false := own_freeZ h1 _
              have f1 : w8.frozen? ⟨w5.heap.size, k * 5 + 1, none⟩ = false := own_freeZ h1 _
              have f2 : w8.frozen? ⟨w5.heap.size, k * 5 + 2, none⟩ = false := own_freeZ h1 _
              have f3 : w8.frozen? ⟨w5.heap.size, k * 5 + 3, none⟩ = false := own_freeZ h1 _
              have f4 : w8.frozen? ⟨w5.heap.size, k * 5 + 4, none⟩ = false := own_freeZ h1 _
              have cc : ∀ j : Fin 5, w8.cell? ⟨w5.heap.size, k * 5 + j.1, none⟩ = some (c k j) := fun j => by
                have hj := j.2
                rw [own_cellAt h1 (by omega), flat_get c (N + K) k j hlt]
              have p0 : w8.cell? ⟨w5.heap.size, k * 5, none⟩ = some (c k 0) := cc 0
              have p1 : w8.cell? ⟨w5.heap.size, k * 5 + 1, none⟩ = some (c k 1) := cc 1
              have p2 : w8.cell? ⟨w5.heap.size, k * 5 + 2, none⟩ = some (c k 2) := cc 2
              have p3 : w8.cell? ⟨w5.heap.size, k * 5 + 3, none⟩ = some (c k 3) := cc 3
              have p4 : w8.cell? ⟨w5.heap.size, k * 5 + 4, none⟩ = some (c k 4) := cc 4
              clear h1 h2 h3 cc
              go_wp2_with fail
              go_roundw
              case rel => exact ⟨k + 1, by omega, by go_num, HN⟩
              case measure => simp [intOf]; omega
            · have hl1 : ¬ (k : Int) < (N : Int) + (K : Int) := by omega
              obtain rfl : k = N + K := by omega
              have HT : Hid (TwL wr h w5.heap.size (N + K) (N + K) us) := by
                obtain ⟨c, h1, h2, h3⟩ := HS.out.row
                have hl := HS.out.len
                exact ⟨hl, Nat.le_refl _, c, h1, fun i hi => h2 i hi (by omega)⟩
              have HBw := Hid.mk (HB5.out.trans (HS.out.below.mono HB5.out.size))
              go_wp2_with fail
              go_ret2
              exact ⟨_, _, rfl, HS.out.len, HT.out.toI, HBw.out, fun _ => ⟨_, rfl, HT.out, HB5.out.size⟩⟩
end Go.Proofs.Ytmknelkgfnklfaa
namespace Go.Proofs.Ytmknelkgfnklfaa
open Go.RowKit Go.Shelf Go.Sort
set_option linter.unusedVariables false
set_option linter.unusedSimpArgs false
attribute [local go_sem] Oper.semAt_some

/-- two are one -/
noncomputable def sm {α : Type} (x y : α) : Bool := @decide (x = y) (Classical.propDecidable _)
theorem sm_iff {α : Type} {x y : α} : sm x y = true ↔ x = y := by unfold sm; exact @decide_eq_true_iff (x = y) (Classical.propDecidable _)
theorem sm_yes {α : Type} (x : α) : sm x x = true := sm_iff.2 rfl
theorem sm_no {α : Type} {x y : α} (h : ¬ x = y) : sm x y = false := by
  cases e : sm x y with
  | false => rfl
  | true => exact absurd (sm_iff.1 e) h
theorem takeZ_up {α : Type} {xs ys : List α} {k : Nat} (h1 : k < xs.length) (h2 : k < ys.length) (h : xs.take k = ys.take k) (e : xs[k] = ys[k]) : xs.take (k + 1) = ys.take (k + 1) := by
  rw [List.take_succ_eq_append_getElem h1, List.take_succ_eq_append_getElem h2, h, e]
theorem takeZ_no {α : Type} {xs ys : List α} {k : Nat} (h1 : k < xs.length) (h2 : k < ys.length) (e : ¬ xs[k] = ys[k]) : ¬ xs = ys := by
  rintro rfl; exact e rfl
theorem beqZ_no {x y : ByteArray} (h : (x.toList == y.toList) = false) : ¬ x = y := by rintro rfl; simp at h
theorem beqZ_yes {x y : ByteArray} (h : (x.toList == y.toList) = true) : x = y := by
  rw [Lib.toList_data, Lib.toList_data] at h
  exact Pl.eq_of_toList (by simpa using h)

set_option maxRecDepth 100000 in
set_option maxHeartbeats 3200000 in
theorem w_SameStrings (ao : Option Addr) (M acap : Nat) (xs : List ByteArray) (bo : Option Addr) (N bcap : Nat) (ys : List ByteArray) (w : World) (ha : KIn w ao xs) (hb : KIn w bo ys) (hM : xs.length = M) (hN : ys.length = N) (hac : M ≤ acap) (hbc : N ≤ bcap) (hM2 : M ≤ 140737488355328) (hN2 : N ≤ 140737488355328) :
    Calls Try.prog 43 #[.slice ao M acap, .slice bo N bcap] w fun e w' => e = .returned (.bool (sm xs ys)) ∧ Below w.heap.size w w' := by
  have HA := Hid.mk ha
  have HB := Hid.mk hb
  have HM := Hid.mk hM
  have HN := Hid.mk hN
  clear ha hb hM hN
  obtain ⟨R, HR⟩ : ∃ R, Hid (sm xs ys = R) := ⟨_, rfl⟩
  rw [HR.out]
  by_cases hMN : M = N
  · subst hMN
    have y1 : ((M : Int) != (M : Int)) = false := by simp
    go_enter Try.func43, Try.ntmps43
    go_wp2_with fail
    go_loopw [5] (fun i wr => ∃ k : Nat, k ≤ M ∧ i = .int .i64 (k : Int) ∧ Hid (Below w.heap.size w wr) ∧ Hid (xs.take k = ys.take k)) (fun i _ => M - (intOf i).toNat)
    case atStart => exact ⟨0, Nat.zero_le _, rfl, Below.refl _ _, rfl⟩
    case round =>
      obtain ⟨k, hk, rfl, HBw, HQ⟩ := hrel
      by_cases hlt : k < M
      · have hl1 : (k : Int) < (M : Int) := by omega
        have hl0 : (0 : Int) ≤ (k : Int) := by omega
        have hkx : k < xs.length := by rw [HM.out]; exact hlt
        have hky : k < ys.length := by rw [HN.out]; exact hlt
        obtain ⟨b, off, hao, hbl, hrow⟩ := (HA.out.keep HBw.out).row (by omega)
        obtain ⟨b2, off2, hbo, hbl2, hrow2⟩ := (HB.out.keep HBw.out).row (by omega)
        subst hao
        subst hbo
        have c0 := hrow k hkx
        have d0 := hrow2 k hky
        rw [getD_key hkx] at c0
        rw [getD_key hky] at d0
        have HUp := Hid.mk (fun e => takeZ_up hkx hky HQ.out e)
        have HNo := Hid.mk (fun e => takeZ_no hkx hky e)
        generalize xs[k] = x at *
        generalize ys[k] = y at *
        have R0 := fun d os => cell_regrown c0 d os
        have S0 := fun d os => cell_regrown d0 d os
        clear hrow hrow2 hbl hbl2 hkx hky c0 d0
        cases hc : (x.toList == y.toList) with
        | true =>
          have HQ2 := Hid.mk (HUp.out (beqZ_yes hc))
          have hc2 : (x.toList != y.toList) = false := by simp only [bne]; rw [hc]; rfl
          clear HUp HNo
          go_wp2_with fail
          refine wp_region_quiet_below (by kernel_rfl) (by kernel_rfl) ?_
          repeat (go_big_quiet_step (fail))
          refine wpQuiet_nil ?_
          intro w2 hw'
          have HB2 : Hid (Below w.heap.size w w2) := by
            obtain ⟨⟨dq, osq⟩, rfl⟩ := hw'
            exact HBw.out.trans ((below_regrown wr dq osq).mono HBw.out.size)
          clear hw' R0 S0
          go_wp2_with fail
          go_roundw
          case rel => exact ⟨k + 1, by omega, by go_num, HB2, HQ2⟩
          case measure => simp [intOf]; omega
        | false =>
          have HT : Hid (R = false) := HR.out.symm.trans (sm_no (HNo.out (beqZ_no hc)))
          have hc2 : (x.toList != y.toList) = true := by simp only [bne]; rw [hc]; rfl
          clear HUp HNo
          go_wp2_with fail
          refine wp_region_quiet_below (by kernel_rfl) (by kernel_rfl) ?_
          repeat (go_big_quiet_step (fail))
          refine wpQuiet_nil ?_
          intro w2 hw'
          have HB2 : Hid (Below w.heap.size w w2) := by
            obtain ⟨⟨dq, osq⟩, rfl⟩ := hw'
            exact HBw.out.trans ((below_regrown wr dq osq).mono HBw.out.size)
          clear hw' R0 S0
          go_wp2_with fail
          go_ret
          exact ⟨by rw [HT.out]; rfl, HB2.out⟩
      · have hl1 : ¬ (k : Int) < (M : Int) := by omega
        have HT : Hid (R = true) := by
          have e := HQ.out
          rw [List.take_of_length_le (by rw [HM.out]; omega), List.take_of_length_le (by rw [HN.out]; omega)] at e
          exact HR.out.symm.trans (sm_iff.2 e)
        go_wp2_with fail
        go_ret
        exact ⟨by rw [HT.out]; rfl, HBw.out⟩
  · have HT : Hid (R = false) := HR.out.symm.trans (sm_no (fun e => hMN (by rw [← HM.out, ← HN.out, e])))
    have y1 : ((M : Int) != (N : Int)) = true := by simp; omega
    have y2 : ¬ (M : Int) = (N : Int) := by omega
    go_enter Try.func43, Try.ntmps43
    go_wp2_with fail
    go_ret
    exact ⟨by rw [HT.out]; rfl, Below.refl _ _⟩

/-- hallmarkkit.SameValue, at a height -/
def SvOk (h : Nat) : Prop := ∀ (A B : VT) (va vb : Value) (w : World), InH w h A va → InH w h B vb → Calls Try.prog 26 #[va, vb] w fun e w' => e = .returned (.bool (sm A B)) ∧ Below w.heap.size w w'

set_option maxRecDepth 100000 in
set_option maxHeartbeats 3200000 in
theorem same_values (h : Nat) (ih : SvOk h) (ao : Option Addr) (M acap : Nat) (xs : List VT) (bo : Option Addr) (N bcap : Nat) (ys : List VT) (w : World) (ha : IIn w h ao xs) (hb : IIn w h bo ys) (hM : xs.length = M) (hN : ys.length = N) (hac : M ≤ acap) (hbc : N ≤ bcap) (hM2 : M ≤ 140737488355328) (hN2 : N ≤ 140737488355328) :
    Calls Try.prog 14 #[.slice ao M acap, .slice bo N bcap] w fun e w' => e = .returned (.bool (sm xs ys)) ∧ Below w.heap.size w w' := by
  have HA := Hid.mk ha
  have HB := Hid.mk hb
  have HM := Hid.mk hM
  have HN := Hid.mk hN
  have HIh := Hid.mk ih
  clear ha hb hM hN ih
  obtain ⟨R, HR⟩ : ∃ R, Hid (sm xs ys = R) := ⟨_, rfl⟩
  rw [HR.out]
  by_cases hMN : M = N
  · subst hMN
    have y1 : ((M : Int) != (M : Int)) = false := by simp
    go_enter Try.func14, Try.ntmps14
    go_wp2_with fail
    go_loopw [5] (fun i wr => ∃ k : Nat, k ≤ M ∧ i = .int .i64 (k : Int) ∧ Hid (Below w.heap.size w wr) ∧ Hid (xs.take k = ys.take k)) (fun i _ => M - (intOf i).toNat)
    case atStart => exact ⟨0, Nat.zero_le _, rfl, Below.refl _ _, rfl⟩
    case round =>
      obtain ⟨k, hk, rfl, HBw, HQ⟩ := hrel
      by_cases hlt : k < M
      · have hl1 : (k : Int) < (M : Int) := by omega
        have hl0 : (0 : Int) ≤ (k : Int) := by omega
        have hkx : k < xs.length := by rw [HM.out]; exact hlt
        have hky : k < ys.length := by rw [HN.out]; exact hlt
        obtain ⟨b, off, hao, hbl, hrow⟩ := (HA.out.keep HBw.out).row (by omega)
        obtain ⟨b2, off2, hbo, hbl2, hrow2⟩ := (HB.out.keep HBw.out).row (by omega)
        subst hao
        subst hbo
        obtain ⟨ik, inm, itx, iio, iN, iicap, iko, iK, ikcap, ⟨c0, c1, c2, c3, c4⟩, ht⟩ := item_at hrow hkx
        obtain ⟨jk, jnm, jtx, jio, jN, jicap, jko, jK, jkcap, ⟨d0, d1, d2, d3, d4⟩, hu⟩ := item_at hrow2 hky
        have HC := Hid.mk (fun (d : Nat) (os : Array Obj) => HIh.out xs[k] ys[k] _ _ (grow (redrawn wr d) os) (ht.keep (below_regrown wr d os)) (hu.keep (below_regrown wr d os)))
        have HUp := Hid.mk (fun e => takeZ_up hkx hky HQ.out (sm_iff.1 e))
        have HNo := Hid.mk (fun (e : sm xs[k] ys[k] = false) => takeZ_no hkx hky (fun e' => by rw [e', sm_yes] at e; cases e))
        generalize sm xs[k] ys[k] = q at *
        have R0 := fun d os => cell_regrown c0 d os
        have R1 := fun d os => cell_regrown c1 d os
        have R2 := fun d os => cell_regrown c2 d os
        have R3 := fun d os => cell_regrown c3 d os
        have R4 := fun d os => cell_regrown c4 d os
        have S0 := fun d os => cell_regrown d0 d os
        have S1 := fun d os => cell_regrown d1 d os
        have S2 := fun d os => cell_regrown d2 d os
        have S3 := fun d os => cell_regrown d3 d os
        have S4 := fun d os => cell_regrown d4 d os
        clear hrow hrow2 hbl hbl2 hkx hky c0 c1 c2 c3 c4 d0 d1 d2 d3 d4 ht hu
        go_wp2_with fail
        refine wp_region_quiet_below (by kernel_rfl) (by kernel_rfl) ?_
        repeat (go_big_quiet_step (exact Calls.regrown_of (HC.out _ _)))
        refine wpQuiet_nil ?_
        intro w2 hw'
        have HB2 : Hid (Below w.heap.size w w2) := by
          obtain ⟨⟨dq, osq⟩, rfl⟩ := hw'
          exact HBw.out.trans ((below_regrown wr dq osq).mono HBw.out.size)
        clear hw' R0 R1 R2 R3 R4 S0 S1 S2 S3 S4 HC
        cases q with
        | true =>
          have HQ2 := Hid.mk (HUp.out rfl)
          clear HUp HNo
          go_wp2_with fail
          go_roundw
          case rel => exact ⟨k + 1, by omega, by go_num, HB2, HQ2⟩
          case measure => simp [intOf]; omega
        | false =>
          have HT : Hid (R = false) := HR.out.symm.trans (sm_no (HNo.out rfl))
          clear HUp HNo
          go_wp2_with fail
          go_ret
          exact ⟨by rw [HT.out]; rfl, HB2.out⟩
      · have hl1 : ¬ (k : Int) < (M : Int) := by omega
        have HT : Hid (R = true) := by
          have e := HQ.out
          rw [List.take_of_length_le (by rw [HM.out]; omega), List.take_of_length_le (by rw [HN.out]; omega)] at e
          exact HR.out.symm.trans (sm_iff.2 e)
        go_wp2_with fail
        go_ret
        exact ⟨by rw [HT.out]; rfl, HBw.out⟩
  · have HT : Hid (R = false) := HR.out.symm.trans (sm_no (fun e => hMN (by rw [← HM.out, ← HN.out, e])))
    have y1 : ((M : Int) != (N : Int)) = true := by simp; omega
    have y2 : ¬ (M : Int) = (N : Int) := by omega
    go_enter Try.func14, Try.ntmps14
    go_wp2_with fail
    go_ret
    exact ⟨by rw [HT.out]; rfl, Below.refl _ _⟩
end Go.Proofs.Ytmknelkgfnklfaa
