import Derived.Test.YtmknelkgfnklfaaM27
namespace Go.Proofs.Ytmknelkgfnklfaa
open Go.RowKit Go.Shelf Go.Sort
set_option linter.unusedVariables false
set_option linter.unusedSimpArgs false
attribute [local go_sem] Oper.semAt_some

/-- slices.Grow of no slice of places -/
theorem w_GrowI (N : Nat) (w : World) (hN : N ≤ 1048577) : Calls Try.prog 55 #[.slice none 0 0, .int .i64 (N : Int)] w fun e w' =>
    (N = 0 ∧ e = .returned (.slice none 0 0) ∧ w' = w) ∨ (0 < N ∧ ∃ cap, N ≤ cap ∧ e = .returned (.slice (some ⟨w.heap.size, 0, none⟩) 0 cap) ∧ Hid (w'.ownsRow w.heap.size 3 1 (.slice (some ⟨w.heap.size, 0, none⟩) 0 cap) 0 []) ∧ Hid (Below w.heap.size w w')) := by
  obtain ⟨i0, hi0, hz0, hz1, hz2⟩ := info_parts Try.infoI
  rcases Nat.eq_zero_or_pos N with rfl | h0
  · refine (Any8.slices_Grow_room Try.growI none 0 0 0 w (Nat.le_refl _) (by omega) (by omega) (by omega)).mono ?_
    rintro e w' ⟨rfl, rfl⟩
    exact .inl ⟨rfl, rfl, rfl⟩
  · have hc := Any8.slices_Grow_grow Try.growI i0 _ hi0 hz0 (by rw [hz1]; omega) none 0 0 N [] w (Nat.le_refl _) (by omega) (by rw [hz2]; omega) (by omega) (by simp) (fun _ => rfl) (fun a h => by cases h)
    refine hc.mono ?_
    rintro e w' ⟨rfl, rfl⟩
    have hG := grownCap_ge w (0 + N) 0 (Try.growI_ren.t 25)
    have hGm := grownCap_le_maxLen w (0 + N) 0 (Try.growI_ren.t 25) (by unfold maxLen; omega)
    refine .inr ⟨h0, grownCap w (0 + N) 0 (Try.growI_ren.t 25), by omega, rfl, ?_, ((Below.refl _ w).drew).alloc (Nat.le_refl _) _⟩
    have hm := World.ownsRow_made (base := w.heap.size) (e := 3) (size := 1) w.drew (([] : List Value).toArray ++ Builtin.zeroCells (Value.int .i64 0).cells (0 + N - 0) ++ Builtin.zeroCells (Value.int .i64 0).cells (grownCap w (0 + N) 0 (Try.growI_ren.t 25) - (0 + N))) (grownCap w (0 + N) 0 (Try.growI_ren.t 25)) (Nat.le_refl _) hGm (by
      have z : ∀ n, (Builtin.zeroCells (Value.int .i64 0).cells n).size = n * 1 := fun n => by
        simp [Builtin.zeroCells, Value.cells]
      rw [Array.size_append, Array.size_append, z, z, show ([] : List Value).toArray.size = 0 from rfl]; omega)
    exact hm

theorem flat_take_up {G : List (List Nat)} {k : Nat} (h : k < G.length) : (G.take (k + 1)).flatten = (G.take k).flatten ++ G[k] := by
  rw [List.take_succ_eq_append_getElem h, List.flatten_append]; simp
theorem flat_take_le {G : List (List Nat)} (k : Nat) : (G.take k).flatten.length ≤ G.flatten.length := by
  conv => rhs; rw [← List.take_append_drop k G, List.flatten_append, List.length_append]
  omega

/-- what Concat holds in its second loop -/
structure CcS (w wr : World) (G : List (List Nat)) (g k cap : Nat) : Prop where
  below : Below w.heap.size w wr
  lo : w.heap.size ≤ g
  own : wr.ownsRow w.heap.size 3 1 (.slice (some ⟨g, 0, none⟩) (G.take k).flatten.length cap) (G.take k).flatten.length (nv (G.take k).flatten)

set_option maxRecDepth 100000 in
set_option maxHeartbeats 3200000 in
theorem w_Concat (so : Option Addr) (n cap : Nat) (G : List (List Nat)) (w : World) (hG : RnC w so cap G) (hn : G.length = n) (hT : G.flatten.length ≤ 1048576) (hne : ∀ g ∈ G, 0 < g.length) (hn2 : n ≤ 1048577) :
    Calls Try.prog 31 #[.slice so n cap] w fun e w' => ∃ ao ac, e = .returned (.slice ao G.flatten.length ac) ∧ NtC w' ao ac G.flatten ∧ Below w.heap.size w w' := by
  obtain ⟨i0, hi0, hz0, hz1, hz2⟩ := info_parts Try.infoI
  have HG := Hid.mk hG
  have HN := Hid.mk hn
  have HNE := Hid.mk hne
  have HT := Hid.mk hT
  have hfit := hG.fit
  rw [hn] at hfit
  obtain ⟨T, HTT⟩ : ∃ T, Hid (G.flatten.length = T) := ⟨_, rfl⟩
  obtain ⟨F, HFF⟩ : ∃ F, Hid (G.flatten = F) := ⟨_, rfl⟩
  rw [HTT.out, HFF.out]
  have hT2 : T ≤ 1048576 := by rw [← HTT.out]; exact hT
  clear hG hn hne hT
  go_enter Try.func31, Try.ntmps31
  go_wp2_with fail
  go_loopw [3, 11] (fun s i wr => ∃ k : Nat, k ≤ n ∧ i = .int .i64 (k : Int) ∧ ∃ m : Nat, m ≤ 1048576 ∧ s = .int .i64 (m : Int) ∧ Hid ((G.take k).flatten.length = m) ∧ Hid (wr = w)) (fun _ i _ => n - (intOf i).toNat)
  case atStart => exact ⟨0, Nat.zero_le _, rfl, 0, by omega, rfl, rfl, rfl⟩
  case round =>
    obtain ⟨k, hk, rfl, m, hm, rfl, HM, HW⟩ := hrel
    have hw := HW.out.symm
    subst hw
    clear HW
    by_cases hlt : k < n
    · have hl1 : (k : Int) < (n : Int) := by omega
      have hl0 : (0 : Int) ≤ (k : Int) := by omega
      have hkl : k < G.length := by rw [HN.out]; exact hlt
      obtain ⟨b, off, hso, hbl, hrow⟩ := HG.out.row (by omega)
      subst hso
      obtain ⟨ao, ac, c0, hnt⟩ := hrow k hkl
      obtain ⟨q, hq⟩ : ∃ q, G[k].length = q := ⟨_, rfl⟩
      rw [hq] at c0
      have HM2 : Hid ((G.take (k + 1)).flatten.length = m + q) := by show _ = _; rw [flat_take_up hkl, List.length_append, HM.out, hq]
      have hmq : m + q ≤ 1048576 := by rw [← HM2.out]; exact Nat.le_trans (flat_take_le _) HT.out
      have hmq0 : ¬ (m : Int) + (q : Int) < 0 := by omega
      clear hq hrow hbl hnt hkl
      go_wp2_with fail
      go_roundw
      case rel => exact ⟨k + 1, by omega, by go_num, m + q, hmq, by go_num, HM2, (by first | exact Hid.mk trivial | exact Hid.mk rfl)⟩
      case measure => simp [intOf]; omega
    · have hl1 : ¬ (k : Int) < (n : Int) := by omega
      have hkn : k = n := by omega
      have hmT : m = T := by rw [← HM.out, ← HTT.out, List.take_of_length_le (by rw [HN.out]; omega)]
      subst hmT
      clear hkn
      go_wp2_with fail
      refine (w_GrowI m _ (by omega)).mono ?_
      rintro e w1 (⟨h0, rfl, rfl⟩ | ⟨h0, gc, hgc, rfl, HO, HB⟩)
      · subst h0
        have hn0 : n = 0 := by
          rcases Nat.eq_zero_or_pos n with h | h
          · exact h
          · exfalso
            have hg : 0 < G.length := by rw [HN.out]; exact h
            have h1 := HNE.out G[0] (List.getElem_mem hg)
            have h2 : G[0].length ≤ G.flatten.length := by
              have h3 := flat_take_le (G := G) 1
              rw [flat_take_up hg, List.length_append] at h3
              omega
            rw [HTT.out] at h2
            omega
        subst hn0
        have HE : Hid (F = []) := by
          rw [← HFF.out]; exact List.length_eq_zero_iff.1 HTT.out
        go_wp2_with fail
        go_loopw [6, 27] (fun v i wr => v = .slice none 0 0 ∧ i = .int .i64 0 ∧ Hid (wr = w1)) (fun _ _ _ => 0)
        case atStart => exact ⟨rfl, rfl, rfl⟩
        case round =>
          obtain ⟨rfl, rfl, HW⟩ := hrel
          go_wp2_with fail
          go_ret
          exact ⟨none, 0, rfl, by rw [HE.out]; exact ⟨Nat.le_refl _, fun _ => rfl, fun h => absurd h (Nat.lt_irrefl _)⟩, by rw [HW.out]; exact Below.refl _ _⟩
      · have HS0 : Hid (CcS w w1 G w.heap.size 0 gc) := ⟨HB.out, Nat.le_refl _, HO.out⟩
        clear HO HB hlt hl1 HM hk hm
        go_wp2_with fail
        go_loopw [6, 27] (fun v i wr => ∃ k : Nat, k ≤ n ∧ i = .int .i64 (k : Int) ∧ ∃ L : Nat, v = .slice (some ⟨w.heap.size, 0, none⟩) L gc ∧ Hid ((G.take k).flatten.length = L) ∧ Hid (CcS w wr G w.heap.size k gc)) (fun _ i _ => n - (intOf i).toNat)
        case atStart => exact ⟨0, Nat.zero_le _, rfl, 0, rfl, rfl, HS0⟩
        case round =>
          clear HS0
          obtain ⟨k2, hk2, rfl, L, rfl, HL, HS⟩ := hrel
          by_cases hlt2 : k2 < n
          · have hl1 : (k2 : Int) < (n : Int) := by omega
            have hl0 : (0 : Int) ≤ (k2 : Int) := by omega
            have hkl : k2 < G.length := by rw [HN.out]; exact hlt2
            obtain ⟨b, off, hso, hbl, hrow⟩ := (HG.out.keep HS.out.below).row (by omega)
            subst hso
            obtain ⟨ao, ac, c0, hnt⟩ := hrow k2 hkl
            obtain ⟨q, hq⟩ : ∃ q, G[k2].length = q := ⟨_, rfl⟩
            obtain ⟨g, hg⟩ : ∃ g, G[k2] = g := ⟨_, rfl⟩
            rw [hq] at c0
            rw [hg] at hnt hq
            have HL2 : Hid ((G.take (k2 + 1)).flatten = (G.take k2).flatten ++ g) := by show _ = _; rw [flat_take_up hkl, hg]
            have hLq : L + q ≤ gc := by
              have h1 := flat_take_le (G := G) (k2 + 1)
              rw [HL2.out, List.length_append, HL.out, hq, HTT.out] at h1
              omega
            have HQ := Hid.mk hq
            have HNT := Hid.mk hnt
            have HOw := HS.out.own
            rw [HL.out] at HOw
            have hqn : ao = none → q = 0 ∧ ac = 0 := fun e => ⟨by have h1 := HNT.out.fit; have h2 := HNT.out.nil e; have h3 := HQ.out; omega, HNT.out.nil e⟩
            clear hrow hbl hkl hg hq hnt
            go_wp2_with (at_builtin; go_loud (refine wpList_append_fits_any _ rfl _ _ 50 rfl w.heap.size 3 i0 1 Try.underlying50 hi0 hz1 w.heap.size L gc (nv (G.take k2).flatten) rfl HOw ao q ac (nv g) rfl (by rw [nv_len, HQ.out]; omega) hqn HNT.out.news (nv_one _) hLq ?_; intro w3 hown3 hgrow3))
            have HL3 : Hid ((G.take (k2 + 1)).flatten.length = L + q) := by show _ = _; rw [HL2.out, List.length_append, HL.out, HQ.out]
            have HS2 : Hid (CcS w w3 G w.heap.size (k2 + 1) gc) := ⟨HS.out.below.grown hgrow3 HS.out.below.size (fun j e => by cases e; exact Nat.le_refl _), Nat.le_refl _, by rw [HL3.out, HL2.out, nv_app]; exact hown3⟩
            clear hown3 hgrow3 HOw
            go_wp2_with fail
            go_roundw
            case rel => exact ⟨k2 + 1, by omega, by go_num, L + q, by first | rfl | go_num, HL3, HS2⟩
            case measure => simp [intOf]; omega
          · have hl1 : ¬ (k2 : Int) < (n : Int) := by omega
            have e0 : G.take k2 = G := List.take_of_length_le (by rw [HN.out]; omega)
            have hLT : L = m := by rw [← HL.out, e0]; exact HTT.out
            subst hLT
            have HF : Hid (NtC wr (some ⟨w.heap.size, 0, none⟩) gc F) := by
              have h1 := HS.out.own
              rw [HL.out, e0, HFF.out] at h1
              exact .of_own h1 (by rw [← HFF.out]; exact HTT.out)
            clear e0
            go_wp2_with fail
            go_ret
            exact ⟨_, gc, rfl, HF.out, HS.out.below⟩
end Go.Proofs.Ytmknelkgfnklfaa
namespace Go.Proofs.Ytmknelkgfnklfaa
open Go.RowKit Go.Shelf Go.Sort
set_option linter.unusedVariables false
set_option linter.unusedSimpArgs false
attribute [local go_sem] Oper.semAt_some

/-- a row of values in memory of its own: the row in the block g, the trees behind it -/
structure TwL (w' : World) (h g n cap : Nat) (us : List VT) : Prop where
  len : us.length = n
  fit : n ≤ cap
  row : ∃ c : Nat → Fin 5 → Value, w'.ownsRow g 25 5 (.slice (some ⟨g, 0, none⟩) n cap) n (flat c n) ∧ ∀ i, (hi : i < us.length) → InF (g + 1) w' h us[i] (.agg #[c i 0, c i 1, c i 2, c i 3, c i 4])
theorem TwL.low {w u : World} {h g n cap : Nat} {us : List VT} (H : TwL w h g n cap us) (hb : Below w.heap.size w u) : TwL u h g n cap us := by
  obtain ⟨c, h1, h2⟩ := H.row
  exact ⟨H.len, H.fit, c, own_low h1 hb, fun i hi => (h2 i hi).low hb⟩
theorem TwL.lt {w : World} {h g n cap : Nat} {us : List VT} (H : TwL w h g n cap us) : g < w.heap.size := by
  obtain ⟨c, h1, _⟩ := H.row
  exact (h1.lt g rfl).2
theorem TwL.toI {w : World} {h g n cap : Nat} {us : List VT} (H : TwL w h g n cap us) : IIn w h (some ⟨g, 0, none⟩) us := by
  obtain ⟨c, h1, h2⟩ := H.row
  refine ⟨fun _ => ⟨g, 0, rfl, H.lt, fun i hi => ⟨c i 0, c i 1, c i 2, c i 3, c i 4, ?_, (h2 i hi).toH⟩⟩⟩
  have hn := H.len
  have cc : ∀ j : Fin 5, w.cell? ⟨g, i * 5 + j.1, none⟩ = some (c i j) := fun j => by
    have hj := j.2
    rw [own_cellAt h1 (by omega), flat_get c n i j (by omega)]
  simp only [Nat.zero_add]
  exact ⟨cc 0, cc 1, cc 2, cc 3, cc 4⟩

/-- one more -/
theorem TwL.more {w4 w5 : World} {h g k cap : Nat} {us : List VT} {o : Obj} {T : VT} {y0 y1 y2 y3 y4 : Value} (H : TwL w4 h g k cap us) (c : Nat → Fin 5 → Value) (ho : w4.ownsRow g 25 5 (.slice (some ⟨g, 0, none⟩) k cap) k (flat c k)) (hc : ∀ i, (hi : i < us.length) → InF (g + 1) w4 h us[i] (.agg #[c i 0, c i 1, c i 2, c i 3, c i 4]))
    (hy : InF (g + 1) w4 h T (.agg #[y0, y1, y2, y3, y4])) (hk : k + 1 ≤ cap) (hg : (w4.alloc o).grownBy w5 (some g)) (hown : w5.ownsRow g 25 5 (.slice (some ⟨g, 0, none⟩) (k + 1) cap) (k + 1) (flat c k ++ [y0, y1, y2, y3, y4])) :
    TwL w5 h g (k + 1) cap (us ++ [T]) := by
  have hgs := hg.size
  simp at hgs
  have hl := H.len
  obtain ⟨d, hd⟩ : ∃ d : Nat → Fin 5 → Value, (∀ i, i < k → d i = c i) ∧ d k = (fun j => match j with | 0 => y0 | 1 => y1 | 2 => y2 | 3 => y3 | 4 => y4) := ⟨fun i => if i < k then c i else (fun j => match j with | 0 => y0 | 1 => y1 | 2 => y2 | 3 => y3 | 4 => y4), fun i hi => by simp [hi], by simp⟩
  have keep : ∀ {T : VT} {v : Value}, InF (g + 1) w4 h T v → InF (g + 1) w5 h T v := fun {T v} hI =>
    InF.keepB (by omega) (fun b hb hlt => (hg.block b (by simp; omega) (fun e => absurd (Option.some.inj e) (by omega))).trans (Below.heap_alloc _ _ b hlt)) (Nat.le_refl _) hI
  refine ⟨by rw [List.length_append, hl]; rfl, hk, d, ?_, fun i hi => ?_⟩
  · rw [flat_up, flat_eq hd.1, hd.2]; exact hown
  · rw [List.length_append] at hi
    by_cases hik : i < us.length
    · rw [List.getElem_append_left hik, hd.1 i (by omega)]; exact keep (hc i hik)
    · have e : i = k := by simp at hi; omega
      subst e
      rw [List.getElem_append_right (by omega), hd.2]
      simp only [hl, Nat.sub_self, List.getElem_cons_zero]
      exact keep hy

/-- values at places -/
def pick (ts : List VT) (l : List Nat) : List VT := l.map fun i => (ts[i]?).getD (.mk 0 .empty .empty [] [])
theorem pick_up {ts : List VT} {l : List Nat} {k : Nat} (hk : k < l.length) (h : l[k] < ts.length) : pick ts (l.take (k + 1)) = pick ts (l.take k) ++ [ts[l[k]]] := by
  unfold pick
  rw [List.take_succ_eq_append_getElem hk, List.map_append]
  simp [h]
theorem pick_len (ts : List VT) (l : List Nat) : (pick ts l).length = l.length := by simp [pick]

set_option maxRecDepth 100000 in
set_option maxHeartbeats 3200000 in
theorem w_twins (h : Nat) (io : Option Addr) (N icap : Nat) (ts : List VT) (ao : Option Addr) (M acap : Nat) (l : List Nat) (w : World) (hi : IIn w h io ts) (hN : ts.length = N) (hcap : N ≤ icap) (hN2 : N ≤ 1048576) (ha : NtC w ao acap l) (hM : l.length = M) (hM2 : M ≤ 1048576) (hl : ∀ x ∈ l, x < N) (hsz : ∀ T ∈ ts, szN h T ≤ 1048577) :
    Calls Try.prog 30 #[.slice io N icap, .slice ao M acap] w fun e w' => e = .returned (.slice (some ⟨w.heap.size, 0, none⟩) M M) ∧ TwL w' h w.heap.size M M (pick ts l) ∧ Below w.heap.size w w' := by
  obtain ⟨i0, hi0, hz0, hz1, hz2⟩ := info_parts Try.infoV
  have hmax : M ≤ maxLen := by unfold maxLen; omega
  have HI := Hid.mk hi
  have HNN := Hid.mk hN
  have HA := Hid.mk ha
  have HMM := Hid.mk hM
  have HL := Hid.mk hl
  have HSZ := Hid.mk hsz
  have hfit := ha.fit
  rw [hM] at hfit
  clear hi hN ha hM hl hsz
  go_enter Try.func30, Try.ntmps30
  go_wp2_with (at_make; go_loud (refine wpList_make_own _ rfl _ _ 22 rfl w.heap.size 25 i0 (.agg #[.int .i64 0, .string ⟨#[]⟩, .string ⟨#[]⟩, .slice none 0 0, .slice none 0 0]) 5 Try.underlying22 hi0 hz0 hz1 .i64 .i64 _ M rfl rfl rfl (by rw [hz2]; omega) hmax (Nat.le_refl _) ?_; intro w1 hown1 hgrow1))
  go_loopw [5, 13] (fun v i wr => ∃ k : Nat, k ≤ M ∧ i = .int .i64 (k : Int) ∧ v = .slice (some ⟨w.heap.size, 0, none⟩) k M ∧ Hid (TwL wr h w.heap.size k M (pick ts (l.take k))) ∧ Hid (Below w.heap.size w wr)) (fun _ i _ => M - (intOf i).toNat)
  case atStart => exact ⟨0, Nat.zero_le _, rfl, rfl, ⟨rfl, Nat.zero_le _, fun _ _ => undef, hown1, fun i hi => absurd hi (Nat.not_lt_zero _)⟩, (Below.refl _ _).grown hgrow1 (Nat.le_refl _) (fun j e => by cases e)⟩
  case round =>
    clear hown1 hgrow1
    obtain ⟨k, hk, rfl, rfl, HT, HB⟩ := hrel
    by_cases hlt : k < M
    · have hl1 : (k : Int) < (M : Int) := by omega
      have hl0 : (0 : Int) ≤ (k : Int) := by omega
      have hkl : k < l.length := by rw [HMM.out]; exact hlt
      obtain ⟨b, off, hao, hbl, hrow⟩ := (HA.out.keep HB.out).row (by omega)
      subst hao
      have c0 := hrow k hkl
      have hx := HL.out l[k] (List.getElem_mem hkl)
      have hxl : l[k] < ts.length := by rw [HNN.out]; exact hx
      have HUp := Hid.mk (pick_up hkl hxl)
      have e0 : l.getD k 0 = l[k] := by simp [List.getD, hkl]
      rw [e0] at c0
      obtain ⟨b2, off2, hio, hbl2, hrow2⟩ := (HI.out.keep HB.out).row (by omega)
      subst hio
      obtain ⟨ik, inm, itx, iio, iN, iicap, iko, iK, ikcap, ⟨d0, d1, d2, d3, d4⟩, ht⟩ := item_at hrow2 hxl
      have HC := Hid.mk (w_Twin h _ _ wr ht (HSZ.out _ (List.getElem_mem hxl)))
      generalize ts[l[k]] = T at *
      generalize l[k] = x at *
      have x1 : (x : Int) < (N : Int) := by omega
      have x0 : (0 : Int) ≤ (x : Int) := by omega
      clear hrow hrow2 hbl hbl2 hkl hxl e0 ht
      go_wp2_with fail
      refine HC.out.mono ?_
      rintro e w4 ⟨v', rfl, hF, hb4⟩
      obtain ⟨yk, yn, yt, yio, yN, yic, yko, yK, ykc, rfl⟩ := hF.shape
      have HT4 := Hid.mk (HT.out.low hb4)
      have HB4 := Hid.mk (HB.out.trans (hb4.mono HB.out.size))
      have HF4 : Hid (InF (w.heap.size + 1) w4 h T (.agg #[.int .i64 yk, .string yn, .string yt, .slice yio yN yic, .slice yko yK ykc])) := InF.keepB (Nat.le_refl _) (fun _ _ _ => rfl) (HT.out.lt) hF
      clear hF hb4 HC c0 d0 d1 d2 d3 d4
      obtain ⟨c, ho4, hc4⟩ := HT4.out.row
      have HC4 := Hid.mk hc4
      clear hc4
      have hkc : k + 1 ≤ M := by omega
      go_wp2_with (at_builtin; go_loud (refine wpList_append_fits _ rfl _ _ 22 rfl w.heap.size 25 i0 5 Try.underlying22 hi0 hz1 w.heap.size k M (flat c k) rfl (ho4.alloc _) ⟨w4.heap.size, 0, none⟩ 1 1 [.int .i64 yk, .string yn, .string yt, .slice yio yN yic, .slice yko yK ykc] rfl rfl (new5 (heap_alloc_new w4 _)) (by intro u hu; simp at hu; rcases hu with rfl | rfl | rfl | rfl | rfl <;> rfl) hkc ?_; intro w5 hown5 hgrow5))
      have HN : Hid (TwL w5 h w.heap.size (k + 1) M (pick ts (l.take (k + 1)))) := by
        show TwL _ _ _ _ _ _
        rw [HUp.out]
        exact TwL.more HT4.out c ho4 HC4.out HF4.out hkc hgrow5 hown5
      have HB5 : Hid (Below w.heap.size w w5) := by
        have hs := HB4.out.size
        exact (HB4.out.alloc hs _).grown hgrow5 (by simp; omega) (fun j e => by cases e; exact Nat.le_refl _)
      clear hown5 hgrow5 ho4
      go_wp2_with fail
      go_roundw
      case rel => exact ⟨k + 1, by omega, by go_num, by first | rfl | go_num, HN, HB5⟩
      case measure => simp [intOf]; omega
    · have hl1 : ¬ (k : Int) < (M : Int) := by omega
      obtain rfl : k = M := by omega
      have HF : Hid (TwL wr h w.heap.size k k (pick ts l)) := by
        have h1 := HT.out
        rw [List.take_of_length_le (by rw [HMM.out]; omega)] at h1
        exact h1
      go_wp2_with fail
      go_ret
      exact ⟨rfl, HF.out, HB.out⟩
end Go.Proofs.Ytmknelkgfnklfaa
namespace Go.Proofs.Ytmknelkgfnklfaa
open Go.RowKit Go.Shelf Go.Sort
set_option linter.unusedVariables false
set_option linter.unusedSimpArgs false

theorem grp_flat (h : Nat) (ks : List VT) : (grp h ks).flatten = srt (cK h ks) ks.length := by
  unfold grp
  have := cut_flat (cK h ks) (srt (cK h ks) ks.length)
  rwa [List.flatMap_def] at this
theorem gpL_ne {h : Nat} {ls ks : List VT} : ∀ g ∈ gpL h ls ks, 0 < g.length := by
  intro g hg
  unfold gpL at hg
  split at hg
  · obtain ⟨p, hp, rfl⟩ := List.mem_map.1 hg
    have := cut_in _ _ hp
    rw [run_len this]; omega
  · cases hg
theorem gpE_zero {h : Nat} {ls ks : List VT} (e : gpE h ls ks = 0) : ls.length = ks.length ∧ (∀ T ∈ ls, formN h T = true) ∧ (∀ T ∈ ks, formN h T = true) := by
  unfold gpE at e
  split at e
  · rename_i hh
    split at e
    · rename_i hl
      rw [Bool.and_eq_true] at hh
      exact ⟨hl, fun T hT => List.all_eq_true.1 hh.1 T hT, fun T hT => List.all_eq_true.1 hh.2 T hT⟩
    · cases e
  · cases e
theorem gpL_flat {h : Nat} {ls ks : List VT} : (gpE h ls ks = 0 ∧ (gpL h ls ks).flatten = srt (cK h ks) ks.length) ∨ (gpL h ls ks = [] ∧ gpE h ls ks ≠ 0) := by
  by_cases e : gpE h ls ks = 0
  · refine .inl ⟨e, ?_⟩
    unfold gpL; rw [if_pos e]; exact grp_flat h ks
  · refine .inr ⟨?_, e⟩
    unfold gpL; rw [if_neg e]
theorem gpL_lt {h : Nat} {ls ks : List VT} : ∀ x ∈ (gpL h ls ks).flatten, x < ls.length := by
  intro x hx
  rcases gpL_flat (h := h) (ls := ls) (ks := ks) with ⟨e, h1⟩ | ⟨h1, _⟩
  · rw [h1] at hx
    rw [(gpE_zero e).1]; exact srt_lt hx
  · rw [h1] at hx; cases hx
theorem gpL_len {h : Nat} {ls ks : List VT} : (gpL h ls ks).flatten.length ≤ ls.length := by
  rcases gpL_flat (h := h) (ls := ls) (ks := ks) with ⟨e, h1⟩ | ⟨h1, _⟩
  · rw [h1, srt_len, (gpE_zero e).1]; exact Nat.le_refl _
  · rw [h1]; exact Nat.zero_le _
theorem len_flat {G : List (List Nat)} (h : ∀ g ∈ G, 0 < g.length) : G.length ≤ G.flatten.length := by
  induction G with
  | nil => exact Nat.le_refl _
  | cons g G ih =>
    have h1 := h g (List.mem_cons_self ..)
    have h2 := ih fun x hx => h x (List.mem_cons_of_mem _ hx)
    rw [List.flatten_cons, List.length_append, List.length_cons]; omega

/-- SortBy's values -/
def sbL (h : Nat) (ls ks : List VT) : List VT := pick ls (gpL h ls ks).flatten

/-- a row of values in memory of its own, answered beside an error -/
def RowE (w w' : World) (h : Nat) (us : List VT) (er : Int) (e : Ending) : Prop := ∃ g n, e = .returned (.tuple #[.slice (some ⟨g, 0, none⟩) n n, .int .i64 er]) ∧ TwL w' h g n n us ∧ w.heap.size ≤ g ∧ Below w.heap.size w w'

set_option maxRecDepth 100000 in
set_option maxHeartbeats 3200000 in
theorem w_SortBy (h : Nat) (io : Option Addr) (N icap : Nat) (ko : Option Addr) (K kcap : Nat) (ls ks : List VT) (w : World) (hi : IIn w h io ls) (hN : ls.length = N) (hcap : N ≤ icap) (hN2 : N ≤ 1048576) (hk : IIn w h ko ks) (hK : ks.length = K) (hkcap : K ≤ kcap) (hK2 : K ≤ 1048576) (hsz : ∀ T ∈ ls, szN h T ≤ 1048577) :
    Calls Try.prog 11 #[.slice io N icap, .slice ko K kcap] w fun e w' => RowE w w' h (sbL h ls ks) (gpE h ls ks) e := by
  have HG := Hid.mk (w_grouped h io N icap ko K kcap ls ks w hi hN hcap hN2 hk hK hkcap hK2)
  have hne := gpL_ne (h := h) (ls := ls) (ks := ks)
  have hlt := gpL_lt (h := h) (ls := ls) (ks := ks)
  have hle := gpL_len (h := h) (ls := ls) (ks := ks)
  unfold sbL
  rw [hN] at hle hlt
  generalize gpL h ls ks = G at *
  have hgl := len_flat hne
  obtain ⟨n, hn⟩ : ∃ n, G.length = n := ⟨_, rfl⟩
  obtain ⟨F, hF⟩ : ∃ F, G.flatten = F := ⟨_, rfl⟩
  obtain ⟨m, hm⟩ : ∃ m, F.length = m := ⟨_, rfl⟩
  rw [hn] at HG
  rw [hn] at hgl
  rw [hF] at hlt hle hgl ⊢
  rw [hm] at hle hgl
  have HCc := Hid.mk (fun u so cap (hr : RnC u so cap G) => w_Concat so n cap G u hr hn (by rw [hF, hm]; omega) hne (by omega))
  rw [hF, hm] at HCc
  have HTw := Hid.mk (fun u (hb : Below w.heap.size w u) ao ac (ha : NtC u ao ac F) => w_twins h io N icap ls ao m ac F u (hi.keep hb) hN hcap hN2 ha hm (by omega) hlt hsz)
  generalize gpE h ls ks = er at *
  clear hi hN hk hK hne hlt hF hn hm hsz
  go_enter Try.func11, Try.ntmps11
  go_wp2_with fail
  refine HG.out.mono ?_
  rintro e w1 ⟨so, cap, rfl, hr1, hb1⟩
  have HB1 := Hid.mk hb1
  have HR1 := Hid.mk hr1
  clear hb1 hr1
  go_wp2_with fail
  refine (HCc.out w1 so cap HR1.out).mono ?_
  rintro e w2 ⟨ao, ac, rfl, hn2, hb2⟩
  have HB2 := Hid.mk (HB1.out.trans (hb2.mono HB1.out.size))
  have HN2 := Hid.mk hn2
  clear hb2 hn2
  go_wp2_with fail
  refine (HTw.out w2 HB2.out ao ac HN2.out).mono ?_
  rintro e w3 ⟨rfl, ht3, hb3⟩
  have HB3 := Hid.mk (HB2.out.trans (hb3.mono HB2.out.size))
  have HT3 := Hid.mk ht3
  clear hb3 ht3
  go_wp2_with fail
  go_ret2
  exact ⟨_, _, rfl, HT3.out, HB2.out.size, HB3.out⟩

set_option maxRecDepth 100000 in
set_option maxHeartbeats 3200000 in
theorem w_oSort (h : Nat) (io : Option Addr) (N icap : Nat) (ls : List VT) (w : World) (hi : IIn w h io ls) (hN : ls.length = N) (hcap : N ≤ icap) (hN2 : N ≤ 1048576) (hsz : ∀ T ∈ ls, szN h T ≤ 1048577) :
    Calls Try.prog 19 #[.slice io N icap] w fun e w' => RowE w w' h (sbL h ls ls) (gpE h ls ls) e := by
  have HC := Hid.mk (w_SortBy h io N icap io N icap ls ls w hi hN hcap hN2 hi hN hcap hN2 hsz)
  generalize gpE h ls ls = er at *
  generalize sbL h ls ls = us at *
  clear hi hN hsz
  go_enter Try.func19, Try.ntmps19
  go_wp2_with fail
  refine HC.out.mono ?_
  rintro e w1 ⟨g, n, rfl, ht1, hg1, hb1⟩
  have HF := Hid.mk (And.intro ht1 (And.intro hg1 hb1))
  clear ht1 hg1 hb1
  go_wp2_with fail
  go_ret2
  exact ⟨g, n, rfl, HF.out.1, HF.out.2.1, HF.out.2.2⟩
end Go.Proofs.Ytmknelkgfnklfaa
namespace Go.Proofs.Ytmknelkgfnklfaa
open Go.RowKit Go.Shelf Go.Sort
set_option linter.unusedVariables false
set_option linter.unusedSimpArgs false

theorem NtC.of_any {w : World} {base n : Nat} {v : Value} {xs : List Nat} (h : w.ownsRow base 3 1 v n (nv xs)) (hn : xs.length = n) : ∃ so cap, v = .slice so n cap ∧ NtC w so cap xs := by
  rcases h.2 with ⟨h1, h2⟩ | ⟨g', cap', cur, h1, _⟩
  · have hn0 : n = 0 := by
      have := h2
      first | omega | (have h3 := congrArg List.length this; simp [nv] at h3; omega) | (simp at this; omega)
    subst hn0
    have hx : xs = [] := List.length_eq_zero_iff.1 hn
    subst hx
    exact ⟨none, 0, h1, Nat.le_refl _, fun _ => rfl, fun h => absurd h (Nat.lt_irrefl _)⟩
  · subst h1
    exact ⟨_, cap', rfl, .of_own h hn⟩

def heads (G : List (List Nat)) : List Nat := G.map fun g => g.getD 0 0
theorem heads_len (G : List (List Nat)) : (heads G).length = G.length := by simp [heads]
theorem heads_up {G : List (List Nat)} {k : Nat} (h : k < G.length) : heads (G.take (k + 1)) = heads (G.take k) ++ [G[k].getD 0 0] := by
  unfold heads; rw [List.take_succ_eq_append_getElem h, List.map_append]; rfl
theorem heads_lt {G : List (List Nat)} {N : Nat} (hne : ∀ g ∈ G, 0 < g.length) (h : ∀ x ∈ G.flatten, x < N) : ∀ x ∈ heads G, x < N := by
  intro x hx
  obtain ⟨g, hg, rfl⟩ := List.mem_map.1 hx
  have h0 := hne g hg
  refine h _ (List.mem_flatten.2 ⟨g, hg, ?_⟩)
  simp [List.getD, h0]

/-- Unique's values -/
def unL (h : Nat) (ls ks : List VT) : List VT := pick ls (heads (gpL h ls ks))

set_option maxRecDepth 100000 in
set_option maxHeartbeats 3200000 in
theorem w_Unique (h : Nat) (io : Option Addr) (N icap : Nat) (ko : Option Addr) (K kcap : Nat) (ls ks : List VT) (w : World) (hi : IIn w h io ls) (hN : ls.length = N) (hcap : N ≤ icap) (hN2 : N ≤ 1048576) (hk : IIn w h ko ks) (hK : ks.length = K) (hkcap : K ≤ kcap) (hK2 : K ≤ 1048576) (hsz : ∀ T ∈ ls, szN h T ≤ 1048577) :
    Calls Try.prog 12 #[.slice io N icap, .slice ko K kcap] w fun e w' => RowE w w' h (unL h ls ks) (gpE h ls ks) e := by
  obtain ⟨i0, hi0, hz0, hz1, hz2⟩ := info_parts Try.infoI
  have HG := Hid.mk (w_grouped h io N icap ko K kcap ls ks w hi hN hcap hN2 hk hK hkcap hK2)
  have hne := gpL_ne (h := h) (ls := ls) (ks := ks)
  have hlt := gpL_lt (h := h) (ls := ls) (ks := ks)
  have hle := gpL_len (h := h) (ls := ls) (ks := ks)
  unfold unL
  rw [hN] at hle hlt
  generalize gpL h ls ks = G at *
  have hgl := len_flat hne
  obtain ⟨n, hn⟩ : ∃ n, G.length = n := ⟨_, rfl⟩
  rw [hn] at HG
  rw [hn] at hgl
  have hnN : n ≤ 1048576 := by omega
  have HTw := Hid.mk (fun u (hb : Below w.heap.size w u) ao ac (ha : NtC u ao ac (heads G)) => w_twins h io N icap ls ao n ac (heads G) u (hi.keep hb) hN hcap hN2 ha (by rw [heads_len, hn]) (by omega) (heads_lt hne hlt) hsz)
  have HNE := Hid.mk hne
  have HNN := Hid.mk hn
  generalize gpE h ls ks = er at *
  clear hi hN hk hK hne hlt hn hsz hle hgl
  obtain ⟨us, HUS⟩ : ∃ us, Hid (pick ls (heads G) = us) := ⟨_, rfl⟩
  rw [HUS.out] at HTw ⊢
  go_enter Try.func12, Try.ntmps12
  go_wp2_with fail
  refine HG.out.mono ?_
  rintro e w1 ⟨so, cap, rfl, hr1, hb1⟩
  have HB1 := Hid.mk hb1
  have HR1 := Hid.mk hr1
  clear hb1 hr1 HG
  go_wp2_with fail
  go_loopw [8, 19] (fun v i wr => ∃ k : Nat, k ≤ n ∧ i = .int .i64 (k : Int) ∧ Hid (wr.ownsRow w1.heap.size 3 1 v k (nv (heads (G.take k)))) ∧ Hid (Below w1.heap.size w1 wr)) (fun _ i _ => n - (intOf i).toNat)
  case atStart => exact ⟨0, Nat.zero_le _, rfl, World.ownsRow_nil _ _ _ _, Below.refl _ _⟩
  case round =>
    obtain ⟨k, hk, rfl, HO, HB⟩ := hrel
    by_cases hltk : k < n
    · have hl1 : (k : Int) < (n : Int) := by omega
      have hl0 : (0 : Int) ≤ (k : Int) := by omega
      have hkl : k < G.length := by rw [HNN.out]; exact hltk
      obtain ⟨b, off, hso, hbl, hrow⟩ := (HR1.out.keep HB.out).row (by omega)
      subst hso
      obtain ⟨ao, ac, c0, hnt⟩ := hrow k hkl
      have h0 := HNE.out G[k] (List.getElem_mem hkl)
      obtain ⟨b2, off2, hao, hbl2, hrow2⟩ := hnt.row h0
      subst hao
      have d0 := hrow2 0 h0
      rw [Nat.add_zero] at d0
      have HUp := Hid.mk (heads_up hkl)
      obtain ⟨q, hq⟩ : ∃ q, G[k].length = q + 1 := ⟨G[k].length - 1, by omega⟩
      rw [hq] at c0
      generalize G[k].getD 0 0 = x at *
      have q0 : (0 : Int) < (q : Int) + 1 := by omega
      obtain ⟨vo, vc, hv⟩ := own_shapeZ HO.out
      subst hv
      have hsz := HB.out.size
      have hnb : k + 1 ≤ maxLen := by unfold maxLen; omega
      have d0a : ∀ o, (wr.alloc o).cell? ⟨b2, off2, none⟩ = some (.int .i64 (x : Int)) := fun o => ((below1 wr o).cell (p := ⟨b2, off2, none⟩) hbl2).trans d0
      clear hrow hrow2 hbl hnt h0 hq
      clear hkl
      go_wp2_with (at_builtin; go_loud (refine wpList_append_lies _ rfl _ _ 50 rfl w1.heap.size 3 i0 (.int .i64 0) 1 8 Try.underlying50 hi0 hz0 hz1 hz2 rfl (by decide) _ _ _ rfl (HO.out.alloc _) ⟨wr.heap.size, 0, none⟩ 1 1 [.int .i64 (x : Int)] rfl rfl (World.news_of_block (cs := #[.int .i64 (x : Int)]) (t := 3) (fr := (0, 0)) (heap_alloc_new wr _)) (by simp [Value.oneCell']) (by omega) hnb (by omega) (by simp; omega) (wr.heap.size + 1) (by simp) ?_; intro g3 cap3 w3 hown3 hgrow3 hat3 hlt3))
      have HO3 : Hid (w3.ownsRow w1.heap.size 3 1 (.slice (some ⟨g3, 0, none⟩) (k + 1) cap3) (k + 1) (nv (heads (G.take (k + 1))))) := by
        show World.ownsRow _ _ _ _ _ _ _
        rw [HUp.out, nv_app]; exact hown3
      have HB3 : Hid (Below w1.heap.size w1 w3) := (HB.out.alloc hsz _).grown hgrow3 (by simp; omega) (own_baseZ HO.out)
      clear hown3 hgrow3 hat3 hlt3 d0 d0a c0
      go_wp2_with fail
      go_roundw
      case rel => exact ⟨k + 1, by omega, by go_num, HO3, HB3⟩
      case measure => simp [intOf]; omega
    · have hl1 : ¬ (k : Int) < (n : Int) := by omega
      obtain rfl : k = n := by omega
      have hO := HO.out
      rw [List.take_of_length_le (by rw [HNN.out]; omega)] at hO
      obtain ⟨ao, ac, hv, hnt⟩ := NtC.of_any hO (by rw [heads_len, HNN.out])
      subst hv
      have HNT := Hid.mk hnt
      have HBw := Hid.mk (HB1.out.trans (HB.out.mono HB1.out.size))
      clear hO hnt
      go_wp2_with fail
      refine (HTw.out wr HBw.out ao ac HNT.out).mono ?_
      rintro e w3 ⟨rfl, ht3, hb3⟩
      have HB3 := Hid.mk (HBw.out.trans (hb3.mono HBw.out.size))
      have HT3 := Hid.mk ht3
      clear hb3 ht3
      go_wp2_with fail
      go_ret2
      exact ⟨_, _, rfl, HT3.out, HBw.out.size, HB3.out⟩
end Go.Proofs.Ytmknelkgfnklfaa
namespace Go.Proofs.Ytmknelkgfnklfaa
open Go.RowKit Go.Shelf Go.Sort
set_option linter.unusedVariables false
set_option linter.unusedSimpArgs false

theorem Try.infoVs : (Try.prog.info? 22).map (fun i => (i.zero, i.size, i.bytes)) = some (some (.slice none 0 0), 1, 24) := by kernel_rfl

theorem TwL.keepB {w u : World} {h g n cap : Nat} {us : List VT} (H : TwL w h g n cap us) (hz : w.heap.size ≤ u.heap.size) (hs : ∀ b, g ≤ b → b < w.heap.size → u.heap[b]? = w.heap[b]?) : TwL u h g n cap us := by
  have hl := H.lt
  obtain ⟨c, h1, h2⟩ := H.row
  refine ⟨H.len, H.fit, c, ?_, fun i hi => InF.keepB hz (fun b hb hlt => hs b (by omega) hlt) (Nat.le_refl _) (h2 i hi)⟩
  refine ⟨h1.1, h1.2.imp id ?_⟩
  rintro ⟨g', cap', cur, e1, e2, e3, rest⟩
  refine ⟨g', cap', cur, e1, e2, ?_, rest⟩
  have e : g' = g := by simp only [Value.slice.injEq, Option.some.injEq, Addr.mk.injEq] at e1; exact e1.1.1.symm
  subst e
  exact (hs g' (Nat.le_refl _) hl).trans e3

theorem ownZ_lt {w : World} {B e n g : Nat} {v : Value} {xs : List Value} (h : w.ownsRow B e 1 v n xs) (hg : v.ownBlock = some g) : g < w.heap.size := by
  rcases h.2 with ⟨rfl, e2⟩ | ⟨g', cap', cur, rfl, hb, hr, _⟩
  · simp [Value.ownBlock] at hg
  · simp only [Value.ownBlock, Option.some.injEq] at hg
    subst hg
    exact (Array.getElem?_eq_some_iff.1 hr).1

/-- a group that is done, while the row of groups grows -/
def GrD (wr : World) (vo : Value) (h g n : Nat) (us : List VT) : Prop := ∃ wk, TwL wk h g n n us ∧ wk.heap.size ≤ wr.heap.size ∧ (∀ b, g ≤ b → b < wk.heap.size → wr.heap[b]? = wk.heap[b]?) ∧ (∀ go, vo.ownBlock = some go → go < g ∨ wk.heap.size ≤ go)
theorem GrD.toT {wr : World} {vo : Value} {h g n : Nat} {us : List VT} (H : GrD wr vo h g n us) : TwL wr h g n n us := by
  obtain ⟨wk, h1, h2, h3, _⟩ := H
  exact h1.keepB h2 h3
theorem GrD.move {wr w4 w5 : World} {vo vn : Value} {h g n : Nat} {us : List VT} (H : GrD wr vo h g n us) (hb : Below wr.heap.size wr w4) (o : Obj) (hg : (w4.alloc o).grownBy w5 vo.ownBlock) (hv : ∀ go, vn.ownBlock = some go → vo.ownBlock = some go ∨ w4.heap.size ≤ go) : GrD w5 vn h g n us := by
  obtain ⟨wk, h1, h2, h3, h4⟩ := H
  have s1 := hb.size
  have s2 := hg.size
  simp at s2
  refine ⟨wk, h1, by omega, fun b hb1 hb2 => ?_, fun go e => ?_⟩
  · rw [hg.block b (by simp; omega) (fun e => by rcases h4 b e.symm with h | h <;> omega), Below.heap_alloc _ _ b (by omega), hb.block b (by omega)]
    exact h3 b hb1 hb2
  · rcases hv go e with h5 | h5
    · exact h4 go h5
    · exact .inr (by omega)

/-- groups of values, each in memory of its own, as they lie -/
structure GsC (w : World) (h : Nat) (so : Option Addr) (cap : Nat) (gs : List (List VT)) : Prop where
  fit : gs.length ≤ cap
  row : 0 < gs.length → ∃ b, so = some ⟨b, 0, none⟩ ∧ b < w.heap.size ∧ ∀ i, (hi : i < gs.length) → ∃ g, w.cell? ⟨b, i, none⟩ = some (.slice (some ⟨g, 0, none⟩) gs[i].length gs[i].length) ∧ TwL w h g gs[i].length gs[i].length gs[i]
theorem GsC.keep {w w' : World} {h : Nat} {so : Option Addr} {cap : Nat} {gs : List (List VT)} (H : GsC w h so cap gs) (hb : Below w.heap.size w w') : GsC w' h so cap gs := by
  refine ⟨H.fit, fun h0 => ?_⟩
  obtain ⟨b, e, hl, hc⟩ := H.row h0
  refine ⟨b, e, Nat.lt_of_lt_of_le hl hb.size, fun i hi => ?_⟩
  obtain ⟨g, h1, h2⟩ := hc i hi
  exact ⟨g, (hb.cell (p := ⟨b, i, none⟩) hl).trans h1, h2.low hb⟩

/-- Group's values -/
def grL (h : Nat) (ls ks : List VT) : List (List VT) := (gpL h ls ks).map (pick ls)

/-- the slices of the groups -/
def gv (a : Nat → Nat) (n : Nat → Nat) (k : Nat) : List Value := (List.range k).map fun i => .slice (some ⟨a i, 0, none⟩) (n i) (n i)
theorem gv_up (a n : Nat → Nat) (k : Nat) : gv a n (k + 1) = gv a n k ++ [.slice (some ⟨a k, 0, none⟩) (n k) (n k)] := by unfold gv; rw [List.range_succ, List.map_append]; rfl
theorem gv_eq {a b n : Nat → Nat} {k : Nat} (h : ∀ i, i < k → a i = b i) : gv a n k = gv b n k := by
  unfold gv
  exact List.map_congr_left fun i hi => by rw [h i (List.mem_range.1 hi)]
theorem gv_get (a n : Nat → Nat) {k i : Nat} (h : i < k) : (gv a n k)[i]? = some (.slice (some ⟨a i, 0, none⟩) (n i) (n i)) := by
  unfold gv; simp [h]

/-- what Group holds in its loop -/
structure GrS (w1 wr : World) (h : Nat) (ls : List VT) (G : List (List Nat)) (k : Nat) (v : Value) : Prop where
  below : Below w1.heap.size w1 wr
  row : ∃ a : Nat → Nat, wr.ownsRow w1.heap.size 22 1 v k (gv a (fun i => (G.getD i []).length) k) ∧ ∀ i, i < k → GrD wr v h (a i) (G.getD i []).length (pick ls (G.getD i []))

theorem GrS.fin {w1 wr : World} {h : Nat} {ls : List VT} {G : List (List Nat)} {k : Nat} {v : Value} (HS : GrS w1 wr h ls G k v) (hG : G.length = k) : ∃ so cap, v = .slice so k cap ∧ GsC wr h so cap (G.map (pick ls)) := by
  obtain ⟨us, hus⟩ : ∃ us, G.map (pick ls) = us := ⟨_, rfl⟩
  rw [hus]
  obtain ⟨a, hown, hgr⟩ := HS.row
  have hul : us.length = k := by rw [← hus, List.length_map, hG]
  rcases Nat.eq_zero_or_pos k with h0 | h0
  · obtain ⟨so, sc, e⟩ := own_shapeZ hown
    exact ⟨so, sc, e, by omega, fun h1 => by omega⟩
  · obtain ⟨m, hm⟩ : ∃ m, k = m + 1 := ⟨k - 1, by omega⟩
    subst hm
    obtain ⟨g, cap, e⟩ := own_succZ hown
    subst e
    have hcap : m + 1 ≤ cap := by
      rcases hown.2 with ⟨h1, _⟩ | ⟨g', cap', cur, h1, hcap, _⟩
      · cases h1
      · simp only [Value.slice.injEq, Option.some.injEq, Addr.mk.injEq] at h1
        omega
    refine ⟨_, cap, rfl, by omega, fun _ => ⟨g, rfl, (hown.lt g rfl).2, fun i hi => ⟨a i, ?_, ?_⟩⟩⟩
    · have hiG : i < G.length := by rw [hG]; omega
      have e : us[i].length = (G.getD i []).length := by
        have e1 : us[i] = pick ls G[i] := by simp [← hus]
        rw [e1, pick_len]; simp [List.getD, hiG]
      rw [own_cellAt hown (by omega), gv_get _ _ (by omega), e]
    · have hiG : i < G.length := by rw [hG]; omega
      have e1 : us[i] = pick ls (G.getD i []) := by simp [← hus, List.getD, hiG]
      rw [e1, pick_len]
      exact (hgr i (by omega)).toT

set_option maxRecDepth 100000 in
set_option maxHeartbeats 3200000 in
theorem w_Group (h : Nat) (io : Option Addr) (N icap : Nat) (ko : Option Addr) (K kcap : Nat) (ls ks : List VT) (w : World) (hi : IIn w h io ls) (hN : ls.length = N) (hcap : N ≤ icap) (hN2 : N ≤ 1048576) (hk : IIn w h ko ks) (hK : ks.length = K) (hkcap : K ≤ kcap) (hK2 : K ≤ 1048576) (hsz : ∀ T ∈ ls, szN h T ≤ 1048577) :
    Calls Try.prog 13 #[.slice io N icap, .slice ko K kcap] w fun e w' => ∃ so cap, e = .returned (.tuple #[.slice so (grL h ls ks).length cap, .int .i64 (gpE h ls ks)]) ∧ GsC w' h so cap (grL h ls ks) ∧ Below w.heap.size w w' := by
  obtain ⟨i0, hi0, hz0, hz1, hz2⟩ := info_parts Try.infoVs
  have HG := Hid.mk (w_grouped h io N icap ko K kcap ls ks w hi hN hcap hN2 hk hK hkcap hK2)
  have hlt := gpL_lt (h := h) (ls := ls) (ks := ks)
  have hle := gpL_len (h := h) (ls := ls) (ks := ks)
  have hne := gpL_ne (h := h) (ls := ls) (ks := ks)
  unfold grL
  rw [List.length_map]
  rw [hN] at hle hlt
  generalize gpL h ls ks = G at *
  have hgl := len_flat hne
  obtain ⟨n, hn⟩ : ∃ n, G.length = n := ⟨_, rfl⟩
  rw [hn] at HG ⊢
  rw [hn] at hgl
  have hnN : n ≤ 1048576 := by omega
  have HTw := Hid.mk (fun u (hb : Below w.heap.size w u) (k : Nat) (hk : k < G.length) ao ac (ha : NtC u ao ac G[k]) => w_twins h io N icap ls ao G[k].length ac G[k] u (hi.keep hb) hN hcap hN2 ha rfl (by
      have h1 := flat_take_le (G := G) (k + 1)
      rw [flat_take_up hk, List.length_append] at h1
      omega) (fun x hx => hlt x (List.mem_flatten.2 ⟨_, List.getElem_mem hk, hx⟩)) hsz)
  have HNN := Hid.mk hn
  generalize gpE h ls ks = er at *
  clear hi hN hk hK hne hlt hn hsz hle hgl
  obtain ⟨us, HUS⟩ : ∃ us, Hid (G.map (pick ls) = us) := ⟨_, rfl⟩
  rw [HUS.out]
  go_enter Try.func13, Try.ntmps13
  go_wp2_with fail
  refine HG.out.mono ?_
  rintro e w1 ⟨so, cap, rfl, hr1, hb1⟩
  have HB1 := Hid.mk hb1
  have HR1 := Hid.mk hr1
  clear hb1 hr1 HG
  go_wp2_with fail
  go_loopw [8, 19] (fun v i wr => ∃ k : Nat, k ≤ n ∧ i = .int .i64 (k : Int) ∧ Hid (GrS w1 wr h ls G k v)) (fun _ i _ => n - (intOf i).toNat)
  case atStart => exact ⟨0, Nat.zero_le _, rfl, Below.refl _ _, fun _ => 0, World.ownsRow_nil _ _ _ _, fun i hi => absurd hi (Nat.not_lt_zero _)⟩
  case round =>
    obtain ⟨k, hk, rfl, HS⟩ := hrel
    by_cases hltk : k < n
    · have hl1 : (k : Int) < (n : Int) := by omega
      have hl0 : (0 : Int) ≤ (k : Int) := by omega
      have hkl : k < G.length := by rw [HNN.out]; exact hltk
      obtain ⟨b, off, hso, hbl, hrow⟩ := (HR1.out.keep HS.out.below).row (by omega)
      subst hso
      obtain ⟨ao, ac, c0, hnt⟩ := hrow k hkl
      have HBw := Hid.mk (HB1.out.trans (HS.out.below.mono HB1.out.size))
      have HC := Hid.mk (HTw.out wr HBw.out k hkl ao ac hnt)
      have eG : G.getD k [] = G[k] := by simp [List.getD, hkl]
      rw [← eG] at HC c0
      obtain ⟨q, hq⟩ : ∃ q, (G.getD k []).length = q := ⟨_, rfl⟩
      rw [hq] at c0 HC
      have HQ := Hid.mk hq
      obtain ⟨a, hown, hgr⟩ := HS.out.row
      have HGR := Hid.mk hgr
      have HOW := Hid.mk hown
      obtain ⟨vo, vc, hv⟩ := own_shapeZ hown
      subst hv
      have hsz := HS.out.below.size
      have hnb : k + 1 ≤ maxLen := by unfold maxLen; omega
      clear hrow hbl hnt hq eG hkl hown hgr
      go_wp2_with fail
      refine HC.out.mono ?_
      rintro e w4 ⟨rfl, ht4, hb4⟩
      have HT4 := Hid.mk ht4
      have HB4 := Hid.mk hb4
      have hsz4 := hb4.size
      clear ht4 hb4 c0 HC
      go_wp2_with (at_builtin; go_loud (refine wpList_append_lies _ rfl _ _ 30 rfl w1.heap.size 22 i0 (.slice none 0 0) 1 24 Try.underlying30 hi0 hz0 hz1 hz2 rfl (by decide) _ _ _ rfl ((own_low HOW.out HB4.out).alloc _) ⟨w4.heap.size, 0, none⟩ 1 1 [.slice (some ⟨wr.heap.size, 0, none⟩) q q] rfl rfl (World.news_of_block (cs := #[.slice (some ⟨wr.heap.size, 0, none⟩) q q]) (t := 22) (fr := (0, 0)) (heap_alloc_new w4 _)) (by simp [Value.oneCell']) (by omega) hnb (by omega) (by simp; omega) (w4.heap.size + 1) (by simp) ?_; intro g3 cap3 w5 hown5 hgrow5 hat5 hlt5))
      have HN : Hid (GrS w1 w5 h ls G (k + 1) (.slice (some ⟨g3, 0, none⟩) (k + 1) cap3)) := by
        have hv : ∀ go, (Value.slice (some ⟨g3, 0, none⟩) (k + 1) cap3).ownBlock = some go → (Value.slice vo k vc).ownBlock = some go ∨ w4.heap.size ≤ go := fun go e => by
          have e' : g3 = go := by simpa [Value.ownBlock] using e
          subst e'
          rcases hat5 with h1 | h1
          · exact .inl h1
          · exact .inr (by omega)
        have hgs := hgrow5.size
        simp at hgs
        have hb5 : Below w1.heap.size w1 w5 := ((HS.out.below.trans (HB4.out.mono hsz)).alloc (by omega) _).grown hgrow5 (by simp; omega) (own_baseZ HOW.out)
        refine ⟨hb5, fun i => if i < k then a i else wr.heap.size, ?_, fun i hi => ?_⟩
        · rw [gv_up, gv_eq (b := a) (fun i hi => if_pos hi), if_neg (Nat.lt_irrefl _)]
          show World.ownsRow _ _ _ _ _ _ (_ ++ [Value.slice _ (G.getD k []).length (G.getD k []).length])
          rw [HQ.out]
          exact hown5
        · by_cases hik : i < k
          · show GrD _ _ _ (if i < k then a i else wr.heap.size) _ _
            rw [if_pos hik]
            exact GrD.move (HGR.out i hik) HB4.out _ hgrow5 hv
          · obtain rfl : i = k := by omega
            show GrD _ _ _ (if i < i then a i else wr.heap.size) _ _
            rw [if_neg hik, HQ.out]
            refine ⟨w4, by have h6 := HT4.out; have e := HQ.out; simpa [List.getD] using h6, by omega, fun b hb1 hb2 => ?_, fun go e => ?_⟩
            · rw [hgrow5.block b (by simp; omega) (fun e => by
                have := (own_baseZ HOW.out) b e.symm
                have h7 := ownZ_lt HOW.out e.symm
                omega), Below.heap_alloc _ _ b hb2]
            · rcases hv go e with h5 | h5
              · exact .inl (ownZ_lt HOW.out h5)
              · exact .inr h5
      clear hown5 hgrow5 hat5 hlt5
      go_wp2_with fail
      go_roundw
      case rel => exact ⟨k + 1, by omega, by go_num, HN⟩
      case measure => simp [intOf]; omega
    · have hl1 : ¬ (k : Int) < (n : Int) := by omega
      obtain rfl : k = n := by omega
      have HF := Hid.mk (HS.out.fin HNN.out)
      rw [HUS.out] at HF
      obtain ⟨so2, cap2, hv, hgs⟩ := HF.out
      subst hv
      have HGS := Hid.mk hgs
      have HBw := Hid.mk (HB1.out.trans (HS.out.below.mono HB1.out.size))
      clear hgs HF
      go_wp2_with fail
      go_ret2
      exact ⟨so2, cap2, rfl, HGS.out, HBw.out⟩
end Go.Proofs.Ytmknelkgfnklfaa
