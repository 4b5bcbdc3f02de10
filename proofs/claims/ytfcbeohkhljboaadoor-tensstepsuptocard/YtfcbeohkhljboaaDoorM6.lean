import Derived.Test.YtfcbeohkhljboaaDoorM5
import Derived.Deep.RegionLaw
import Derived.BigRegion
namespace Go.Proofs.YtfcbeohkhljboaaDoor
open Go.RowKit
set_option linter.unusedVariables false
set_option linter.unusedSimpArgs false

theorem Tryd.info3 : (Tryd.prog.info? 3).map (fun i => (i.zero, i.size, i.bytes)) = some (some (.int .i64 0), 1, 8) := by kernel_rfl

/-- while a text is read: what lies in the variable's block, and in the row that grows -/
structure ReadSt (w wr : World) (bl : Bool) (v : Value) (xs : List Nat) : Prop where
  form : ∃ ao cap, v = .slice ao xs.length cap
  own : wr.ownsRow (w.heap.size + 2) 3 1 v xs.length (vals .i64 xs)
  c1 : wr.cell? ⟨w.heap.size + 1, 1, none⟩ = some v
  f1 : wr.frozen? ⟨w.heap.size + 1, 1, none⟩ = false
  c0 : wr.cell? ⟨w.heap.size + 1, 0, none⟩ = some (.bool bl)
  r0 : wr.cell? ⟨w.heap.size, 0, none⟩ = some (.bool false)
  r1 : wr.cell? ⟨w.heap.size, 1, none⟩ = some (.slice none 0 0)
  fr0 : wr.frozen? ⟨w.heap.size, 0, none⟩ = false
  fr1 : wr.frozen? ⟨w.heap.size, 1, none⟩ = false
  sz : w.heap.size + 2 ≤ wr.heap.size
  bw : Below w.heap.size w wr

theorem ReadSt.start (w : World) (bl : Bool) : ReadSt w ((w.alloc (.cells #[.bool false, .slice none 0 0] 48)).alloc (.cells #[.bool bl, .slice none 0 0] 48)) bl (.slice none 0 0) [] where
  form := ⟨none, 0, rfl⟩
  own := World.ownsRow_nil _ _ _ _
  c1 := by simp
  f1 := by simp
  c0 := by simp
  r0 := by simp [World.cell?_alloc_past]
  r1 := by simp [World.cell?_alloc_past]
  fr0 := by simp [World.frozen?_alloc_past]
  fr1 := by simp [World.frozen?_alloc_past]
  sz := by simp
  bw := ((Below.refl _ _).alloc (Nat.le_refl _) _).alloc (by simp) _

theorem ReadSt.step {w wr w1 : World} {bl : Bool} {v : Value} {xs : List Nat} (h : ReadSt w wr bl v xs) (hb : Below (w.heap.size + 2) wr w1) {g cap x : Nat} {y : Int} (hy : y = (x : Int))
    (hown : w1.ownsRow (w.heap.size + 2) 3 1 (.slice (some ⟨g, 0, none⟩) (xs.length + 1) cap) (xs.length + 1) (vals .i64 xs ++ [.int .i64 y])) :
    ReadSt w (w1.setCell ⟨w.heap.size + 1, 1, none⟩ (.slice (some ⟨g, 0, none⟩) (xs.length + 1) cap)) bl (.slice (some ⟨g, 0, none⟩) (xs.length + 1) cap) (xs ++ [x]) where
  form := ⟨some ⟨g, 0, none⟩, cap, by simp⟩
  own := by
    subst hy
    have e : vals .i64 (xs ++ [x]) = vals .i64 xs ++ [.int .i64 (x : Int)] := by rw [vals_append]; rfl
    rw [e, List.length_append]
    exact ownsRow_setCell_below hown (by simp) _
  c1 := World.cell?_setCell_same _ _ _ (below_cells hb (by omega) h.c1)
  f1 := by rw [World.frozen?_setCell]; exact below_frees hb (by omega) h.f1
  c0 := by rw [World.cell?_setCell_other _ _ _ _ (by simp)]; exact below_cells hb (by omega) h.c0
  r0 := by rw [World.cell?_setCell_other _ _ _ _ (by simp)]; exact below_cells hb (by omega) h.r0
  r1 := by rw [World.cell?_setCell_other _ _ _ _ (by simp)]; exact below_cells hb (by omega) h.r1
  fr0 := by rw [World.frozen?_setCell]; exact below_frees hb (by omega) h.fr0
  fr1 := by rw [World.frozen?_setCell]; exact below_frees hb (by omega) h.fr1
  sz := by simp; have := hb.size; have := h.sz; omega
  bw := (h.bw.trans (hb.mono (by omega))).setCell (by simp) _

theorem ReadSt.drew {w wr : World} {bl : Bool} {v : Value} {xs : List Nat} (h : ReadSt w wr bl v xs) : ReadSt w wr.drew bl v xs :=
  ⟨h.form, h.own.drew, h.c1, h.f1, h.c0, h.r0, h.r1, h.fr0, h.fr1, h.sz, h.bw.drew⟩

theorem own_keep {w w' : World} {base : Nat} {e : TypeId} {size : Nat} {v : Value} {n : Nat} {xs : List Value} (h : w.ownsRow base e size v n xs) (hb : Below w.heap.size w w') : w'.ownsRow base e size v n xs := by
  obtain ⟨h1, h2⟩ := h
  refine ⟨h1, ?_⟩
  rcases h2 with h2 | ⟨g, cap, cur, hv, hg, hh, r⟩
  · exact Or.inl h2
  · exact Or.inr ⟨g, cap, cur, hv, hg, by rw [hb.block g (Array.getElem?_eq_some_iff.1 hh).1]; exact hh, r⟩

/-- behind the last store, into the result's block -/
theorem ReadSt.fin {w wr w2 : World} {bl : Bool} {v : Value} {xs : List Nat} (h : ReadSt w wr bl v xs) (hb : Below wr.heap.size wr w2) (a b : Value) :
    Nums .i64 ((w2.setCell ⟨w.heap.size, 0, none⟩ a).setCell ⟨w.heap.size, 1, none⟩ b) (resl v (Pl.trimN xs).length) (Pl.trimN xs) ∧ Below w.heap.size w ((w2.setCell ⟨w.heap.size, 0, none⟩ a).setCell ⟨w.heap.size, 1, none⟩ b) :=
  ⟨(own_nums (ownsRow_setCell_below (ownsRow_setCell_below (own_keep h.own hb) (by simp) _) (by simp) _)).trim,
   ((h.bw.trans (hb.mono (by have := h.sz; omega))).setCell (by simp) _).setCell (by simp) _⟩

set_option maxRecDepth 100000 in
set_option maxHeartbeats 3200000 in
theorem w_read_f (s : ByteArray) (w : World) (hs : s.size * 8 ≤ 140737488355328) (f : Nat) (hf1 : f ≤ 1) (hf : f = if Pl.neg s.data.toList then 1 else 0) (hp : f < s.size) (hd : Hid (∀ j (h : j < s.size), f ≤ j → Pl.isDig s[j] = true)) (bl : Bool) (hbl : bl = decide (f = 1)) :
    Calls Tryd.prog 38 #[.string s] w fun e w' => ∃ v, e = .returned (.agg #[.bool (bl && decide (0 < (Pl.trimN (Pl.digs (s.data.toList.drop f))).length)), v]) ∧ Nums .i64 w' v (Pl.trimN (Pl.digs (s.data.toList.drop f))) ∧ Below w.heap.size w w' := by
  obtain ⟨i0, hi0, hz0, hz1, hz2⟩ := info_parts Tryd.info3
  have hp0 : 0 < s.size := by omega
  have hb : (((s[0].toNat : Nat) : Int) == 45) = bl := by
    rw [hbl, hf, Pl.neg_of s hp0]
    by_cases e : s[0].toNat = 45
    · simp [e]
    · simp [e]; omega
  clear hf
  rcases (show f = 0 ∨ f = 1 by omega) with hf0 | hf0
  · subst hf0
    subst hbl
    replace hb : (((s[0].toNat : Nat) : Int) == 45) = false := hb
    go_enter Tryd.func38, Tryd.ntmps38
    go_wp2
    go_loopw [5] (fun i wr => ∃ (k : Nat) (v : Value), 0 ≤ k ∧ k ≤ s.size ∧ i = .int .i64 ((k : Int) - 1) ∧ ReadSt w wr false v (Pl.digs (s.data.toList.drop k))) (fun i _ => (intOf i + 1).toNat)
    case atStart =>
      refine ⟨s.size, .slice none 0 0, by omega, Nat.le_refl _, rfl, ?_⟩
      rw [Pl.digs_end]
      exact ReadSt.start w false
    case round =>
      obtain ⟨k, v, hk1, hk, rfl, hst⟩ := hrel
      by_cases hlt : 0 < k
      · obtain ⟨m, rfl⟩ : ∃ m, k = m + 1 := ⟨k - 1, by omega⟩
        rw [show ((m + 1 : Nat) : Int) - 1 = (m : Int) by omega]
        have hm0 : (0 : Int) ≤ (m : Int) := by omega
        have hm1 : (m : Int) < (s.size : Int) := by omega
        have hdm := hd.out m (by omega) (by omega)
        rw [Pl.isDig_iff] at hdm
        obtain ⟨hd1, hd2⟩ := hdm
        have ew : Hid (IntKind.i64.wrap (IntKind.u8.wrap ((s[m].toNat : Int) - 48)) = ((s[m].toNat - 48 : Nat) : Int)) := by show _ = _; rw [IntKind.wrap_u8, IntKind.wrap_i64]; omega
        have HD : Hid (Pl.digs (s.data.toList.drop m) = Pl.digs (s.data.toList.drop (m + 1)) ++ [s[m].toNat - 48]) := Pl.digs_step s m (by omega)
        have HLn : Hid ((Pl.digs (s.data.toList.drop (m + 1))).length = s.size - (m + 1)) := Pl.digs_len s (m + 1)
        generalize Pl.digs (s.data.toList.drop (m + 1)) = xs at *
        have HST := Hid.mk hst
        obtain ⟨ao, cap, rfl⟩ := hst.form
        have hown := hst.own
        have hc1 := hst.c1
        have hf1 := hst.f1
        have hsz := hst.sz
        clear hst
        have hnb : xs.length + 1 ≤ maxLen := by unfold maxLen; have := HLn.out; omega
        have hca : ∀ o, (wr.alloc o).cell? ⟨w.heap.size + 1, 1, none⟩ = some (.slice ao xs.length cap) := fun o => below_cells ((Below.refl (w.heap.size + 2) wr).alloc hsz o) (by omega) hc1
        go_wp2
        go_region_law
          ((refine step_append_lies _ (by rfl) _ _ _ (by rfl) (w.heap.size + 2) 3 i0 (.int .i64 0) 1 8 Tryd.underlying46 hi0 hz0 hz1 hz2 rfl (by omega) (.slice ao xs.length cap) xs.length _ (by rfl) ((hown.alloc _).drew) ⟨wr.heap.size, 0, none⟩ 1 1 [.int .i64 (IntKind.i64.wrap (IntKind.u8.wrap ((s[m].toNat : Int) - 48)))] (by rfl) (by rfl) (World.news_of_block (cs := #[.int .i64 (IntKind.i64.wrap (IntKind.u8.wrap ((s[m].toNat : Int) - 48)))]) (t := 3) (fr := (0, 0)) (heap_alloc_new wr _)) (by simp [Value.oneCell']) (by omega) hnb (by have := HLn.out; omega) (by simp; omega) (wr.heap.size + 1) (by simp) ?_; intro g cap' w1 hown1 hgrow hat hlt1; have hb1 := after_append (after_one hsz _) (by simp; omega) hown hgrow; have c1 := below_cells hb1 (by omega) hc1; have f1 := below_frees hb1 (by omega) hf1))
        all_goals go_wp2
        all_goals go_roundw
        all_goals first | (case rel => exact ⟨m, _, by omega, by omega, rfl, by rw [HD.out]; exact ReadSt.step HST.out hb1 ew.out hown1⟩) | skip
        all_goals simp [intOf]
      · obtain rfl : k = 0 := by omega
        rw [show ((0 : Nat) : Int) - 1 = -1 from rfl]
        have HST := Hid.mk hst
        obtain ⟨ao, cap, rfl⟩ := hst.form
        have hc0 := hst.c0
        have hc1 := hst.c1
        clear hst
        have hlen : (Pl.digs (s.data.toList.drop 0)).length ≤ maxLen := by rw [Pl.digs_len]; unfold maxLen; omega
        generalize hxs : Pl.digs (s.data.toList.drop 0) = xs at *
        have HXS := Hid.mk hxs
        clear hxs
        go_wp2_with fail
        refine (w_trim false _ xs _ (own_nums HST.out.own) hlen).mono ?_
        rintro e w2 ⟨rfl, hb2⟩
        have g0 := below_cells hb2 (by have := HST.out.sz; omega) HST.out.r0
        have g1 := below_cells hb2 (by have := HST.out.sz; omega) HST.out.r1
        have q0 := below_frees hb2 (by have := HST.out.sz; omega) HST.out.fr0
        have q1 := below_frees hb2 (by have := HST.out.sz; omega) HST.out.fr1
        have hfin := HST.out.fin hb2
        simp only [resl] at hfin ⊢
        have HF := Hid.mk hfin
        clear hfin
        go_wp2_with fail
        refine bodyPost_ret (v := .agg #[.bool false, .slice ao (Pl.trimN xs).length cap]) (by simp [results, Tryd.results38, go_sem, g0, g1]) rfl ?_
        exact ⟨_, by rw [HXS.out]; rfl, by rw [HXS.out]; exact (HF.out _ _).1, (HF.out _ _).2⟩
  · subst hf0
    subst hbl
    replace hb : (((s[0].toNat : Nat) : Int) == 45) = true := hb
    go_enter Tryd.func38, Tryd.ntmps38
    go_wp2
    go_loopw [5] (fun i wr => ∃ (k : Nat) (v : Value), 1 ≤ k ∧ k ≤ s.size ∧ i = .int .i64 ((k : Int) - 1) ∧ ReadSt w wr true v (Pl.digs (s.data.toList.drop k))) (fun i _ => (intOf i + 1).toNat)
    case atStart =>
      refine ⟨s.size, .slice none 0 0, by omega, Nat.le_refl _, rfl, ?_⟩
      rw [Pl.digs_end]
      exact ReadSt.start w true
    case round =>
      obtain ⟨k, v, hk1, hk, rfl, hst⟩ := hrel
      by_cases hlt : 1 < k
      · obtain ⟨m, rfl⟩ : ∃ m, k = m + 1 := ⟨k - 1, by omega⟩
        rw [show ((m + 1 : Nat) : Int) - 1 = (m : Int) by omega]
        have hm0 : (0 : Int) ≤ (m : Int) := by omega
        have hm1 : (m : Int) < (s.size : Int) := by omega
        have hdm := hd.out m (by omega) (by omega)
        rw [Pl.isDig_iff] at hdm
        obtain ⟨hd1, hd2⟩ := hdm
        have ew : Hid (IntKind.i64.wrap (IntKind.u8.wrap ((s[m].toNat : Int) - 48)) = ((s[m].toNat - 48 : Nat) : Int)) := by show _ = _; rw [IntKind.wrap_u8, IntKind.wrap_i64]; omega
        have HD : Hid (Pl.digs (s.data.toList.drop m) = Pl.digs (s.data.toList.drop (m + 1)) ++ [s[m].toNat - 48]) := Pl.digs_step s m (by omega)
        have HLn : Hid ((Pl.digs (s.data.toList.drop (m + 1))).length = s.size - (m + 1)) := Pl.digs_len s (m + 1)
        generalize Pl.digs (s.data.toList.drop (m + 1)) = xs at *
        have HST := Hid.mk hst
        obtain ⟨ao, cap, rfl⟩ := hst.form
        have hown := hst.own
        have hc1 := hst.c1
        have hf1 := hst.f1
        have hsz := hst.sz
        clear hst
        have hnb : xs.length + 1 ≤ maxLen := by unfold maxLen; have := HLn.out; omega
        have hca : ∀ o, (wr.alloc o).cell? ⟨w.heap.size + 1, 1, none⟩ = some (.slice ao xs.length cap) := fun o => below_cells ((Below.refl (w.heap.size + 2) wr).alloc hsz o) (by omega) hc1
        go_wp2
        go_region_law
          ((refine step_append_lies _ (by rfl) _ _ _ (by rfl) (w.heap.size + 2) 3 i0 (.int .i64 0) 1 8 Tryd.underlying46 hi0 hz0 hz1 hz2 rfl (by omega) (.slice ao xs.length cap) xs.length _ (by rfl) ((hown.alloc _).drew) ⟨wr.heap.size, 0, none⟩ 1 1 [.int .i64 (IntKind.i64.wrap (IntKind.u8.wrap ((s[m].toNat : Int) - 48)))] (by rfl) (by rfl) (World.news_of_block (cs := #[.int .i64 (IntKind.i64.wrap (IntKind.u8.wrap ((s[m].toNat : Int) - 48)))]) (t := 3) (fr := (0, 0)) (heap_alloc_new wr _)) (by simp [Value.oneCell']) (by omega) hnb (by have := HLn.out; omega) (by simp; omega) (wr.heap.size + 1) (by simp) ?_; intro g cap' w1 hown1 hgrow hat hlt1; have hb1 := after_append (after_one hsz _) (by simp; omega) hown hgrow; have c1 := below_cells hb1 (by omega) hc1; have f1 := below_frees hb1 (by omega) hf1))
        all_goals go_wp2
        all_goals go_roundw
        all_goals first | (case rel => exact ⟨m, _, by omega, by omega, rfl, by rw [HD.out]; exact ReadSt.step HST.out hb1 ew.out hown1⟩) | skip
        all_goals simp [intOf]
      · obtain rfl : k = 1 := by omega
        rw [show ((1 : Nat) : Int) - 1 = 0 from rfl]
        have HST := Hid.mk hst
        obtain ⟨ao, cap, rfl⟩ := hst.form
        have hc0 := hst.c0
        have hc1 := hst.c1
        clear hst
        have hlen : (Pl.digs (s.data.toList.drop 1)).length ≤ maxLen := by rw [Pl.digs_len]; unfold maxLen; omega
        generalize hxs : Pl.digs (s.data.toList.drop 1) = xs at *
        have HXS := Hid.mk hxs
        clear hxs
        go_wp2_with fail
        refine (w_trim true _ xs _ (own_nums HST.out.own) hlen).mono ?_
        rintro e w2 ⟨rfl, hb2⟩
        have g0 := below_cells hb2 (by have := HST.out.sz; omega) HST.out.r0
        have g1 := below_cells hb2 (by have := HST.out.sz; omega) HST.out.r1
        have q0 := below_frees hb2 (by have := HST.out.sz; omega) HST.out.fr0
        have q1 := below_frees hb2 (by have := HST.out.sz; omega) HST.out.fr1
        have hfin := HST.out.fin hb2
        simp only [resl] at hfin ⊢
        have HF := Hid.mk hfin
        clear hfin
        go_wp2_with fail
        refine bodyPost_ret (v := .agg #[.bool (decide (0 < (Pl.trimN xs).length)), .slice ao (Pl.trimN xs).length cap]) (by simp [results, Tryd.results38, go_sem, g0, g1]) rfl ?_
        exact ⟨_, by rw [HXS.out]; rfl, by rw [HXS.out]; exact (HF.out _ _).1, (HF.out _ _).2⟩
end Go.Proofs.YtfcbeohkhljboaaDoor
