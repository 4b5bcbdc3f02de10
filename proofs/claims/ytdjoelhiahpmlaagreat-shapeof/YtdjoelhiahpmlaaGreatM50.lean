import Derived.Test.YtdjoelhiahpmlaaGreatM48
import Derived.Deep.RegionHeld3
import Derived.Maps.AppendAt
import Derived.Deep.AppendLies
import Derived.Test.YtdjoelhiahpmlaaGreatM49
import Derived.Deep.Cut
namespace Go.Proofs.YtdjoelhiahpmlaaGreat
open Go.RowKit Go.Shelf Go.Sort Go.Maps Go.WideMaps
set_option linter.unusedVariables false
set_option linter.unusedSimpArgs false
attribute [local go_sem] Oper.semAt_some

theorem FrO.mono {L L' : Nat} {W : World} {h : Nat} {o : OB} {v : Value} (f : FrO L W h o v) (hl : L' ≤ L) : FrO L' W h o v := by
  obtain ⟨ko, kc, fo, fc, mo, mc, c0, c1, c2, c3, c4, c5, c6, c7, c8, e, hI⟩ := f
  exact ⟨ko, kc, fo, fc, mo, mc, c0, c1, c2, c3, c4, c5, c6, c7, c8, e, fun x hs hx => hI x hs (fun b h1 h2 => hx b (Nat.le_trans hl h1) h2)⟩
theorem FrO.set {L : Nat} {W W' : World} {h : Nat} {o : OB} {v : Value} (f : FrO L W h o v) (hs : W'.heap.size = W.heap.size) (hb : ∀ b, L ≤ b → W'.heap[b]? = W.heap[b]?) : FrO L W' h o v := by
  obtain ⟨ko, kc, fo, fc, mo, mc, c0, c1, c2, c3, c4, c5, c6, c7, c8, e, hI⟩ := f
  exact ⟨ko, kc, fo, fc, mo, mc, c0, c1, c2, c3, c4, c5, c6, c7, c8, e, fun x h1 hx => hI x (by omega) (fun b h2 h3 => (hx b h2 (by omega)).trans (hb b h2))⟩
theorem Tryz.infoStrN : (Tryz.prog.info? 9).map (fun i => (i.zero, i.size, i.bytes)) = some (some (.string ⟨#[]⟩), 1, 16) := by kernel_rfl
theorem Tryz.infoTyN : (Tryz.prog.info? 32).map (fun i => (i.zero, i.size, i.bytes)) = some (some (.agg #[.bool false, .bool false, .bool false, .bool false, .slice none 0 0, .bool false, .slice none 0 0, .slice none 0 0, .slice none 0 0]), 9, 112) := by kernel_rfl
theorem Tryz.infoBoN : (Tryz.prog.info? 4).map (fun i => (i.zero, i.size, i.bytes)) = some (some (.bool false), 1, 1) := by kernel_rfl

set_option maxRecDepth 100000 in
set_option maxHeartbeats 12800000 in
theorem fields_few (h : Nat) (ih : NrC h) (hv : Nat) (its : List VT) (ks : List ByteArray) (nm tx : ByteArray) (io : Option Addr) (icap : Nat) (ko : Option Addr) (NK kcap : Nat) (H : Int) (w : World) (hi : IIn w hv io its) (hk : KIn w ko ks) (hN : its.length = NK) (hK : ks.length = NK) (hcap : NK ≤ icap) (kcap' : NK ≤ kcap) (h12 : NK ≤ 12) (hf : ∀ x ∈ its, formN hv x = true) (hs : ∀ k ∈ ks, k.size ≤ 140737488355328) (hw1 : IntKind.wrap .i64 (H - 1) = (h : Int)) :
    Calls Tryz.prog 58 #[.agg #[.int .i64 6, .string nm, .string tx, .slice io NK icap, .slice ko NK kcap], .int .i64 H] w fun e w' => (∃ v, e = .returned v ∧ Hid (FrO w.heap.size w' (h + 2) (.mk ks (its.map (nrN h)) (ks.map fun _ => true) ttNe) v)) ∧ Below w.heap.size w w' := by
  obtain ⟨j0, hj0, hy0, hy1, hy2⟩ := info_parts Tryz.infoStrN
  obtain ⟨i0, hi0, hz0, hz1, hz2⟩ := info_parts Tryz.infoTyN
  obtain ⟨l0, hl0, hx0, hx1, hx2⟩ := info_parts Tryz.infoBoN
  have HI := Hid.mk hi
  have HKI := Hid.mk hk
  have HNN := Hid.mk hN
  have HKK := Hid.mk hK
  have HFm := Hid.mk hf
  have HSz := Hid.mk hs
  have HIh := Hid.mk ih
  clear hi hk hN hK hf hs ih
  have hx12 : ¬ (12 : Int) < (NK : Int) := by omega
  obtain ⟨W0, hW0⟩ : ∃ W0, ((w.alloc (.cells #[.int .i64 6, .string nm, .string tx, .slice io NK icap, .slice ko NK kcap] 25)).alloc (.cells #[.slice none 0 0, .slice none 0 0, .slice none 0 0, .bool false, .bool false, .bool false, .bool false, .slice none 0 0, .bool false, .slice none 0 0, .slice none 0 0, .slice none 0 0] 63)).alloc (.cells #[.slice none 0 0, .slice none 0 0, .slice none 0 0, .bool false, .bool false, .bool false, .bool false, .slice none 0 0, .bool false, .slice none 0 0, .slice none 0 0, .slice none 0 0] 63) = W0 := ⟨_, rfl⟩
  have hs0 : W0.heap.size = w.heap.size + 3 := by rw [← hW0]; simp
  have hb0 : Below w.heap.size w W0 := by rw [← hW0]; exact (((Below.refl _ w).alloc (Nat.le_refl _) _).alloc (by simp) _).alloc (by simp; omega) _
  have hbx0 : W0.heap[w.heap.size]? = some (.cells #[.int .i64 6, .string nm, .string tx, .slice io NK icap, .slice ko NK kcap] 25 (0, 0)) := by
    rw [← hW0]
    exact (Below.heap_alloc _ _ _ (by simp; omega)).trans ((Below.heap_alloc _ _ _ (by simp)).trans (World.alloc_heap_new w _))
  have hrs0 : W0.heap[w.heap.size + 1]? = some (.cells #[.slice none 0 0, .slice none 0 0, .slice none 0 0, .bool false, .bool false, .bool false, .bool false, .slice none 0 0, .bool false, .slice none 0 0, .slice none 0 0, .slice none 0 0] 63 (0, 0)) := by
    rw [← hW0]
    have e := World.alloc_heap_new (w.alloc (.cells #[.int .i64 6, .string nm, .string tx, .slice io NK icap, .slice ko NK kcap] 25)) (.cells #[.slice none 0 0, .slice none 0 0, .slice none 0 0, .bool false, .bool false, .bool false, .bool false, .slice none 0 0, .bool false, .slice none 0 0, .slice none 0 0, .slice none 0 0] 63)
    rw [World.size_alloc] at e
    exact (Below.heap_alloc _ _ _ (by simp)).trans e
  have hot0 : W0.heap[w.heap.size + 2]? = some (.cells #[.slice none 0 0, .slice none 0 0, .slice none 0 0, .bool false, .bool false, .bool false, .bool false, .slice none 0 0, .bool false, .slice none 0 0, .slice none 0 0, .slice none 0 0] 63 (0, 0)) := by
    rw [← hW0]
    have e := World.alloc_heap_new ((w.alloc (.cells #[.int .i64 6, .string nm, .string tx, .slice io NK icap, .slice ko NK kcap] 25)).alloc (.cells #[.slice none 0 0, .slice none 0 0, .slice none 0 0, .bool false, .bool false, .bool false, .bool false, .slice none 0 0, .bool false, .slice none 0 0, .slice none 0 0, .slice none 0 0] 63)) (.cells #[.slice none 0 0, .slice none 0 0, .slice none 0 0, .bool false, .bool false, .bool false, .bool false, .slice none 0 0, .bool false, .slice none 0 0, .slice none 0 0, .slice none 0 0] 63)
    rw [World.size_alloc, World.size_alloc] at e
    exact e
  have HG0 : Hid (FdI w W0 h #[.int .i64 6, .string nm, .string tx, .slice io NK icap, .slice ko NK kcap] (ks.map .string) (its.map (nrN h)) 0 0 0 (.slice none 0 0) (.slice none 0 0) (.slice none 0 0) [] W0) := ⟨hb0, hs0, Nat.le_refl _, hbx0, hrs0, hot0, World.ownsRow_nil _ _ _ _, World.ownsRow_nil _ _ _ _, World.ownsRow_nil _ _ _ _, rfl, fun j hj _ => absurd hj (Nat.not_lt_zero _)⟩
  have HS0 := Hid.mk hs0
  have HWq := Hid.mk hW0
  have a0c := cell_of_row _ _ 3 _ _ _ hbx0
  clear hs0 hb0 hbx0 hrs0 hot0 hW0 a0c
  go_enter Tryz.func58, Tryz.ntmps58
  go_wp2_with fail
  try rw [HWq.out]
  clear HWq
  go_loopw [20] (fun i wr => ∃ k : Nat, k ≤ NK ∧ i = .int .i64 (k : Int) ∧ Hid (∃ no nc fo fc mo mc fs, FdI w W0 h #[.int .i64 6, .string nm, .string tx, .slice io NK icap, .slice ko NK kcap] (ks.map .string) (its.map (nrN h)) k k k (.slice no k nc) (.slice fo k fc) (.slice mo k mc) fs wr)) (fun i _ => NK - (intOf i).toNat)
  case atStart => exact ⟨0, Nat.zero_le _, rfl, ⟨none, 0, none, 0, none, 0, [], HG0.out⟩⟩
  case round =>
    clear HG0
    obtain ⟨k, hk, rfl, HQ⟩ := hrel
    obtain ⟨no, nc, fo, fc, mo, mc, fs, hG⟩ := HQ.out
    have HG := Hid.mk hG
    clear HQ
    have hlew : W0.heap.size ≤ wr.heap.size := hG.le
    by_cases hlt : k < NK
    · have hl1 : (k : Int) < (NK : Int) := by omega
      have hkl : k < ks.length := by rw [HKK.out]; exact hlt
      have hil : k < its.length := by rw [HNN.out]; exact hlt
      obtain ⟨kb, koff, hko, hkbl, hkr⟩ := (HKI.out.keep hG.below).row (by omega)
      subst hko
      obtain ⟨ib, ioff, hio, hibl, hir⟩ := (HI.out.keep hG.below).row (by omega)
      subst hio
      have ck := hkr k hkl
      obtain ⟨Y, hY⟩ : ∃ Y, ks.getD k .empty = Y := ⟨_, rfl⟩
      have hYk : (ks.map Value.string)[k]? = some (.string Y) := by rw [← hY, List.getD_eq_getElem?_getD, List.getElem?_map, List.getElem?_eq_getElem hkl]; rfl
      rw [hY] at ck
      have b0 : wr.cell? ⟨w.heap.size + 1 + 1, 0, none⟩ = some (.slice no k nc) := cell_of_row _ _ 0 _ _ _ hG.out
      have bk : wr.cell? ⟨w.heap.size, 4, none⟩ = _ := cell_of_row _ _ 4 _ _ _ hG.box
      have hGn := hG.nms
      have HYk := Hid.mk hYk
      clear hkr hY hYk hG hir
      go_wp2_with (at_builtin; refine wpList_append_own_at _ (by rfl) _ _ 23 (by rfl) W0.heap.size 9 j0 (.string ⟨#[]⟩) 1 16 Tryz.underlying23 hj0 hy0 hy1 hy2 rfl (by decide) _ _ _ (by rfl) (hGn.alloc _) ⟨wr.heap.size, 0, none⟩ 1 1 [.string Y] (by rfl) (by rfl) (World.news_of_block (cs := #[.string Y]) (fr := (0, 0)) (heap_alloc_new wr _)) (by simp [Value.oneCell']) (by unfold maxLen; omega) (by omega) (by simp; omega) ?_)
      intro v' w4 hown4 hgrow4 hnil4 hat4
      obtain ⟨g1, nc1, rfl⟩ := own_succF hown4
      obtain ⟨hG5, ho4⟩ := FdI.up1 HYk.out HG.out hgrow4 hown4 (by simpa using hat4)
      have b44 : w4.cell? ⟨w.heap.size + 1 + 1, 0, none⟩ = some (.slice no k nc) := cell_of_row _ _ 0 _ _ _ ho4
      have f44 : w4.frozen? ⟨w.heap.size + 1 + 1, 0, none⟩ = false := frozen_row9 (j := 0) ho4
      obtain ⟨W5, hW5⟩ : ∃ W5, w4.setCell ⟨w.heap.size + 1 + 1, 0, none⟩ (.slice (some ⟨g1, 0, none⟩) (k + 1) nc1) = W5 := ⟨_, rfl⟩
      have HG5 : Hid (FdI w W0 h #[.int .i64 6, .string nm, .string tx, .slice (some ⟨ib, ioff, none⟩) NK icap, .slice (some ⟨kb, koff, none⟩) NK kcap] (ks.map .string) (its.map (nrN h)) (k + 1) k k (.slice (some ⟨g1, 0, none⟩) (k + 1) nc1) (.slice fo k fc) (.slice mo k mc) fs W5) := by show FdI _ _ _ _ _ _ _ _ _ _ _ _ _ _; rw [← hW5]; exact hG5
      have HWq := Hid.mk hW5
      clear hG5 ho4 hown4 hgrow4 hnil4 hat4 b0 bk ck hW5 HG HYk hGn
      go_wp2_with fail
      try rw [HWq.out]
      clear HWq b44 f44
      obtain ⟨ib2, ioff2, hio2, hibl2, hir⟩ := HI.out.row (by omega)
      simp only [Option.some.injEq, Addr.mk.injEq, and_true] at hio2
      obtain ⟨rfl, rfl⟩ := hio2
      obtain ⟨v0, v1, v2, v3, v4, ⟨c0, c1, c2, c3, c4⟩, ht⟩ := hir k hil
      obtain ⟨ik, inm, itx, iio, iN, iicap, iko, iK, ikcap, rfl, rfl, rfl, rfl, rfl⟩ := ht.shape
      have HSS : Hid (∀ u, Below w.heap.size w u → u.heap[w.heap.size]? = some (.cells #[.int .i64 6, .string nm, .string tx, .slice (some ⟨ib, ioff, none⟩) NK icap, .slice (some ⟨kb, koff, none⟩) NK kcap] 25 (0, 0)) → u.cell? ⟨w.heap.size, 3, none⟩ = some (.slice (some ⟨ib, ioff, none⟩) NK icap) ∧ u.cell? ⟨ib, ioff + k * 5, none⟩ = some (.int .i64 ik) ∧ u.cell? ⟨ib, ioff + k * 5 + 1, none⟩ = some (.string inm) ∧ u.cell? ⟨ib, ioff + k * 5 + 2, none⟩ = some (.string itx) ∧ u.cell? ⟨ib, ioff + k * 5 + 3, none⟩ = some (.slice iio iN iicap) ∧ u.cell? ⟨ib, ioff + k * 5 + 4, none⟩ = some (.slice iko iK ikcap)) := fun u hu hb => ⟨cell_of_row _ _ 3 _ _ _ hb, (hu.cell (p := ⟨_, _, _⟩) hibl2).trans c0, (hu.cell (p := ⟨_, _, _⟩) hibl2).trans c1, (hu.cell (p := ⟨_, _, _⟩) hibl2).trans c2, (hu.cell (p := ⟨_, _, _⟩) hibl2).trans c3, (hu.cell (p := ⟨_, _, _⟩) hibl2).trans c4⟩
      have HN5 := Hid.mk (fun u (hu : Below w.heap.size w u) => HIh.out hv its[k] _ u (ht.keep hu) (HFm.out its[k] (List.getElem_mem _)))
      have HTk : Hid ((its.map (nrN h))[k]? = some (nrN h its[k])) := by show _ = _; rw [List.getElem?_map, List.getElem?_eq_getElem hil]; rfl
      clear hir ht c0 c1 c2 c3 c4 hibl2
      have HD := Hid.mk ((Below.refl W5.heap.size W5).drew)
      have HGd := Hid.mk (HG5.out.keep HD.out)
      refine wp_region_held_drew (S := fun u => u.cell? ⟨w.heap.size, 3, none⟩ = some (.slice (some ⟨ib, ioff, none⟩) NK icap) ∧ u.cell? ⟨ib, ioff + k * 5, none⟩ = some (.int .i64 ik) ∧ u.cell? ⟨ib, ioff + k * 5 + 1, none⟩ = some (.string inm) ∧ u.cell? ⟨ib, ioff + k * 5 + 2, none⟩ = some (.string itx) ∧ u.cell? ⟨ib, ioff + k * 5 + 3, none⟩ = some (.slice iio iN iicap) ∧ u.cell? ⟨ib, ioff + k * 5 + 4, none⟩ = some (.slice iko iK ikcap)) (by kernel_rfl) (HSS.out _ HGd.out.below HGd.out.box) (fun hHeld => ?_)
      refine wpAnyH_take (i := 0) (oi := _) (v := .pointer (some ⟨w.heap.size + 1 + 1, 1, none⟩)) rfl (by kernel_rfl) (by kernel_rfl) (by kernel_rfl) (fun _ _ _ h => h) (Or.inl ⟨by rfl, ?_⟩) (by assumption) ?_
      · intro w hSw
        go_simp
      try simp only [Act.put, List.getElem_toArray, List.getElem_cons_succ, List.getElem_cons_zero, List.setIfInBounds_toArray, List.set_cons_zero, List.set_cons_succ]
      refine wpAnyH_take (i := 2) (oi := _) (v := .pointer (some ⟨w.heap.size, 3, none⟩)) rfl (by kernel_rfl) (by kernel_rfl) (by kernel_rfl) (fun _ _ _ h => h) (Or.inl ⟨by rfl, ?_⟩) (by assumption) ?_
      · intro w hSw
        go_simp
      try simp only [Act.put, List.getElem_toArray, List.getElem_cons_succ, List.getElem_cons_zero, List.setIfInBounds_toArray, List.set_cons_zero, List.set_cons_succ]
      refine wpAnyH_take (i := 3) (oi := _) (v := .slice (some ⟨ib, ioff, none⟩) NK icap) rfl (by kernel_rfl) (by kernel_rfl) (by kernel_rfl) (fun _ _ _ h => h) (Or.inl ⟨by rfl, ?_⟩) (by assumption) ?_
      · intro w hSw
        go_simp
      try simp only [Act.put, List.getElem_toArray, List.getElem_cons_succ, List.getElem_cons_zero, List.setIfInBounds_toArray, List.set_cons_zero, List.set_cons_succ]
      refine wpAnyH_take (i := 4) (oi := _) (v := .int .i64 (k : Int)) rfl (by kernel_rfl) (by kernel_rfl) (by kernel_rfl) (fun _ _ _ h => h) (Or.inl ⟨by rfl, ?_⟩) (by assumption) ?_
      · intro w hSw
        go_simp
      try simp only [Act.put, List.getElem_toArray, List.getElem_cons_succ, List.getElem_cons_zero, List.setIfInBounds_toArray, List.set_cons_zero, List.set_cons_succ]
      refine wpAnyH_take (i := 5) (oi := _) (v := .pointer (some ⟨ib, ioff + k * 5, none⟩)) rfl (by kernel_rfl) (by kernel_rfl) (by kernel_rfl) (fun _ _ _ h => h) (Or.inl ⟨by rfl, ?_⟩) (by assumption) ?_
      · intro w hSw
        go_simp
      try simp only [Act.put, List.getElem_toArray, List.getElem_cons_succ, List.getElem_cons_zero, List.setIfInBounds_toArray, List.set_cons_zero, List.set_cons_succ]
      refine wpAnyH_take (i := 6) (oi := _) (v := .agg #[.int .i64 ik, .string inm, .string itx, .slice iio iN iicap, .slice iko iK ikcap]) rfl (by kernel_rfl) (by kernel_rfl) (by kernel_rfl) (fun _ _ _ h => h) (Or.inl ⟨by rfl, ?_⟩) (by assumption) ?_
      · intro w hSw
        go_simp
      try simp only [Act.put, List.getElem_toArray, List.getElem_cons_succ, List.getElem_cons_zero, List.setIfInBounds_toArray, List.set_cons_zero, List.set_cons_succ]
      refine wpAnyH_take (i := 7) (oi := _) (v := .int .i64 H) rfl (by kernel_rfl) (by kernel_rfl) (by kernel_rfl) (fun _ _ _ h => h) (Or.inl ⟨by rfl, ?_⟩) (by assumption) ?_
      · intro w hSw
        go_simp
      try simp only [Act.put, List.getElem_toArray, List.getElem_cons_succ, List.getElem_cons_zero, List.setIfInBounds_toArray, List.set_cons_zero, List.set_cons_succ]
      refine wpAnyH_take (i := 8) (oi := _) (v := .int .i64 (h : Int)) rfl (by kernel_rfl) (by kernel_rfl) (by kernel_rfl) (fun _ _ _ h => h) (Or.inl ⟨by rfl, ?_⟩) (by assumption) ?_
      · intro w hSw
        go_simp
      try simp only [Act.put, List.getElem_toArray, List.getElem_cons_succ, List.getElem_cons_zero, List.setIfInBounds_toArray, List.set_cons_zero, List.set_cons_succ]
      refine wpAnyH_ready (rs := [1, 9]) (by kernel_rfl) (by simp) ?_
      have HO1 : Hid (∀ u : World, u.heap[w.heap.size + 2]? = some (.cells #[.slice (some ⟨g1, 0, none⟩) (k + 1) nc1, .slice fo k fc, .slice mo k mc, .bool false, .bool false, .bool false, .bool false, .slice none 0 0, .bool false, .slice none 0 0, .slice none 0 0, .slice none 0 0] 63 (0, 0)) → u.cell? ⟨w.heap.size + 1 + 1, 1, none⟩ = some (.slice fo k fc)) := fun u hb => cell_of_row _ _ 1 _ _ _ hb
      refine AllReadyH.cons (o := _) rfl (fun K hK => ?_) ?_
      · have e1 := HO1.out _ HGd.out.out
        go_simp
        clear e1
        refine hK.out _ _ (HSS.out _ HGd.out.below HGd.out.box) (fun hHeld => ?_)
        clear hK K
        try simp only [Act.put, List.getElem_toArray, List.getElem_cons_succ, List.getElem_cons_zero, List.setIfInBounds_toArray, List.set_cons_zero, List.set_cons_succ]
        refine wpAnyH_ready (rs := [9]) (by kernel_rfl) (by simp) ?_
        refine AllReadyH.cons (o := _) rfl (fun K hK => ?_) AllReadyH.nil
        go_simp
        go_at_call 16
        refine (HN5.out _ HGd.out.below).mono ?_
        rintro e w6 ⟨⟨v6, rfl, hF6⟩, hq⟩
        have HG6 := Hid.mk (HGd.out.keep hq)
        have HF6 := Hid.mk ((hF6.out.mono HD.out.size).int)
        have hF2 := hF6.out.here
        obtain ⟨ta, tb, tc, td, ⟨teo, ten, tec⟩, tf, ⟨tgo, tgn, tgc⟩, ⟨tio, tinn, tic⟩, ⟨tjo, tjn, tjc⟩, esht⟩ := inT_shape hF2
        simp only [Value.agg.injEq, Array.mk.injEq, List.cons.injEq, and_true] at esht
        obtain ⟨rfl, rfl, rfl, rfl, rfl, rfl, rfl, rfl, rfl⟩ := esht
        clear hF2 hF6 hq
        go_wp2_with fail
        refine hK.out _ _ (HSS.out _ HG6.out.below HG6.out.box) (fun hHeld => ?_)
        clear hK K
        try simp only [Act.put, List.getElem_toArray, List.getElem_cons_succ, List.getElem_cons_zero, List.setIfInBounds_toArray, List.set_cons_zero, List.set_cons_succ]
        refine wpAnyH_ready (rs := [10]) (by kernel_rfl) (by simp) ?_
        refine AllReadyH.cons (o := _) rfl (fun K hK => ?_) AllReadyH.nil
        have HG7 := Hid.mk (HG6.out.keep (below1 w6 (.cells #[.bool ta, .bool tb, .bool tc, .bool td, .slice teo ten tec, .bool tf, .slice tgo tgn tgc, .slice tio tinn tic, .slice tjo tjn tjc] 32)))
        go_simp
        refine hK.out _ _ (HSS.out _ HG7.out.below HG7.out.box) (fun hHeld => ?_)
        clear hK K
        try simp only [Act.put, List.getElem_toArray, List.getElem_cons_succ, List.getElem_cons_zero, List.setIfInBounds_toArray, List.set_cons_zero, List.set_cons_succ]
        refine wpAnyH_ready (rs := [11]) (by kernel_rfl) (by simp) ?_
        refine AllReadyH.cons (o := _) rfl (fun K hK => ?_) AllReadyH.nil
        refine step_append_lies _ (by rfl) _ _ _ (by rfl) W0.heap.size 32 i0 (.agg #[.bool false, .bool false, .bool false, .bool false, .slice none 0 0, .bool false, .slice none 0 0, .slice none 0 0, .slice none 0 0]) 9 112 Tryz.underlying60 hi0 hz0 hz1 hz2 rfl (by omega) (.slice fo k fc) k _ (by rfl) (HG6.out.fds.alloc _) ⟨w6.heap.size, 0, none⟩ 1 1 [.bool ta, .bool tb, .bool tc, .bool td, .slice teo ten tec, .bool tf, .slice tgo tgn tgc, .slice tio tinn tic, .slice tjo tjn tjc] (by rfl) (by rfl) (World.news_of_block (cs := #[.bool ta, .bool tb, .bool tc, .bool td, .slice teo ten tec, .bool tf, .slice tgo tgn tgc, .slice tio tinn tic, .slice tjo tjn tjc]) (t := 32) (fr := (0, 0)) (heap_alloc_new w6 _)) (by simp [Value.oneCell']) (by omega) (by unfold maxLen; omega) (by omega) (by have := HG6.out.le; simp; omega) (w6.heap.size + 1) (by simp) ?_
        intro g2 fc2 w7 hown7 hgrow7 hat7 hlt7
        obtain ⟨hG8, ho7⟩ := FdI.up2 HTk.out HG5.out.le HF6.out (fun g e => .inl (by obtain ⟨_, q, _⟩ := own_cellsF HG5.out.nms e; exact lt_of_row q)) (fun g e => .inl (by obtain ⟨_, q, _⟩ := own_cellsF HG5.out.fds e; exact lt_of_row q)) (fun g e => .inl (by obtain ⟨_, q, _⟩ := own_cellsF HG5.out.mst e; exact lt_of_row q)) HG6.out hgrow7 hown7 (hat7.imp (fun e => e.symm) (fun e => by simp [Value.ownBlock, e]))
        have hb7 : Below w.heap.size w w7 := (HG6.out.below.alloc HG6.out.below.size _).grown hgrow7 (by have := HG6.out.below.size; simp; omega) (fun r e => by obtain ⟨_, _, h2⟩ := own_cellsF HG6.out.fds e; have := HG6.out.lo; omega)
        have bx7 : w7.heap[w.heap.size]? = some (.cells #[.int .i64 6, .string nm, .string tx, .slice (some ⟨ib, ioff, none⟩) NK icap, .slice (some ⟨kb, koff, none⟩) NK kcap] 25 (0, 0)) := (Below.heap_setCell _ _ _ _ (by show w.heap.size ≠ w.heap.size + 2; omega)).symm.trans hG8.box
        have b77 : w7.cell? ⟨w.heap.size + 1 + 1, 1, none⟩ = some (.slice fo k fc) := cell_of_row _ _ 1 _ _ _ ho7
        have f77 : w7.frozen? ⟨w.heap.size + 1 + 1, 1, none⟩ = false := frozen_row9 (j := 1) ho7
        obtain ⟨W8, hW8⟩ : ∃ W8, w7.setCell ⟨w.heap.size + 1 + 1, 1, none⟩ (.slice (some ⟨g2, 0, none⟩) (k + 1) fc2) = W8 := ⟨_, rfl⟩
        have HG8 : Hid (FdI w W0 h #[.int .i64 6, .string nm, .string tx, .slice (some ⟨ib, ioff, none⟩) NK icap, .slice (some ⟨kb, koff, none⟩) NK kcap] (ks.map .string) (its.map (nrN h)) (k + 1) (k + 1) k (.slice (some ⟨g1, 0, none⟩) (k + 1) nc1) (.slice (some ⟨g2, 0, none⟩) (k + 1) fc2) (.slice mo k mc) (fs ++ [[.bool ta, .bool tb, .bool tc, .bool td, .slice teo ten tec, .bool tf, .slice tgo tgn tgc, .slice tio tinn tic, .slice tjo tjn tjc]]) W8) := by show FdI _ _ _ _ _ _ _ _ _ _ _ _ _ _; rw [← hW8]; exact hG8
        have HWq := Hid.mk hW8
        refine hK.out _ _ (HSS.out _ hb7 bx7) (fun hHeld => ?_)
        clear hK K hG8 ho7 hown7 hgrow7 hat7 hlt7 hW8 hb7 bx7
        try simp only [Act.put, List.getElem_toArray, List.getElem_cons_succ, List.getElem_cons_zero, List.setIfInBounds_toArray, List.set_cons_zero, List.set_cons_succ]
        refine wpAnyH_take (i := 12) (oi := _) (v := .pointer (some ⟨w.heap.size + 1 + 1, 1, none⟩)) rfl (by kernel_rfl) (by kernel_rfl) (by kernel_rfl) (fun _ _ _ h => h) (Or.inl ⟨by rfl, ?_⟩) (by assumption) ?_
        · intro w hSw
          go_simp
        try simp only [Act.put, List.getElem_toArray, List.getElem_cons_succ, List.getElem_cons_zero, List.setIfInBounds_toArray, List.set_cons_zero, List.set_cons_succ]
        refine wpAnyH_ready (rs := [13]) (by kernel_rfl) (by simp) ?_
        refine AllReadyH.cons (o := _) rfl (fun K hK => ?_) AllReadyH.nil
        go_simp
        try rw [HWq.out]
        clear HWq b77 f77
        refine hK.out _ _ (HSS.out _ HG8.out.below HG8.out.box) (fun hHeld => ?_)
        clear hK K
        try simp only [Act.put, List.getElem_toArray, List.getElem_cons_succ, List.getElem_cons_zero, List.setIfInBounds_toArray, List.set_cons_zero, List.set_cons_succ]
        refine wpAnyH_done (by kernel_rfl) ?_ _
        try simp only [Act.put, List.getElem_toArray, List.getElem_cons_succ, List.getElem_cons_zero, List.setIfInBounds_toArray, List.set_cons_zero, List.set_cons_succ]
        clear hHeld HSS HN5 HTk HG5 HD HGd HG6 HF6
        have hG8 := HG8.out
        have b2 : W8.cell? ⟨w.heap.size + 1 + 1, 2, none⟩ = some (.slice mo k mc) := cell_of_row _ _ 2 _ _ _ hG8.out
        have hGm := hG8.mst
        have hle8 : W0.heap.size ≤ W8.heap.size := hG8.le
        clear hG8
        go_wp2_with (at_builtin; refine wpList_append_own_at _ (by rfl) _ _ 61 (by rfl) W0.heap.size 4 l0 (.bool false) 1 1 Tryz.underlying61 hl0 hx0 hx1 hx2 rfl (by decide) _ _ _ (by rfl) (hGm.alloc _) ⟨W8.heap.size, 0, none⟩ 1 1 [.bool true] (by rfl) (by rfl) (World.news_of_block (cs := #[.bool true]) (fr := (0, 0)) (heap_alloc_new W8 _)) (by simp [Value.oneCell']) (by unfold maxLen; omega) (by omega) (by simp; omega) ?_)
        intro v' w9 hown9 hgrow9 hnil9 hat9
        obtain ⟨g3, mc3, rfl⟩ := own_succF hown9
        obtain ⟨hGa, ho9⟩ := FdI.up3 HG8.out hgrow9 hown9 (by simpa using hat9)
        have b99 : w9.cell? ⟨w.heap.size + 1 + 1, 2, none⟩ = some (.slice mo k mc) := cell_of_row _ _ 2 _ _ _ ho9
        have f99 : w9.frozen? ⟨w.heap.size + 1 + 1, 2, none⟩ = false := frozen_row9 (j := 2) ho9
        have HGa := Hid.mk hGa
        clear hGa ho9 hown9 hgrow9 hnil9 hat9 b2 hGm HG8
        go_wp2_with fail
        go_roundw
        case rel => exact ⟨k + 1, hlt, by go_num, ⟨_, _, _, _, _, _, _, HGa.out⟩⟩
        case measure => simp [intOf]; omega
      refine AllReadyH.cons (o := _) rfl (fun K hK => ?_) AllReadyH.nil
      go_simp
      go_at_call 16
      refine (HN5.out _ HGd.out.below).mono ?_
      rintro e w6 ⟨⟨v6, rfl, hF6⟩, hq⟩
      have HG6 := Hid.mk (HGd.out.keep hq)
      have HF6 := Hid.mk ((hF6.out.mono HD.out.size).int)
      have hF2 := hF6.out.here
      obtain ⟨ta, tb, tc, td, ⟨teo, ten, tec⟩, tf, ⟨tgo, tgn, tgc⟩, ⟨tio, tinn, tic⟩, ⟨tjo, tjn, tjc⟩, esht⟩ := inT_shape hF2
      simp only [Value.agg.injEq, Array.mk.injEq, List.cons.injEq, and_true] at esht
      obtain ⟨rfl, rfl, rfl, rfl, rfl, rfl, rfl, rfl, rfl⟩ := esht
      clear hF2 hF6 hq
      go_wp2_with fail
      refine hK.out _ _ (HSS.out _ HG6.out.below HG6.out.box) (fun hHeld => ?_)
      clear hK K
      try simp only [Act.put, List.getElem_toArray, List.getElem_cons_succ, List.getElem_cons_zero, List.setIfInBounds_toArray, List.set_cons_zero, List.set_cons_succ]
      refine wpAnyH_ready (rs := [1, 10]) (by kernel_rfl) (by simp) ?_
      refine AllReadyH.cons (o := _) rfl (fun K hK => ?_) ?_
      · have e1 := HO1.out _ HG6.out.out
        go_simp
        clear e1
        refine hK.out _ _ (HSS.out _ HG6.out.below HG6.out.box) (fun hHeld => ?_)
        clear hK K
        try simp only [Act.put, List.getElem_toArray, List.getElem_cons_succ, List.getElem_cons_zero, List.setIfInBounds_toArray, List.set_cons_zero, List.set_cons_succ]
        refine wpAnyH_ready (rs := [10]) (by kernel_rfl) (by simp) ?_
        refine AllReadyH.cons (o := _) rfl (fun K hK => ?_) AllReadyH.nil
        have HG7 := Hid.mk (HG6.out.keep (below1 w6 (.cells #[.bool ta, .bool tb, .bool tc, .bool td, .slice teo ten tec, .bool tf, .slice tgo tgn tgc, .slice tio tinn tic, .slice tjo tjn tjc] 32)))
        go_simp
        refine hK.out _ _ (HSS.out _ HG7.out.below HG7.out.box) (fun hHeld => ?_)
        clear hK K
        try simp only [Act.put, List.getElem_toArray, List.getElem_cons_succ, List.getElem_cons_zero, List.setIfInBounds_toArray, List.set_cons_zero, List.set_cons_succ]
        refine wpAnyH_ready (rs := [11]) (by kernel_rfl) (by simp) ?_
        refine AllReadyH.cons (o := _) rfl (fun K hK => ?_) AllReadyH.nil
        refine step_append_lies _ (by rfl) _ _ _ (by rfl) W0.heap.size 32 i0 (.agg #[.bool false, .bool false, .bool false, .bool false, .slice none 0 0, .bool false, .slice none 0 0, .slice none 0 0, .slice none 0 0]) 9 112 Tryz.underlying60 hi0 hz0 hz1 hz2 rfl (by omega) (.slice fo k fc) k _ (by rfl) (HG6.out.fds.alloc _) ⟨w6.heap.size, 0, none⟩ 1 1 [.bool ta, .bool tb, .bool tc, .bool td, .slice teo ten tec, .bool tf, .slice tgo tgn tgc, .slice tio tinn tic, .slice tjo tjn tjc] (by rfl) (by rfl) (World.news_of_block (cs := #[.bool ta, .bool tb, .bool tc, .bool td, .slice teo ten tec, .bool tf, .slice tgo tgn tgc, .slice tio tinn tic, .slice tjo tjn tjc]) (t := 32) (fr := (0, 0)) (heap_alloc_new w6 _)) (by simp [Value.oneCell']) (by omega) (by unfold maxLen; omega) (by omega) (by have := HG6.out.le; simp; omega) (w6.heap.size + 1) (by simp) ?_
        intro g2 fc2 w7 hown7 hgrow7 hat7 hlt7
        obtain ⟨hG8, ho7⟩ := FdI.up2 HTk.out HG5.out.le HF6.out (fun g e => .inl (by obtain ⟨_, q, _⟩ := own_cellsF HG5.out.nms e; exact lt_of_row q)) (fun g e => .inl (by obtain ⟨_, q, _⟩ := own_cellsF HG5.out.fds e; exact lt_of_row q)) (fun g e => .inl (by obtain ⟨_, q, _⟩ := own_cellsF HG5.out.mst e; exact lt_of_row q)) HG6.out hgrow7 hown7 (hat7.imp (fun e => e.symm) (fun e => by simp [Value.ownBlock, e]))
        have hb7 : Below w.heap.size w w7 := (HG6.out.below.alloc HG6.out.below.size _).grown hgrow7 (by have := HG6.out.below.size; simp; omega) (fun r e => by obtain ⟨_, _, h2⟩ := own_cellsF HG6.out.fds e; have := HG6.out.lo; omega)
        have bx7 : w7.heap[w.heap.size]? = some (.cells #[.int .i64 6, .string nm, .string tx, .slice (some ⟨ib, ioff, none⟩) NK icap, .slice (some ⟨kb, koff, none⟩) NK kcap] 25 (0, 0)) := (Below.heap_setCell _ _ _ _ (by show w.heap.size ≠ w.heap.size + 2; omega)).symm.trans hG8.box
        have b77 : w7.cell? ⟨w.heap.size + 1 + 1, 1, none⟩ = some (.slice fo k fc) := cell_of_row _ _ 1 _ _ _ ho7
        have f77 : w7.frozen? ⟨w.heap.size + 1 + 1, 1, none⟩ = false := frozen_row9 (j := 1) ho7
        obtain ⟨W8, hW8⟩ : ∃ W8, w7.setCell ⟨w.heap.size + 1 + 1, 1, none⟩ (.slice (some ⟨g2, 0, none⟩) (k + 1) fc2) = W8 := ⟨_, rfl⟩
        have HG8 : Hid (FdI w W0 h #[.int .i64 6, .string nm, .string tx, .slice (some ⟨ib, ioff, none⟩) NK icap, .slice (some ⟨kb, koff, none⟩) NK kcap] (ks.map .string) (its.map (nrN h)) (k + 1) (k + 1) k (.slice (some ⟨g1, 0, none⟩) (k + 1) nc1) (.slice (some ⟨g2, 0, none⟩) (k + 1) fc2) (.slice mo k mc) (fs ++ [[.bool ta, .bool tb, .bool tc, .bool td, .slice teo ten tec, .bool tf, .slice tgo tgn tgc, .slice tio tinn tic, .slice tjo tjn tjc]]) W8) := by show FdI _ _ _ _ _ _ _ _ _ _ _ _ _ _; rw [← hW8]; exact hG8
        have HWq := Hid.mk hW8
        refine hK.out _ _ (HSS.out _ hb7 bx7) (fun hHeld => ?_)
        clear hK K hG8 ho7 hown7 hgrow7 hat7 hlt7 hW8 hb7 bx7
        try simp only [Act.put, List.getElem_toArray, List.getElem_cons_succ, List.getElem_cons_zero, List.setIfInBounds_toArray, List.set_cons_zero, List.set_cons_succ]
        refine wpAnyH_take (i := 12) (oi := _) (v := .pointer (some ⟨w.heap.size + 1 + 1, 1, none⟩)) rfl (by kernel_rfl) (by kernel_rfl) (by kernel_rfl) (fun _ _ _ h => h) (Or.inl ⟨by rfl, ?_⟩) (by assumption) ?_
        · intro w hSw
          go_simp
        try simp only [Act.put, List.getElem_toArray, List.getElem_cons_succ, List.getElem_cons_zero, List.setIfInBounds_toArray, List.set_cons_zero, List.set_cons_succ]
        refine wpAnyH_ready (rs := [13]) (by kernel_rfl) (by simp) ?_
        refine AllReadyH.cons (o := _) rfl (fun K hK => ?_) AllReadyH.nil
        go_simp
        try rw [HWq.out]
        clear HWq b77 f77
        refine hK.out _ _ (HSS.out _ HG8.out.below HG8.out.box) (fun hHeld => ?_)
        clear hK K
        try simp only [Act.put, List.getElem_toArray, List.getElem_cons_succ, List.getElem_cons_zero, List.setIfInBounds_toArray, List.set_cons_zero, List.set_cons_succ]
        refine wpAnyH_done (by kernel_rfl) ?_ _
        try simp only [Act.put, List.getElem_toArray, List.getElem_cons_succ, List.getElem_cons_zero, List.setIfInBounds_toArray, List.set_cons_zero, List.set_cons_succ]
        clear hHeld HSS HN5 HTk HG5 HD HGd HG6 HF6
        have hG8 := HG8.out
        have b2 : W8.cell? ⟨w.heap.size + 1 + 1, 2, none⟩ = some (.slice mo k mc) := cell_of_row _ _ 2 _ _ _ hG8.out
        have hGm := hG8.mst
        have hle8 : W0.heap.size ≤ W8.heap.size := hG8.le
        clear hG8
        go_wp2_with (at_builtin; refine wpList_append_own_at _ (by rfl) _ _ 61 (by rfl) W0.heap.size 4 l0 (.bool false) 1 1 Tryz.underlying61 hl0 hx0 hx1 hx2 rfl (by decide) _ _ _ (by rfl) (hGm.alloc _) ⟨W8.heap.size, 0, none⟩ 1 1 [.bool true] (by rfl) (by rfl) (World.news_of_block (cs := #[.bool true]) (fr := (0, 0)) (heap_alloc_new W8 _)) (by simp [Value.oneCell']) (by unfold maxLen; omega) (by omega) (by simp; omega) ?_)
        intro v' w9 hown9 hgrow9 hnil9 hat9
        obtain ⟨g3, mc3, rfl⟩ := own_succF hown9
        obtain ⟨hGa, ho9⟩ := FdI.up3 HG8.out hgrow9 hown9 (by simpa using hat9)
        have b99 : w9.cell? ⟨w.heap.size + 1 + 1, 2, none⟩ = some (.slice mo k mc) := cell_of_row _ _ 2 _ _ _ ho9
        have f99 : w9.frozen? ⟨w.heap.size + 1 + 1, 2, none⟩ = false := frozen_row9 (j := 2) ho9
        have HGa := Hid.mk hGa
        clear hGa ho9 hown9 hgrow9 hnil9 hat9 b2 hGm HG8
        go_wp2_with fail
        go_roundw
        case rel => exact ⟨k + 1, hlt, by go_num, ⟨_, _, _, _, _, _, _, HGa.out⟩⟩
        case measure => simp [intOf]; omega
      refine AllReadyH.cons (o := _) rfl (fun K hK => ?_) AllReadyH.nil
      have HG7 := Hid.mk (HG6.out.keep (below1 w6 (.cells #[.bool ta, .bool tb, .bool tc, .bool td, .slice teo ten tec, .bool tf, .slice tgo tgn tgc, .slice tio tinn tic, .slice tjo tjn tjc] 32)))
      go_simp
      refine hK.out _ _ (HSS.out _ HG7.out.below HG7.out.box) (fun hHeld => ?_)
      clear hK K
      try simp only [Act.put, List.getElem_toArray, List.getElem_cons_succ, List.getElem_cons_zero, List.setIfInBounds_toArray, List.set_cons_zero, List.set_cons_succ]
      refine wpAnyH_ready (rs := [1]) (by kernel_rfl) (by simp) ?_
      refine AllReadyH.cons (o := _) rfl (fun K hK => ?_) AllReadyH.nil
      have e1 := HO1.out _ HG7.out.out
      go_simp
      clear e1
      refine hK.out _ _ (HSS.out _ HG7.out.below HG7.out.box) (fun hHeld => ?_)
      clear hK K
      try simp only [Act.put, List.getElem_toArray, List.getElem_cons_succ, List.getElem_cons_zero, List.setIfInBounds_toArray, List.set_cons_zero, List.set_cons_succ]
      refine wpAnyH_ready (rs := [11]) (by kernel_rfl) (by simp) ?_
      refine AllReadyH.cons (o := _) rfl (fun K hK => ?_) AllReadyH.nil
      refine step_append_lies _ (by rfl) _ _ _ (by rfl) W0.heap.size 32 i0 (.agg #[.bool false, .bool false, .bool false, .bool false, .slice none 0 0, .bool false, .slice none 0 0, .slice none 0 0, .slice none 0 0]) 9 112 Tryz.underlying60 hi0 hz0 hz1 hz2 rfl (by omega) (.slice fo k fc) k _ (by rfl) (HG6.out.fds.alloc _) ⟨w6.heap.size, 0, none⟩ 1 1 [.bool ta, .bool tb, .bool tc, .bool td, .slice teo ten tec, .bool tf, .slice tgo tgn tgc, .slice tio tinn tic, .slice tjo tjn tjc] (by rfl) (by rfl) (World.news_of_block (cs := #[.bool ta, .bool tb, .bool tc, .bool td, .slice teo ten tec, .bool tf, .slice tgo tgn tgc, .slice tio tinn tic, .slice tjo tjn tjc]) (t := 32) (fr := (0, 0)) (heap_alloc_new w6 _)) (by simp [Value.oneCell']) (by omega) (by unfold maxLen; omega) (by omega) (by have := HG6.out.le; simp; omega) (w6.heap.size + 1) (by simp) ?_
      intro g2 fc2 w7 hown7 hgrow7 hat7 hlt7
      obtain ⟨hG8, ho7⟩ := FdI.up2 HTk.out HG5.out.le HF6.out (fun g e => .inl (by obtain ⟨_, q, _⟩ := own_cellsF HG5.out.nms e; exact lt_of_row q)) (fun g e => .inl (by obtain ⟨_, q, _⟩ := own_cellsF HG5.out.fds e; exact lt_of_row q)) (fun g e => .inl (by obtain ⟨_, q, _⟩ := own_cellsF HG5.out.mst e; exact lt_of_row q)) HG6.out hgrow7 hown7 (hat7.imp (fun e => e.symm) (fun e => by simp [Value.ownBlock, e]))
      have hb7 : Below w.heap.size w w7 := (HG6.out.below.alloc HG6.out.below.size _).grown hgrow7 (by have := HG6.out.below.size; simp; omega) (fun r e => by obtain ⟨_, _, h2⟩ := own_cellsF HG6.out.fds e; have := HG6.out.lo; omega)
      have bx7 : w7.heap[w.heap.size]? = some (.cells #[.int .i64 6, .string nm, .string tx, .slice (some ⟨ib, ioff, none⟩) NK icap, .slice (some ⟨kb, koff, none⟩) NK kcap] 25 (0, 0)) := (Below.heap_setCell _ _ _ _ (by show w.heap.size ≠ w.heap.size + 2; omega)).symm.trans hG8.box
      have b77 : w7.cell? ⟨w.heap.size + 1 + 1, 1, none⟩ = some (.slice fo k fc) := cell_of_row _ _ 1 _ _ _ ho7
      have f77 : w7.frozen? ⟨w.heap.size + 1 + 1, 1, none⟩ = false := frozen_row9 (j := 1) ho7
      obtain ⟨W8, hW8⟩ : ∃ W8, w7.setCell ⟨w.heap.size + 1 + 1, 1, none⟩ (.slice (some ⟨g2, 0, none⟩) (k + 1) fc2) = W8 := ⟨_, rfl⟩
      have HG8 : Hid (FdI w W0 h #[.int .i64 6, .string nm, .string tx, .slice (some ⟨ib, ioff, none⟩) NK icap, .slice (some ⟨kb, koff, none⟩) NK kcap] (ks.map .string) (its.map (nrN h)) (k + 1) (k + 1) k (.slice (some ⟨g1, 0, none⟩) (k + 1) nc1) (.slice (some ⟨g2, 0, none⟩) (k + 1) fc2) (.slice mo k mc) (fs ++ [[.bool ta, .bool tb, .bool tc, .bool td, .slice teo ten tec, .bool tf, .slice tgo tgn tgc, .slice tio tinn tic, .slice tjo tjn tjc]]) W8) := by show FdI _ _ _ _ _ _ _ _ _ _ _ _ _ _; rw [← hW8]; exact hG8
      have HWq := Hid.mk hW8
      refine hK.out _ _ (HSS.out _ hb7 bx7) (fun hHeld => ?_)
      clear hK K hG8 ho7 hown7 hgrow7 hat7 hlt7 hW8 hb7 bx7
      try simp only [Act.put, List.getElem_toArray, List.getElem_cons_succ, List.getElem_cons_zero, List.setIfInBounds_toArray, List.set_cons_zero, List.set_cons_succ]
      refine wpAnyH_take (i := 12) (oi := _) (v := .pointer (some ⟨w.heap.size + 1 + 1, 1, none⟩)) rfl (by kernel_rfl) (by kernel_rfl) (by kernel_rfl) (fun _ _ _ h => h) (Or.inl ⟨by rfl, ?_⟩) (by assumption) ?_
      · intro w hSw
        go_simp
      try simp only [Act.put, List.getElem_toArray, List.getElem_cons_succ, List.getElem_cons_zero, List.setIfInBounds_toArray, List.set_cons_zero, List.set_cons_succ]
      refine wpAnyH_ready (rs := [13]) (by kernel_rfl) (by simp) ?_
      refine AllReadyH.cons (o := _) rfl (fun K hK => ?_) AllReadyH.nil
      go_simp
      try rw [HWq.out]
      clear HWq b77 f77
      refine hK.out _ _ (HSS.out _ HG8.out.below HG8.out.box) (fun hHeld => ?_)
      clear hK K
      try simp only [Act.put, List.getElem_toArray, List.getElem_cons_succ, List.getElem_cons_zero, List.setIfInBounds_toArray, List.set_cons_zero, List.set_cons_succ]
      refine wpAnyH_done (by kernel_rfl) ?_ _
      try simp only [Act.put, List.getElem_toArray, List.getElem_cons_succ, List.getElem_cons_zero, List.setIfInBounds_toArray, List.set_cons_zero, List.set_cons_succ]
      clear hHeld HSS HN5 HTk HG5 HD HGd HG6 HF6
      have hG8 := HG8.out
      have b2 : W8.cell? ⟨w.heap.size + 1 + 1, 2, none⟩ = some (.slice mo k mc) := cell_of_row _ _ 2 _ _ _ hG8.out
      have hGm := hG8.mst
      have hle8 : W0.heap.size ≤ W8.heap.size := hG8.le
      clear hG8
      go_wp2_with (at_builtin; refine wpList_append_own_at _ (by rfl) _ _ 61 (by rfl) W0.heap.size 4 l0 (.bool false) 1 1 Tryz.underlying61 hl0 hx0 hx1 hx2 rfl (by decide) _ _ _ (by rfl) (hGm.alloc _) ⟨W8.heap.size, 0, none⟩ 1 1 [.bool true] (by rfl) (by rfl) (World.news_of_block (cs := #[.bool true]) (fr := (0, 0)) (heap_alloc_new W8 _)) (by simp [Value.oneCell']) (by unfold maxLen; omega) (by omega) (by simp; omega) ?_)
      intro v' w9 hown9 hgrow9 hnil9 hat9
      obtain ⟨g3, mc3, rfl⟩ := own_succF hown9
      obtain ⟨hGa, ho9⟩ := FdI.up3 HG8.out hgrow9 hown9 (by simpa using hat9)
      have b99 : w9.cell? ⟨w.heap.size + 1 + 1, 2, none⟩ = some (.slice mo k mc) := cell_of_row _ _ 2 _ _ _ ho9
      have f99 : w9.frozen? ⟨w.heap.size + 1 + 1, 2, none⟩ = false := frozen_row9 (j := 2) ho9
      have HGa := Hid.mk hGa
      clear hGa ho9 hown9 hgrow9 hnil9 hat9 b2 hGm HG8
      go_wp2_with fail
      go_roundw
      case rel => exact ⟨k + 1, hlt, by go_num, ⟨_, _, _, _, _, _, _, HGa.out⟩⟩
      case measure => simp [intOf]; omega
    · obtain rfl : k = NK := by omega
      have hl1 : ¬ (k : Int) < (k : Int) := by omega
      have HE := Hid.mk (fd_end HG.out HKK.out (by rw [List.length_map, HNN.out]) (by omega) HSz.out)
      have HR9 := Hid.mk hG.res
      have HB9 := Hid.mk hG.below
      have hou := hG.out
      have z0 : wr.cell? ⟨w.heap.size + 1 + 1, 0, none⟩ = _ := cell_of_row _ _ 0 _ _ _ hou
      have z1 : wr.cell? ⟨w.heap.size + 1 + 1, 1, none⟩ = _ := cell_of_row _ _ 1 _ _ _ hou
      have z2 : wr.cell? ⟨w.heap.size + 1 + 1, 2, none⟩ = _ := cell_of_row _ _ 2 _ _ _ hou
      have z3 : wr.cell? ⟨w.heap.size + 1 + 1, 3, none⟩ = _ := cell_of_row _ _ 3 _ _ _ hou
      have z4 : wr.cell? ⟨w.heap.size + 1 + 1, 4, none⟩ = _ := cell_of_row _ _ 4 _ _ _ hou
      have z5 : wr.cell? ⟨w.heap.size + 1 + 1, 5, none⟩ = _ := cell_of_row _ _ 5 _ _ _ hou
      have z6 : wr.cell? ⟨w.heap.size + 1 + 1, 6, none⟩ = _ := cell_of_row _ _ 6 _ _ _ hou
      have z7 : wr.cell? ⟨w.heap.size + 1 + 1, 7, none⟩ = _ := cell_of_row _ _ 7 _ _ _ hou
      have z8 : wr.cell? ⟨w.heap.size + 1 + 1, 8, none⟩ = _ := cell_of_row _ _ 8 _ _ _ hou
      have z9 : wr.cell? ⟨w.heap.size + 1 + 1, 9, none⟩ = _ := cell_of_row _ _ 9 _ _ _ hou
      have z10 : wr.cell? ⟨w.heap.size + 1 + 1, 10, none⟩ = _ := cell_of_row _ _ 10 _ _ _ hou
      have z11 : wr.cell? ⟨w.heap.size + 1 + 1, 11, none⟩ = _ := cell_of_row _ _ 11 _ _ _ hou
      clear hou hG
      have g0 := cell_of_row _ _ 0 _ _ _ HR9.out
      have f0 := frozen_row9 (j := 0) HR9.out
      have g1 := cell_of_row _ _ 1 _ _ _ HR9.out
      have f1 := frozen_row9 (j := 1) HR9.out
      have g2 := cell_of_row _ _ 2 _ _ _ HR9.out
      have f2 := frozen_row9 (j := 2) HR9.out
      have g3 := cell_of_row _ _ 3 _ _ _ HR9.out
      have f3 := frozen_row9 (j := 3) HR9.out
      have g4 := cell_of_row _ _ 4 _ _ _ HR9.out
      have f4 := frozen_row9 (j := 4) HR9.out
      have g5 := cell_of_row _ _ 5 _ _ _ HR9.out
      have f5 := frozen_row9 (j := 5) HR9.out
      have g6 := cell_of_row _ _ 6 _ _ _ HR9.out
      have f6 := frozen_row9 (j := 6) HR9.out
      have g7 := cell_of_row _ _ 7 _ _ _ HR9.out
      have f7 := frozen_row9 (j := 7) HR9.out
      have g8 := cell_of_row _ _ 8 _ _ _ HR9.out
      have f8 := frozen_row9 (j := 8) HR9.out
      have g9 := cell_of_row _ _ 9 _ _ _ HR9.out
      have f9 := frozen_row9 (j := 9) HR9.out
      have g10 := cell_of_row _ _ 10 _ _ _ HR9.out
      have f10 := frozen_row9 (j := 10) HR9.out
      have g11 := cell_of_row _ _ 11 _ _ _ HR9.out
      have f11 := frozen_row9 (j := 11) HR9.out
      go_wp2_with fail
      (try simp only [Exit.inBlock, Exit.then])
      generalize hz9 : (((((((((((wr.setCell ⟨w.heap.size + 1, 0, none⟩ (.slice no k nc)).setCell ⟨w.heap.size + 1, 1, none⟩ (.slice fo k fc)).setCell ⟨w.heap.size + 1, 2, none⟩ (.slice mo k mc)).setCell ⟨w.heap.size + 1, 3, none⟩ (.bool false)).setCell ⟨w.heap.size + 1, 4, none⟩ (.bool false)).setCell ⟨w.heap.size + 1, 5, none⟩ (.bool false)).setCell ⟨w.heap.size + 1, 6, none⟩ (.bool false)).setCell ⟨w.heap.size + 1, 7, none⟩ (.slice none 0 0)).setCell ⟨w.heap.size + 1, 8, none⟩ (.bool false)).setCell ⟨w.heap.size + 1, 9, none⟩ (.slice none 0 0)).setCell ⟨w.heap.size + 1, 10, none⟩ (.slice none 0 0)).setCell ⟨w.heap.size + 1, 11, none⟩ (.slice none 0 0) = wz
      obtain ⟨e7, k7, s7⟩ := rbox_set12 wr _ _ _ _ _ _ _ _ _ _ _ _ _ _ _ _ _ _ _ _ _ _ _ _ _ _ (HR9.out) wz hz9.symm
      have d0 := cell_of_row _ _ 0 _ _ _ e7
      have d1 := cell_of_row _ _ 1 _ _ _ e7
      have d2 := cell_of_row _ _ 2 _ _ _ e7
      have d3 := cell_of_row _ _ 3 _ _ _ e7
      have d4 := cell_of_row _ _ 4 _ _ _ e7
      have d5 := cell_of_row _ _ 5 _ _ _ e7
      have d6 := cell_of_row _ _ 6 _ _ _ e7
      have d7 := cell_of_row _ _ 7 _ _ _ e7
      have d8 := cell_of_row _ _ 8 _ _ _ e7
      have d9 := cell_of_row _ _ 9 _ _ _ e7
      have d10 := cell_of_row _ _ 10 _ _ _ e7
      have d11 := cell_of_row _ _ 11 _ _ _ e7
      have hbz : Below w.heap.size w wz := by rw [← hz9]; exact ((((((((((((HB9.out.setCell (p := ⟨w.heap.size + 1, 0, none⟩) (by show w.heap.size ≤ w.heap.size + 1; omega) _).setCell (p := ⟨w.heap.size + 1, 1, none⟩) (by show w.heap.size ≤ w.heap.size + 1; omega) _).setCell (p := ⟨w.heap.size + 1, 2, none⟩) (by show w.heap.size ≤ w.heap.size + 1; omega) _).setCell (p := ⟨w.heap.size + 1, 3, none⟩) (by show w.heap.size ≤ w.heap.size + 1; omega) _).setCell (p := ⟨w.heap.size + 1, 4, none⟩) (by show w.heap.size ≤ w.heap.size + 1; omega) _).setCell (p := ⟨w.heap.size + 1, 5, none⟩) (by show w.heap.size ≤ w.heap.size + 1; omega) _).setCell (p := ⟨w.heap.size + 1, 6, none⟩) (by show w.heap.size ≤ w.heap.size + 1; omega) _).setCell (p := ⟨w.heap.size + 1, 7, none⟩) (by show w.heap.size ≤ w.heap.size + 1; omega) _).setCell (p := ⟨w.heap.size + 1, 8, none⟩) (by show w.heap.size ≤ w.heap.size + 1; omega) _).setCell (p := ⟨w.heap.size + 1, 9, none⟩) (by show w.heap.size ≤ w.heap.size + 1; omega) _).setCell (p := ⟨w.heap.size + 1, 10, none⟩) (by show w.heap.size ≤ w.heap.size + 1; omega) _).setCell (p := ⟨w.heap.size + 1, 11, none⟩) (by show w.heap.size ≤ w.heap.size + 1; omega) _)
      refine bodyPost_ret (v := .agg #[.slice no k nc, .slice fo k fc, .slice mo k mc, .bool false, .bool false, .bool false, .bool false, .slice none 0 0, .bool false, .slice none 0 0, .slice none 0 0, .slice none 0 0]) (by simp [results, Tryz.results58, go_sem, d0, d1, d2, d3, d4, d5, d6, d7, d8, d9, d10, d11]) rfl ?_
      exact ⟨⟨_, rfl, Hid.mk ((HE.out.set s7 (fun b hb => k7 b (by have := HS0.out; omega))).mono (by have := HS0.out; omega))⟩, hbz⟩
end Go.Proofs.YtdjoelhiahpmlaaGreat
namespace Go.Proofs.YtdjoelhiahpmlaaGreat
open Go.RowKit Go.Shelf Go.Sort Go.Maps Go.WideMaps
set_option linter.unusedVariables false
set_option linter.unusedSimpArgs false
attribute [local go_sem] Oper.semAt_some

set_option maxHeartbeats 1600000 in
theorem rbox_set39 (w : World) (B : Nat) (t : TypeId) (y0 y1 y2 y3 y4 y5 y6 y7 y8 y9 y10 y11 a0 a1 a2 a3 a4 a5 a6 a7 a8 : Value) (h : w.heap[B]? = some (.cells #[y0, y1, y2, y3, y4, y5, y6, y7, y8, y9, y10, y11] t (0, 0))) (wz : World) (hz : wz = ((((((((w.setCell ⟨B, 3, none⟩ (a0)).setCell ⟨B, 4, none⟩ (a1)).setCell ⟨B, 5, none⟩ (a2)).setCell ⟨B, 6, none⟩ (a3)).setCell ⟨B, 7, none⟩ (a4)).setCell ⟨B, 8, none⟩ (a5)).setCell ⟨B, 9, none⟩ (a6)).setCell ⟨B, 10, none⟩ (a7)).setCell ⟨B, 11, none⟩ (a8)) :
    wz.heap[B]? = some (.cells #[y0, y1, y2, a0, a1, a2, a3, a4, a5, a6, a7, a8] t (0, 0)) ∧ (∀ b, b ≠ B → wz.heap[b]? = w.heap[b]?) ∧ wz.heap.size = w.heap.size := by
  subst hz
  refine ⟨rset9 (i := 11) (c := #[y0, y1, y2, a0, a1, a2, a3, a4, a5, a6, a7, y11]) a8 (rset9 (i := 10) (c := #[y0, y1, y2, a0, a1, a2, a3, a4, a5, a6, y10, y11]) a7 (rset9 (i := 9) (c := #[y0, y1, y2, a0, a1, a2, a3, a4, a5, y9, y10, y11]) a6 (rset9 (i := 8) (c := #[y0, y1, y2, a0, a1, a2, a3, a4, y8, y9, y10, y11]) a5 (rset9 (i := 7) (c := #[y0, y1, y2, a0, a1, a2, a3, y7, y8, y9, y10, y11]) a4 (rset9 (i := 6) (c := #[y0, y1, y2, a0, a1, a2, y6, y7, y8, y9, y10, y11]) a3 (rset9 (i := 5) (c := #[y0, y1, y2, a0, a1, y5, y6, y7, y8, y9, y10, y11]) a2 (rset9 (i := 4) (c := #[y0, y1, y2, a0, y4, y5, y6, y7, y8, y9, y10, y11]) a1 (rset9 (i := 3) (c := #[y0, y1, y2, y3, y4, y5, y6, y7, y8, y9, y10, y11]) a0 (h))))))))), fun b hb => ?_, by simp⟩
  rw [Below.heap_setCell _ _ _ _ hb, Below.heap_setCell _ _ _ _ hb, Below.heap_setCell _ _ _ _ hb, Below.heap_setCell _ _ _ _ hb, Below.heap_setCell _ _ _ _ hb, Below.heap_setCell _ _ _ _ hb, Below.heap_setCell _ _ _ _ hb, Below.heap_setCell _ _ _ _ hb, Below.heap_setCell _ _ _ _ hb]

set_option maxRecDepth 100000 in
set_option maxHeartbeats 6400000 in
theorem rnear_wide (nm tx : ByteArray) (io : Option Addr) (NI icap : Nat) (ko : Option Addr) (NK kcap : Nat) (h : Int) (w : World) (m : Nat) (CT : TT) (hh : 0 < h) (h12 : 12 < NK)
    (HC : Hid (∀ u, Below w.heap.size w u → Calls Tryz.prog 46 #[.slice io NI icap, .int .i64 h] u fun e w' => (∃ v, e = .returned v ∧ Hid (FrT u.heap.size w' m CT v)) ∧ Below u.heap.size u w')) :
    Calls Tryz.prog 18 #[.agg #[.int .i64 6, .string nm, .string tx, .slice io NI icap, .slice ko NK kcap], .int .i64 h] w fun e w' => (∃ v, e = .returned v ∧ Hid (FrT w.heap.size w' (m + 1) (.mk false false false false false [] [] [] [.mk [] [] [] CT]) v)) ∧ Below w.heap.size w w' := by
  have hh1 : ¬ h ≤ 0 := by omega
  have hx12 : (12 : Int) < (NK : Int) := by omega
  obtain ⟨W0, hW0⟩ : ∃ W0, (w.alloc (.cells #[.int .i64 6, .string nm, .string tx, .slice io NI icap, .slice ko NK kcap] 25)).alloc (.cells #[.bool false, .bool false, .bool false, .bool false, .slice none 0 0, .bool false, .slice none 0 0, .slice none 0 0, .slice none 0 0] 32) = W0 := ⟨_, rfl⟩
  have HB0 : Hid (Below w.heap.size w W0) := by rw [← hW0]; exact ((Below.refl _ w).alloc (Nat.le_refl _) _).alloc (by simp) _
  have HR0 : Hid (W0.heap[w.heap.size + 1]? = some (.cells #[.bool false, .bool false, .bool false, .bool false, .slice none 0 0, .bool false, .slice none 0 0, .slice none 0 0, .slice none 0 0] 32 (0, 0))) := by
    show _ = _
    rw [← hW0]
    have h := World.alloc_heap_new (w.alloc (.cells #[.int .i64 6, .string nm, .string tx, .slice io NI icap, .slice ko NK kcap] 25)) (.cells #[.bool false, .bool false, .bool false, .bool false, .slice none 0 0, .bool false, .slice none 0 0, .slice none 0 0, .slice none 0 0] 32)
    rw [World.size_alloc] at h
    exact h
  have HV0 : Hid (W0.heap[w.heap.size]? = some (.cells #[.int .i64 6, .string nm, .string tx, .slice io NI icap, .slice ko NK kcap] 25 (0, 0))) := by
    show _ = _
    rw [← hW0]
    exact (Below.heap_alloc _ _ _ (by simp)).trans (World.alloc_heap_new w _)
  have c0 := cell_of_row _ _ 0 _ _ _ HV0.out
  have c1 := cell_of_row _ _ 1 _ _ _ HV0.out
  have c2 := cell_of_row _ _ 2 _ _ _ HV0.out
  have c3 := cell_of_row _ _ 3 _ _ _ HV0.out
  have c4 := cell_of_row _ _ 4 _ _ _ HV0.out
  have hs0 : W0.heap.size = w.heap.size + 1 + 1 := by rw [← hW0]; simp
  obtain ⟨W1, hW1⟩ : ∃ W1, W0.alloc (.cells #[.slice none 0 0, .slice none 0 0, .slice none 0 0, .bool false, .bool false, .bool false, .bool false, .slice none 0 0, .bool false, .slice none 0 0, .slice none 0 0, .slice none 0 0] 63) = W1 := ⟨_, rfl⟩
  have hb1 : Below W0.heap.size W0 W1 := by rw [← hW1]; exact below1 W0 _
  have HB1 := Hid.mk (HB0.out.trans (hb1.mono HB0.out.size))
  have HR1 : Hid (W1.heap[w.heap.size + 1]? = _) := (hb1.block _ (lt_of_row HR0.out)).trans HR0.out
  have HV1 : Hid (W1.heap[w.heap.size]? = _) := (hb1.block _ (lt_of_row HV0.out)).trans HV0.out
  have HO1 : Hid (W1.heap[w.heap.size + 1 + 1]? = some (.cells #[.slice none 0 0, .slice none 0 0, .slice none 0 0, .bool false, .bool false, .bool false, .bool false, .slice none 0 0, .bool false, .slice none 0 0, .slice none 0 0, .slice none 0 0] 63 (0, 0))) := by
    show _ = _
    rw [← hW1]
    have h := World.alloc_heap_new W0 (.cells #[.slice none 0 0, .slice none 0 0, .slice none 0 0, .bool false, .bool false, .bool false, .bool false, .slice none 0 0, .bool false, .slice none 0 0, .slice none 0 0, .slice none 0 0] 63)
    rw [hs0] at h
    exact h
  have HS1 : Hid (W1.heap.size = w.heap.size + 3) := by show _ = _; rw [← hW1, World.size_alloc, hs0]
  have HWq := Hid.mk hW1
  clear hb1 hW1
  go_enter Tryz.func18, Tryz.ntmps18
  go_upto_region 13 with fail
  try rw [HWq.out]
  clear c0 c1 c2 c3 c4
  have c3 := cell_of_row _ _ 3 _ _ _ HV1.out
  have c4 := cell_of_row _ _ 4 _ _ _ HV1.out
  go_wp2_with fail
  refine (HC.out _ HB1.out).mono ?_
  rintro e w3 ⟨⟨vw, rfl, hF⟩, hq⟩
  have hF2 := hF.out.here
  obtain ⟨ta, tb, tc, td, ⟨teo, ten, tec⟩, tf, ⟨tgo, tgn, tgc⟩, ⟨tio, tinn, tic⟩, ⟨tjo, tjn, tjc⟩, esht⟩ := inT_shape hF2
  simp only [Value.agg.injEq, Array.mk.injEq, List.cons.injEq, and_true] at esht
  obtain ⟨rfl, rfl, rfl, rfl, rfl, rfl, rfl, rfl, rfl⟩ := esht
  clear hF2 c3 c4 HWq hW0
  have HB3 := Hid.mk (HB1.out.trans (hq.mono HB1.out.size))
  have HR3 : Hid (w3.heap[w.heap.size + 1]? = _) := (hq.block _ (lt_of_row HR1.out)).trans HR1.out
  have HO3 : Hid (w3.heap[w.heap.size + 1 + 1]? = _) := (hq.block _ (lt_of_row HO1.out)).trans HO1.out
  have HQ3 := Hid.mk hq.size
  clear hq
  have m0 : w3.cell? ⟨w.heap.size + 1 + 1, 0, none⟩ = _ := cell_of_row _ _ 0 _ _ _ HO3.out
  have n0 : w3.frozen? ⟨w.heap.size + 1 + 1, 0, none⟩ = false := frozen_row9 (j := 0) HO3.out
  have m1 : w3.cell? ⟨w.heap.size + 1 + 1, 1, none⟩ = _ := cell_of_row _ _ 1 _ _ _ HO3.out
  have n1 : w3.frozen? ⟨w.heap.size + 1 + 1, 1, none⟩ = false := frozen_row9 (j := 1) HO3.out
  have m2 : w3.cell? ⟨w.heap.size + 1 + 1, 2, none⟩ = _ := cell_of_row _ _ 2 _ _ _ HO3.out
  have n2 : w3.frozen? ⟨w.heap.size + 1 + 1, 2, none⟩ = false := frozen_row9 (j := 2) HO3.out
  have m3 : w3.cell? ⟨w.heap.size + 1 + 1, 3, none⟩ = _ := cell_of_row _ _ 3 _ _ _ HO3.out
  have n3 : w3.frozen? ⟨w.heap.size + 1 + 1, 3, none⟩ = false := frozen_row9 (j := 3) HO3.out
  have m4 : w3.cell? ⟨w.heap.size + 1 + 1, 4, none⟩ = _ := cell_of_row _ _ 4 _ _ _ HO3.out
  have n4 : w3.frozen? ⟨w.heap.size + 1 + 1, 4, none⟩ = false := frozen_row9 (j := 4) HO3.out
  have m5 : w3.cell? ⟨w.heap.size + 1 + 1, 5, none⟩ = _ := cell_of_row _ _ 5 _ _ _ HO3.out
  have n5 : w3.frozen? ⟨w.heap.size + 1 + 1, 5, none⟩ = false := frozen_row9 (j := 5) HO3.out
  have m6 : w3.cell? ⟨w.heap.size + 1 + 1, 6, none⟩ = _ := cell_of_row _ _ 6 _ _ _ HO3.out
  have n6 : w3.frozen? ⟨w.heap.size + 1 + 1, 6, none⟩ = false := frozen_row9 (j := 6) HO3.out
  have m7 : w3.cell? ⟨w.heap.size + 1 + 1, 7, none⟩ = _ := cell_of_row _ _ 7 _ _ _ HO3.out
  have n7 : w3.frozen? ⟨w.heap.size + 1 + 1, 7, none⟩ = false := frozen_row9 (j := 7) HO3.out
  have m8 : w3.cell? ⟨w.heap.size + 1 + 1, 8, none⟩ = _ := cell_of_row _ _ 8 _ _ _ HO3.out
  have n8 : w3.frozen? ⟨w.heap.size + 1 + 1, 8, none⟩ = false := frozen_row9 (j := 8) HO3.out
  have m9 : w3.cell? ⟨w.heap.size + 1 + 1, 9, none⟩ = _ := cell_of_row _ _ 9 _ _ _ HO3.out
  have n9 : w3.frozen? ⟨w.heap.size + 1 + 1, 9, none⟩ = false := frozen_row9 (j := 9) HO3.out
  have m10 : w3.cell? ⟨w.heap.size + 1 + 1, 10, none⟩ = _ := cell_of_row _ _ 10 _ _ _ HO3.out
  have n10 : w3.frozen? ⟨w.heap.size + 1 + 1, 10, none⟩ = false := frozen_row9 (j := 10) HO3.out
  have m11 : w3.cell? ⟨w.heap.size + 1 + 1, 11, none⟩ = _ := cell_of_row _ _ 11 _ _ _ HO3.out
  have n11 : w3.frozen? ⟨w.heap.size + 1 + 1, 11, none⟩ = false := frozen_row9 (j := 11) HO3.out
  obtain ⟨W4, hW4⟩ : ∃ W4, ((((((((w3.setCell ⟨w.heap.size + 1 + 1, 3, none⟩ (.bool ta)).setCell ⟨w.heap.size + 1 + 1, 4, none⟩ (.bool tb)).setCell ⟨w.heap.size + 1 + 1, 5, none⟩ (.bool tc)).setCell ⟨w.heap.size + 1 + 1, 6, none⟩ (.bool td)).setCell ⟨w.heap.size + 1 + 1, 7, none⟩ (.slice teo ten tec)).setCell ⟨w.heap.size + 1 + 1, 8, none⟩ (.bool tf)).setCell ⟨w.heap.size + 1 + 1, 9, none⟩ (.slice tgo tgn tgc)).setCell ⟨w.heap.size + 1 + 1, 10, none⟩ (.slice tio tinn tic)).setCell ⟨w.heap.size + 1 + 1, 11, none⟩ (.slice tjo tjn tjc) = W4 := ⟨_, rfl⟩
  obtain ⟨e4, k4, s4⟩ := rbox_set39 w3 _ _ _ _ _ _ _ _ _ _ _ _ _ _ _ _ _ _ _ _ _ _ _ HO3.out W4 hW4.symm
  have HB4 : Hid (Below w.heap.size w W4) := by show Below _ _ _; rw [← hW4]; exact (((((((((HB3.out.setCell (p := ⟨w.heap.size + 1 + 1, 3, none⟩) (by show w.heap.size ≤ w.heap.size + 1 + 1; omega) _).setCell (p := ⟨w.heap.size + 1 + 1, 4, none⟩) (by show w.heap.size ≤ w.heap.size + 1 + 1; omega) _).setCell (p := ⟨w.heap.size + 1 + 1, 5, none⟩) (by show w.heap.size ≤ w.heap.size + 1 + 1; omega) _).setCell (p := ⟨w.heap.size + 1 + 1, 6, none⟩) (by show w.heap.size ≤ w.heap.size + 1 + 1; omega) _).setCell (p := ⟨w.heap.size + 1 + 1, 7, none⟩) (by show w.heap.size ≤ w.heap.size + 1 + 1; omega) _).setCell (p := ⟨w.heap.size + 1 + 1, 8, none⟩) (by show w.heap.size ≤ w.heap.size + 1 + 1; omega) _).setCell (p := ⟨w.heap.size + 1 + 1, 9, none⟩) (by show w.heap.size ≤ w.heap.size + 1 + 1; omega) _).setCell (p := ⟨w.heap.size + 1 + 1, 10, none⟩) (by show w.heap.size ≤ w.heap.size + 1 + 1; omega) _).setCell (p := ⟨w.heap.size + 1 + 1, 11, none⟩) (by show w.heap.size ≤ w.heap.size + 1 + 1; omega) _)
  have HF4 := Hid.mk (hF.out.set s4 (fun b hb => k4 b (by have := HS1.out; omega)))
  have HR4 : Hid (W4.heap[w.heap.size + 1]? = _) := (k4 _ (by omega)).trans HR3.out
  have HS4 : Hid (W4.heap.size = w3.heap.size) := s4
  have r0 : W4.cell? ⟨w.heap.size + 1 + 1, 0, none⟩ = _ := cell_of_row _ _ 0 _ _ _ e4
  have r1 : W4.cell? ⟨w.heap.size + 1 + 1, 1, none⟩ = _ := cell_of_row _ _ 1 _ _ _ e4
  have r2 : W4.cell? ⟨w.heap.size + 1 + 1, 2, none⟩ = _ := cell_of_row _ _ 2 _ _ _ e4
  have r3 : W4.cell? ⟨w.heap.size + 1 + 1, 3, none⟩ = _ := cell_of_row _ _ 3 _ _ _ e4
  have r4 : W4.cell? ⟨w.heap.size + 1 + 1, 4, none⟩ = _ := cell_of_row _ _ 4 _ _ _ e4
  have r5 : W4.cell? ⟨w.heap.size + 1 + 1, 5, none⟩ = _ := cell_of_row _ _ 5 _ _ _ e4
  have r6 : W4.cell? ⟨w.heap.size + 1 + 1, 6, none⟩ = _ := cell_of_row _ _ 6 _ _ _ e4
  have r7 : W4.cell? ⟨w.heap.size + 1 + 1, 7, none⟩ = _ := cell_of_row _ _ 7 _ _ _ e4
  have r8 : W4.cell? ⟨w.heap.size + 1 + 1, 8, none⟩ = _ := cell_of_row _ _ 8 _ _ _ e4
  have r9 : W4.cell? ⟨w.heap.size + 1 + 1, 9, none⟩ = _ := cell_of_row _ _ 9 _ _ _ e4
  have r10 : W4.cell? ⟨w.heap.size + 1 + 1, 10, none⟩ = _ := cell_of_row _ _ 10 _ _ _ e4
  have r11 : W4.cell? ⟨w.heap.size + 1 + 1, 11, none⟩ = _ := cell_of_row _ _ 11 _ _ _ e4
  obtain ⟨W5, hW5⟩ : ∃ W5, W4.alloc (.cells #[.slice none 0 0, .slice none 0 0, .slice none 0 0, .bool ta, .bool tb, .bool tc, .bool td, .slice teo ten tec, .bool tf, .slice tgo tgn tgc, .slice tio tinn tic, .slice tjo tjn tjc] 63) = W5 := ⟨_, rfl⟩
  obtain ⟨B5, hB5⟩ : ∃ B5, W4.heap.size = B5 := ⟨_, rfl⟩
  have hb5 : Below W4.heap.size W4 W5 := by rw [← hW5]; exact below1 W4 _
  have HN5 : Hid (W5.heap[B5]? = some (.cells #[.slice none 0 0, .slice none 0 0, .slice none 0 0, .bool ta, .bool tb, .bool tc, .bool td, .slice teo ten tec, .bool tf, .slice tgo tgn tgc, .slice tio tinn tic, .slice tjo tjn tjc] 63 (0, 0))) := by show _ = _; rw [← hW5, ← hB5]; exact World.alloc_heap_new W4 _
  have HB5 := Hid.mk (HB4.out.trans (hb5.mono HB4.out.size))
  have HR5 : Hid (W5.heap[w.heap.size + 1]? = _) := (hb5.block _ (lt_of_row HR4.out)).trans HR4.out
  have HBL : Hid (W1.heap.size ≤ B5) := by show _ ≤ _; rw [← hB5, HS4.out]; exact HQ3.out
  have HF5 := Hid.mk (fr_obj (fr_wide HF4.out) hb5 HBL.out HN5.out)
  clear e4 k4 s4 hb5 hF
  have g0 := cell_of_row _ _ 0 _ _ _ HR5.out
  have f0 := frozen_row9 (j := 0) HR5.out
  have g1 := cell_of_row _ _ 1 _ _ _ HR5.out
  have f1 := frozen_row9 (j := 1) HR5.out
  have g2 := cell_of_row _ _ 2 _ _ _ HR5.out
  have f2 := frozen_row9 (j := 2) HR5.out
  have g3 := cell_of_row _ _ 3 _ _ _ HR5.out
  have f3 := frozen_row9 (j := 3) HR5.out
  have g4 := cell_of_row _ _ 4 _ _ _ HR5.out
  have f4 := frozen_row9 (j := 4) HR5.out
  have g5 := cell_of_row _ _ 5 _ _ _ HR5.out
  have f5 := frozen_row9 (j := 5) HR5.out
  have g6 := cell_of_row _ _ 6 _ _ _ HR5.out
  have f6 := frozen_row9 (j := 6) HR5.out
  have g7 := cell_of_row _ _ 7 _ _ _ HR5.out
  have f7 := frozen_row9 (j := 7) HR5.out
  have g8 := cell_of_row _ _ 8 _ _ _ HR5.out
  have f8 := frozen_row9 (j := 8) HR5.out
  go_wp2_with fail
  (try simp only [Exit.inBlock, Exit.then])
  generalize hz9 : ((((((((W5.setCell ⟨w.heap.size + 1, 0, none⟩ (.bool false)).setCell ⟨w.heap.size + 1, 1, none⟩ (.bool false)).setCell ⟨w.heap.size + 1, 2, none⟩ (.bool false)).setCell ⟨w.heap.size + 1, 3, none⟩ (.bool false)).setCell ⟨w.heap.size + 1, 4, none⟩ (.slice none 0 0)).setCell ⟨w.heap.size + 1, 5, none⟩ (.bool false)).setCell ⟨w.heap.size + 1, 6, none⟩ (.slice none 0 0)).setCell ⟨w.heap.size + 1, 7, none⟩ (.slice none 0 0)).setCell ⟨w.heap.size + 1, 8, none⟩ (.slice (some ⟨B5, 0, none⟩) 1 1) = wz
  obtain ⟨e7, k7, s7⟩ := rbox_set9 W5 _ _ _ _ _ _ _ _ _ _ _ _ _ _ _ _ _ _ _ _ (HR5.out) wz hz9.symm
  have d0 := cell_of_row _ _ 0 _ _ _ e7
  have d1 := cell_of_row _ _ 1 _ _ _ e7
  have d2 := cell_of_row _ _ 2 _ _ _ e7
  have d3 := cell_of_row _ _ 3 _ _ _ e7
  have d4 := cell_of_row _ _ 4 _ _ _ e7
  have d5 := cell_of_row _ _ 5 _ _ _ e7
  have d6 := cell_of_row _ _ 6 _ _ _ e7
  have d7 := cell_of_row _ _ 7 _ _ _ e7
  have d8 := cell_of_row _ _ 8 _ _ _ e7
  have hbz : Below w.heap.size w wz := by rw [← hz9]; exact (((((((((HB5.out.setCell (p := ⟨w.heap.size + 1, 0, none⟩) (by show w.heap.size ≤ w.heap.size + 1; omega) _).setCell (p := ⟨w.heap.size + 1, 1, none⟩) (by show w.heap.size ≤ w.heap.size + 1; omega) _).setCell (p := ⟨w.heap.size + 1, 2, none⟩) (by show w.heap.size ≤ w.heap.size + 1; omega) _).setCell (p := ⟨w.heap.size + 1, 3, none⟩) (by show w.heap.size ≤ w.heap.size + 1; omega) _).setCell (p := ⟨w.heap.size + 1, 4, none⟩) (by show w.heap.size ≤ w.heap.size + 1; omega) _).setCell (p := ⟨w.heap.size + 1, 5, none⟩) (by show w.heap.size ≤ w.heap.size + 1; omega) _).setCell (p := ⟨w.heap.size + 1, 6, none⟩) (by show w.heap.size ≤ w.heap.size + 1; omega) _).setCell (p := ⟨w.heap.size + 1, 7, none⟩) (by show w.heap.size ≤ w.heap.size + 1; omega) _).setCell (p := ⟨w.heap.size + 1, 8, none⟩) (by show w.heap.size ≤ w.heap.size + 1; omega) _)
  refine bodyPost_ret (v := .agg #[.bool false, .bool false, .bool false, .bool false, .slice none 0 0, .bool false, .slice none 0 0, .slice none 0 0, .slice (some ⟨B5, 0, none⟩) 1 1]) (by simp [results, Tryz.results18, go_sem, d0, d1, d2, d3, d4, d5, d6, d7, d8]) rfl ?_
  exact ⟨⟨_, rfl, Hid.mk ((HF5.out.set s7 (fun b hb => k7 b (by have := HS1.out; omega))).mono (by have := HS1.out; omega))⟩, hbz⟩
end Go.Proofs.YtdjoelhiahpmlaaGreat
namespace Go.Proofs.YtdjoelhiahpmlaaGreat
open Go.RowKit Go.Shelf Go.Sort Go.Maps Go.WideMaps
set_option linter.unusedVariables false
set_option linter.unusedSimpArgs false
attribute [local go_sem] Oper.semAt_some

set_option maxRecDepth 100000 in
set_option maxHeartbeats 12800000 in
theorem rfields_few (h : Nat) (ih : NrR h) (hv : Nat) (its : List VT) (ks : List ByteArray) (nm tx : ByteArray) (io : Option Addr) (icap : Nat) (ko : Option Addr) (NK kcap : Nat) (H : Int) (w : World) (hi : IIn w hv io its) (hk : KIn w ko ks) (hN : its.length = NK) (hK : ks.length = NK) (hcap : NK ≤ icap) (kcap' : NK ≤ kcap) (h12 : NK ≤ 12) (hf : ∀ x ∈ its, formN hv x = true) (hs : ∀ k ∈ ks, k.size ≤ 140737488355328) (hw1 : IntKind.wrap .i64 (H - 1) = (h : Int)) (hH : ¬ H ≤ 0) :
    Calls Tryz.prog 18 #[.agg #[.int .i64 6, .string nm, .string tx, .slice io NK icap, .slice ko NK kcap], .int .i64 H] w fun e w' => (∃ v, e = .returned v ∧ Hid (FrT w.heap.size w' (h + 3) (.mk false false false false false [] [] [] [.mk ks (its.map (nrN h)) (ks.map fun _ => true) ttNe]) v)) ∧ Below w.heap.size w w' := by
  obtain ⟨j0, hj0, hy0, hy1, hy2⟩ := info_parts Tryz.infoStrN
  obtain ⟨i0, hi0, hz0, hz1, hz2⟩ := info_parts Tryz.infoTyN
  obtain ⟨l0, hl0, hx0, hx1, hx2⟩ := info_parts Tryz.infoBoN
  have HI := Hid.mk hi
  have HKI := Hid.mk hk
  have HNN := Hid.mk hN
  have HKK := Hid.mk hK
  have HFm := Hid.mk hf
  have HSz := Hid.mk hs
  have HIh := Hid.mk ih
  clear hi hk hN hK hf hs ih
  have hx12 : ¬ (12 : Int) < (NK : Int) := by omega
  obtain ⟨W0, hW0⟩ : ∃ W0, (w.alloc (.cells #[.int .i64 6, .string nm, .string tx, .slice io NK icap, .slice ko NK kcap] 25)).alloc (.cells #[.bool false, .bool false, .bool false, .bool false, .slice none 0 0, .bool false, .slice none 0 0, .slice none 0 0, .slice none 0 0] 32) = W0 := ⟨_, rfl⟩
  have HB0 : Hid (Below w.heap.size w W0) := by rw [← hW0]; exact ((Below.refl _ w).alloc (Nat.le_refl _) _).alloc (by simp) _
  have HR0 : Hid (W0.heap[w.heap.size + 1]? = some (.cells #[.bool false, .bool false, .bool false, .bool false, .slice none 0 0, .bool false, .slice none 0 0, .slice none 0 0, .slice none 0 0] 32 (0, 0))) := by
    show _ = _
    rw [← hW0]
    have h := World.alloc_heap_new (w.alloc (.cells #[.int .i64 6, .string nm, .string tx, .slice io NK icap, .slice ko NK kcap] 25)) (.cells #[.bool false, .bool false, .bool false, .bool false, .slice none 0 0, .bool false, .slice none 0 0, .slice none 0 0, .slice none 0 0] 32)
    rw [World.size_alloc] at h
    exact h
  have HV0 : Hid (W0.heap[w.heap.size]? = some (.cells #[.int .i64 6, .string nm, .string tx, .slice io NK icap, .slice ko NK kcap] 25 (0, 0))) := by
    show _ = _
    rw [← hW0]
    exact (Below.heap_alloc _ _ _ (by simp)).trans (World.alloc_heap_new w _)
  have c0 := cell_of_row _ _ 0 _ _ _ HV0.out
  have c1 := cell_of_row _ _ 1 _ _ _ HV0.out
  have c2 := cell_of_row _ _ 2 _ _ _ HV0.out
  have c3 := cell_of_row _ _ 3 _ _ _ HV0.out
  have c4 := cell_of_row _ _ 4 _ _ _ HV0.out
  have hs0 : W0.heap.size = w.heap.size + 1 + 1 := by rw [← hW0]; simp
  obtain ⟨W1, hW1⟩ : ∃ W1, W0.alloc (.cells #[.slice none 0 0, .slice none 0 0, .slice none 0 0, .bool false, .bool false, .bool false, .bool false, .slice none 0 0, .bool false, .slice none 0 0, .slice none 0 0, .slice none 0 0] 63) = W1 := ⟨_, rfl⟩
  have hb1 : Below W0.heap.size W0 W1 := by rw [← hW1]; exact below1 W0 _
  have hB1 : Below w.heap.size w W1 := HB0.out.trans (hb1.mono HB0.out.size)
  have hr1 : W1.heap[w.heap.size + 1]? = _ := (hb1.block _ (lt_of_row HR0.out)).trans HR0.out
  have hv1 : W1.heap[w.heap.size]? = _ := (hb1.block _ (lt_of_row HV0.out)).trans HV0.out
  have ho1 : W1.heap[w.heap.size + 2]? = some (.cells #[.slice none 0 0, .slice none 0 0, .slice none 0 0, .bool false, .bool false, .bool false, .bool false, .slice none 0 0, .bool false, .slice none 0 0, .slice none 0 0, .slice none 0 0] 63 (0, 0)) := by
    rw [← hW1]
    have h := World.alloc_heap_new W0 (.cells #[.slice none 0 0, .slice none 0 0, .slice none 0 0, .bool false, .bool false, .bool false, .bool false, .slice none 0 0, .bool false, .slice none 0 0, .slice none 0 0, .slice none 0 0] 63)
    rw [hs0] at h
    exact h
  have hS1 : W1.heap.size = w.heap.size + 3 := by rw [← hW1, World.size_alloc, hs0]
  have HG0 : Hid (FdR w W1 h #[.int .i64 6, .string nm, .string tx, .slice io NK icap, .slice ko NK kcap] (ks.map .string) (its.map (nrN h)) 0 0 0 (.slice none 0 0) (.slice none 0 0) (.slice none 0 0) [] W1) := ⟨hB1, hS1, Nat.le_refl _, hv1, hr1, ho1, World.ownsRow_nil _ _ _ _, World.ownsRow_nil _ _ _ _, World.ownsRow_nil _ _ _ _, rfl, fun j hj _ => absurd hj (Nat.not_lt_zero _)⟩
  have HS1 := Hid.mk hS1
  have HWq := Hid.mk hW1
  clear hb1 hB1 hr1 hv1 ho1 hS1 hW1
  have e14 : W1.cell? ⟨w.heap.size, 4, none⟩ = _ := cell_of_row _ _ 4 _ _ _ HG0.out.box
  go_enter Tryz.func18, Tryz.ntmps18
  go_upto_region 13 with fail
  try rw [HWq.out]
  clear HWq c0 c1 c2 c3 c4
  go_wp2_with fail
  clear e14 hW0 hs0
  go_loopw [7] (fun i wr => ∃ k : Nat, k ≤ NK ∧ i = .int .i64 (k : Int) ∧ Hid (∃ no nc fo fc mo mc fs, FdR w W1 h #[.int .i64 6, .string nm, .string tx, .slice io NK icap, .slice ko NK kcap] (ks.map .string) (its.map (nrN h)) k k k (.slice no k nc) (.slice fo k fc) (.slice mo k mc) fs wr)) (fun i _ => NK - (intOf i).toNat)
  case atStart => exact ⟨0, Nat.zero_le _, rfl, ⟨none, 0, none, 0, none, 0, [], HG0.out⟩⟩
  case round =>
    clear HG0 HB0 HR0 HV0
    obtain ⟨k, hk, rfl, HQ⟩ := hrel
    obtain ⟨no, nc, fo, fc, mo, mc, fs, hG⟩ := HQ.out
    have HG := Hid.mk hG
    clear HQ
    have hlew : W1.heap.size ≤ wr.heap.size := hG.le
    have a4 : wr.cell? ⟨w.heap.size, 4, none⟩ = _ := cell_of_row _ _ 4 _ _ _ hG.box
    by_cases hlt : k < NK
    · have hl1 : (k : Int) < (NK : Int) := by omega
      have hkl : k < ks.length := by rw [HKK.out]; exact hlt
      have hil : k < its.length := by rw [HNN.out]; exact hlt
      obtain ⟨kb, koff, hko, hkbl, hkr⟩ := HKI.out.row (by omega)
      subst hko
      obtain ⟨ib, ioff, hio, hibl, hir⟩ := HI.out.row (by omega)
      subst hio
      have ck := hkr k hkl
      obtain ⟨Y, hY⟩ : ∃ Y, ks.getD k .empty = Y := ⟨_, rfl⟩
      have hYk : (ks.map Value.string)[k]? = some (.string Y) := by rw [← hY, List.getD_eq_getElem?_getD, List.getElem?_map, List.getElem?_eq_getElem hkl]; rfl
      rw [hY] at ck
      have HSS : Hid (∀ u, Below w.heap.size w u → u.heap[w.heap.size]? = some (.cells #[.int .i64 6, .string nm, .string tx, .slice (some ⟨ib, ioff, none⟩) NK icap, .slice (some ⟨kb, koff, none⟩) NK kcap] 25 (0, 0)) → u.cell? ⟨w.heap.size, 4, none⟩ = some (.slice (some ⟨kb, koff, none⟩) NK kcap) ∧ u.cell? ⟨kb, koff + k, none⟩ = some (.string Y)) := fun u hu hb => ⟨cell_of_row _ _ 4 _ _ _ hb, (hu.cell (p := ⟨_, _, _⟩) hkbl).trans ck⟩
      obtain ⟨v0, v1, v2, v3, v4, ⟨d0, d1, d2, d3, d4⟩, ht⟩ := hir k hil
      obtain ⟨ik, inm, itx, iio, iN, iicap, iko, iK, ikcap, rfl, rfl, rfl, rfl, rfl⟩ := ht.shape
      have a3 : wr.cell? ⟨w.heap.size, 3, none⟩ = _ := cell_of_row _ _ 3 _ _ _ hG.box
      have x0 := (hG.below.cell (p := ⟨ib, ioff + k * 5, none⟩) hibl).trans d0
      have x1 := (hG.below.cell (p := ⟨ib, ioff + k * 5 + 1, none⟩) hibl).trans d1
      have x2 := (hG.below.cell (p := ⟨ib, ioff + k * 5 + 2, none⟩) hibl).trans d2
      have x3 := (hG.below.cell (p := ⟨ib, ioff + k * 5 + 3, none⟩) hibl).trans d3
      have x4 := (hG.below.cell (p := ⟨ib, ioff + k * 5 + 4, none⟩) hibl).trans d4
      have HN5 := Hid.mk (HIh.out hv its[k] _ wr (ht.keep hG.below) (HFm.out its[k] (List.getElem_mem _)))
      have HTk : Hid ((its.map (nrN h))[k]? = some (nrN h its[k])) := by show _ = _; rw [List.getElem?_map, List.getElem?_eq_getElem hil]; rfl
      have HYk := Hid.mk hYk
      have HWr := Hid.mk hlew
      clear hkr hY hYk hG hir ht d0 d1 d2 d3 d4 ck
      go_wp2_with fail
      refine HN5.out.mono ?_
      rintro e w6 ⟨⟨v6, rfl, hF6⟩, hq⟩
      have hF2 := hF6.out.here
      obtain ⟨ta, tb, tc, td, ⟨teo, ten, tec⟩, tf, ⟨tgo, tgn, tgc⟩, ⟨tio, tinn, tic⟩, ⟨tjo, tjn, tjc⟩, esht⟩ := inT_shape hF2
      simp only [Value.agg.injEq, Array.mk.injEq, List.cons.injEq, and_true] at esht
      obtain ⟨rfl, rfl, rfl, rfl, rfl, rfl, rfl, rfl, rfl⟩ := esht
      clear hF2 x0 x1 x2 x3 x4 a3 a4 HN5
      obtain ⟨W7, hW7⟩ : ∃ W7, w6.alloc (.cells #[.bool ta, .bool tb, .bool tc, .bool td, .slice teo ten tec, .bool tf, .slice tgo tgn tgc, .slice tio tinn tic, .slice tjo tjn tjc] 32) = W7 := ⟨_, rfl⟩
      obtain ⟨Fb, hFb⟩ : ∃ Fb, w6.heap.size = Fb := ⟨_, rfl⟩
      have hb7 : Below w6.heap.size w6 W7 := by rw [← hW7]; exact below1 w6 _
      have HG7 := Hid.mk ((HG.out.keep hq).keep hb7)
      have hFr7 : FrI wr.heap.size w6.heap.size W7 (h + 2) (nrN h its[k]) (.agg #[.bool ta, .bool tb, .bool tc, .bool td, .slice teo ten tec, .bool tf, .slice tgo tgn tgc, .slice tio tinn tic, .slice tjo tjn tjc]) := hF6.out.int.move hb7.size (fun b g1 g2 => hb7.block b g2)
      have hBf7 : W7.heap[Fb]? = some (.cells #[.bool ta, .bool tb, .bool tc, .bool td, .slice teo ten tec, .bool tf, .slice tgo tgn tgc, .slice tio tinn tic, .slice tjo tjn tjc] 32 (0, 0)) := by rw [← hW7, ← hFb]; exact World.alloc_heap_new w6 _
      obtain ⟨WD, hWD⟩ : ∃ WD, W7.drew = WD := ⟨_, rfl⟩
      have hD : Below W7.heap.size W7 WD := by rw [← hWD]; exact (Below.refl W7.heap.size W7).drew
      have HGd := Hid.mk (HG7.out.keep hD)
      have HFr := Hid.mk (hFr7.move hD.size (fun b g1 g2 => hD.block b (Nat.lt_of_lt_of_le g2 hFr7.1)))
      have HBf : Hid (WD.heap[Fb]? = _) := (hD.block _ (lt_of_row hBf7)).trans hBf7
      have HFb : Hid (wr.heap.size ≤ Fb ∧ Fb = w6.heap.size) := ⟨by rw [← hFb]; exact hq.size, hFb.symm⟩
      have HNo : Hid (∀ g, (Value.slice no k nc).ownBlock = some g → g < wr.heap.size) := fun g e => by obtain ⟨_, q, _⟩ := own_cellsF HG.out.nms e; exact lt_of_row q
      have HOf : Hid (outI wr.heap.size w6.heap.size (.slice fo k fc)) := fun g e => .inl (by obtain ⟨_, q, _⟩ := own_cellsF HG.out.fds e; exact lt_of_row q)
      have HOm : Hid (outI wr.heap.size w6.heap.size (.slice mo k mc)) := fun g e => .inl (by obtain ⟨_, q, _⟩ := own_cellsF HG.out.mst e; exact lt_of_row q)
      have HLe : Hid (W1.heap.size ≤ wr.heap.size) := HWr
      have HWq := Hid.mk hW7
      have HBq := Hid.mk hFb
      have HDq := Hid.mk hWD
      clear hq hb7 hF6 hFr7 hBf7 hD hW7 hFb hWD
      go_upto_region 20 with fail
      try rw [HWq.out]
      try rw [HBq.out]
      clear HWq HBq
      have KEY : ∀ (g1 nc1 : Nat) (W5 : World), (FdR w W1 h #[.int .i64 6, .string nm, .string tx, .slice (some ⟨ib, ioff, none⟩) NK icap, .slice (some ⟨kb, koff, none⟩) NK kcap] (ks.map .string) (its.map (nrN h)) (k + 1) k k (.slice (some ⟨g1, 0, none⟩) (k + 1) nc1) (.slice fo k fc) (.slice mo k mc) fs W5 ∧ FrI wr.heap.size w6.heap.size W5 (h + 2) (nrN h its[k]) (.agg #[.bool ta, .bool tb, .bool tc, .bool td, .slice teo ten tec, .bool tf, .slice tgo tgn tgc, .slice tio tinn tic, .slice tjo tjn tjc]) ∧ W5.heap[Fb]? = some (.cells #[.bool ta, .bool tb, .bool tc, .bool td, .slice teo ten tec, .bool tf, .slice tgo tgn tgc, .slice tio tinn tic, .slice tjo tjn tjc] 32 (0, 0)) ∧ outI wr.heap.size w6.heap.size (.slice (some ⟨g1, 0, none⟩) (k + 1) nc1)) → (?PP : Nat → Nat → World → Prop) g1 nc1 W5 := ?key
      refine wp_region_held_drew (S := fun u => u.cell? ⟨w.heap.size, 4, none⟩ = some (.slice (some ⟨kb, koff, none⟩) NK kcap) ∧ u.cell? ⟨kb, koff + k, none⟩ = some (.string Y)) (by kernel_rfl) (by rw [HDq.out]; exact HSS.out _ HGd.out.below HGd.out.box) (fun hHeld => ?_)
      rw [HDq.out] at hHeld ⊢
      refine wpAnyH_take (i := 0) (oi := _) (v := .pointer (some ⟨w.heap.size + 1 + 1, 0, none⟩)) rfl (by kernel_rfl) (by kernel_rfl) (by kernel_rfl) (fun _ _ _ h => h) (Or.inl ⟨by rfl, ?_⟩) (by assumption) ?_
      · intro w hSw
        go_simp
      try simp only [Act.put, List.getElem_toArray, List.getElem_cons_succ, List.getElem_cons_zero, List.setIfInBounds_toArray, List.set_cons_zero, List.set_cons_succ]
      refine wpAnyH_take (i := 2) (oi := _) (v := .pointer (some ⟨w.heap.size, 4, none⟩)) rfl (by kernel_rfl) (by kernel_rfl) (by kernel_rfl) (fun _ _ _ h => h) (Or.inl ⟨by rfl, ?_⟩) (by assumption) ?_
      · intro w hSw
        go_simp
      try simp only [Act.put, List.getElem_toArray, List.getElem_cons_succ, List.getElem_cons_zero, List.setIfInBounds_toArray, List.set_cons_zero, List.set_cons_succ]
      refine wpAnyH_take (i := 3) (oi := _) (v := .slice (some ⟨kb, koff, none⟩) NK kcap) rfl (by kernel_rfl) (by kernel_rfl) (by kernel_rfl) (fun _ _ _ h => h) (Or.inl ⟨by rfl, ?_⟩) (by assumption) ?_
      · intro w hSw
        go_simp
      try simp only [Act.put, List.getElem_toArray, List.getElem_cons_succ, List.getElem_cons_zero, List.setIfInBounds_toArray, List.set_cons_zero, List.set_cons_succ]
      refine wpAnyH_take (i := 4) (oi := _) (v := .int .i64 (k : Int)) rfl (by kernel_rfl) (by kernel_rfl) (by kernel_rfl) (fun _ _ _ h => h) (Or.inl ⟨by rfl, ?_⟩) (by assumption) ?_
      · intro w hSw
        go_simp
      try simp only [Act.put, List.getElem_toArray, List.getElem_cons_succ, List.getElem_cons_zero, List.setIfInBounds_toArray, List.set_cons_zero, List.set_cons_succ]
      refine wpAnyH_take (i := 5) (oi := _) (v := .pointer (some ⟨kb, koff + k, none⟩)) rfl (by kernel_rfl) (by kernel_rfl) (by kernel_rfl) (fun _ _ _ h => h) (Or.inl ⟨by rfl, ?_⟩) (by assumption) ?_
      · intro w hSw
        go_simp
      try simp only [Act.put, List.getElem_toArray, List.getElem_cons_succ, List.getElem_cons_zero, List.setIfInBounds_toArray, List.set_cons_zero, List.set_cons_succ]
      refine wpAnyH_take (i := 6) (oi := _) (v := .string Y) rfl (by kernel_rfl) (by kernel_rfl) (by kernel_rfl) (fun _ _ _ h => h) (Or.inl ⟨by rfl, ?_⟩) (by assumption) ?_
      · intro w hSw
        go_simp
      try simp only [Act.put, List.getElem_toArray, List.getElem_cons_succ, List.getElem_cons_zero, List.setIfInBounds_toArray, List.set_cons_zero, List.set_cons_succ]
      refine wpAnyH_ready (rs := [1, 7]) (by kernel_rfl) (by simp) ?_
      have HO1 : Hid (∀ u : World, u.heap[w.heap.size + 2]? = some (.cells #[.slice no k nc, .slice fo k fc, .slice mo k mc, .bool false, .bool false, .bool false, .bool false, .slice none 0 0, .bool false, .slice none 0 0, .slice none 0 0, .slice none 0 0] 63 (0, 0)) → u.cell? ⟨w.heap.size + 1 + 1, 0, none⟩ = some (.slice no k nc)) := fun u hb => cell_of_row _ _ 0 _ _ _ hb
      refine AllReadyH.cons (o := _) rfl (fun K hK => ?_) ?_
      · have e1 := HO1.out _ HGd.out.out
        go_simp
        clear e1
        refine hK.out _ _ (HSS.out _ HGd.out.below HGd.out.box) (fun hHeld => ?_)
        clear hK K
        try simp only [Act.put, List.getElem_toArray, List.getElem_cons_succ, List.getElem_cons_zero, List.setIfInBounds_toArray, List.set_cons_zero, List.set_cons_succ]
        refine wpAnyH_ready (rs := [7]) (by kernel_rfl) (by simp) ?_
        refine AllReadyH.cons (o := _) rfl (fun K hK => ?_) AllReadyH.nil
        have HG9 := Hid.mk (HGd.out.keep (below1 WD (.cells #[.string Y] 9)))
        go_simp
        try rw [HDq.out]
        refine hK.out _ _ (HSS.out _ HG9.out.below HG9.out.box) (fun hHeld => ?_)
        clear hK K
        try simp only [Act.put, List.getElem_toArray, List.getElem_cons_succ, List.getElem_cons_zero, List.setIfInBounds_toArray, List.set_cons_zero, List.set_cons_succ]
        refine wpAnyH_ready (rs := [8]) (by kernel_rfl) (by simp) ?_
        refine AllReadyH.cons (o := _) rfl (fun K hK => ?_) AllReadyH.nil
        refine step_append_lies _ (by rfl) _ _ _ (by rfl) W1.heap.size 9 j0 (.string ⟨#[]⟩) 1 16 Tryz.underlying23 hj0 hy0 hy1 hy2 rfl (by decide) (.slice no k nc) k _ (by rfl) (HGd.out.nms.alloc _) ⟨WD.heap.size, 0, none⟩ 1 1 [.string Y] (by rfl) (by rfl) (World.news_of_block (cs := #[.string Y]) (t := 9) (fr := (0, 0)) (heap_alloc_new WD _)) (by simp [Value.oneCell']) (by omega) (by unfold maxLen; omega) (by omega) (by have := HGd.out.le; simp; omega) (WD.heap.size + 1) (by simp) ?_
        intro g1 nc1 w4 hown4 hgrow4 hat4 hlt4
        obtain ⟨hG5, ho4⟩ := FdR.up1 HYk.out HGd.out hgrow4 hown4 (hat4.imp (fun e => e.symm) (fun e => by simp [Value.ownBlock, e]))
        have hfr5 := FrI.over (B := w.heap.size + 2) (i := 0) (x := .slice (some ⟨g1, 0, none⟩) (k + 1) nc1) HFr.out hgrow4 (fun g e => .inl (HNo.out g e)) (by have := HWr.out; have := HG.out.lo; omega)
        have hbf5 := box_over (B := w.heap.size + 2) (i := 0) (x := .slice (some ⟨g1, 0, none⟩) (k + 1) nc1) HBf.out hgrow4 (fun g e => by have := HNo.out g e; have := HFb.out; omega) (by have := HFb.out; have := HWr.out; have := HG.out.lo; omega)
        have hb4 : Below w.heap.size w w4 := (HGd.out.below.alloc HGd.out.below.size _).grown hgrow4 (by have := HGd.out.below.size; simp; omega) (fun r e => by obtain ⟨_, _, h2⟩ := own_cellsF HGd.out.nms e; have := HGd.out.lo; omega)
        have bx4 : w4.heap[w.heap.size]? = some (.cells #[.int .i64 6, .string nm, .string tx, .slice (some ⟨ib, ioff, none⟩) NK icap, .slice (some ⟨kb, koff, none⟩) NK kcap] 25 (0, 0)) := (Below.heap_setCell _ _ _ _ (by show w.heap.size ≠ w.heap.size + 2; omega)).symm.trans hG5.box
        have b44 : w4.cell? ⟨w.heap.size + 1 + 1, 0, none⟩ = some (.slice no k nc) := cell_of_row _ _ 0 _ _ _ ho4
        have f44 : w4.frozen? ⟨w.heap.size + 1 + 1, 0, none⟩ = false := frozen_row9 (j := 0) ho4
        obtain ⟨W5, hW5⟩ : ∃ W5, w4.setCell ⟨w.heap.size + 1 + 1, 0, none⟩ (.slice (some ⟨g1, 0, none⟩) (k + 1) nc1) = W5 := ⟨_, rfl⟩
        have HG5 : Hid (FdR w W1 h #[.int .i64 6, .string nm, .string tx, .slice (some ⟨ib, ioff, none⟩) NK icap, .slice (some ⟨kb, koff, none⟩) NK kcap] (ks.map .string) (its.map (nrN h)) (k + 1) k k (.slice (some ⟨g1, 0, none⟩) (k + 1) nc1) (.slice fo k fc) (.slice mo k mc) fs W5) := by show FdR _ _ _ _ _ _ _ _ _ _ _ _ _ _; rw [← hW5]; exact hG5
        have HFr5 : Hid (FrI wr.heap.size w6.heap.size W5 (h + 2) (nrN h its[k]) (.agg #[.bool ta, .bool tb, .bool tc, .bool td, .slice teo ten tec, .bool tf, .slice tgo tgn tgc, .slice tio tinn tic, .slice tjo tjn tjc])) := by show FrI _ _ _ _ _ _; rw [← hW5]; exact hfr5
        have HBf5 : Hid (W5.heap[Fb]? = some (.cells #[.bool ta, .bool tb, .bool tc, .bool td, .slice teo ten tec, .bool tf, .slice tgo tgn tgc, .slice tio tinn tic, .slice tjo tjn tjc] 32 (0, 0))) := by show _ = _; rw [← hW5]; exact hbf5
        have HNg : Hid (outI wr.heap.size w6.heap.size (.slice (some ⟨g1, 0, none⟩) (k + 1) nc1)) := fun g e => by
          have e' : g1 = g := by simpa [Value.ownBlock] using e
          subst e'
          rcases hat4 with q | q
          · exact .inl (HNo.out _ (by first | exact q | exact q.symm | simpa [Value.ownBlock] using q))
          · right; have := HFb.out; have := lt_of_row HBf.out; omega
        have HWq := Hid.mk hW5
        refine hK.out _ _ (HSS.out _ hb4 bx4) (fun hHeld => ?_)
        clear hK K hG5 ho4 hown4 hgrow4 hat4 hlt4 hW5 hb4 bx4 hfr5 hbf5
        try simp only [Act.put, List.getElem_toArray, List.getElem_cons_succ, List.getElem_cons_zero, List.setIfInBounds_toArray, List.set_cons_zero, List.set_cons_succ]
        refine wpAnyH_take (i := 9) (oi := _) (v := .pointer (some ⟨w.heap.size + 1 + 1, 0, none⟩)) rfl (by kernel_rfl) (by kernel_rfl) (by kernel_rfl) (fun _ _ _ h => h) (Or.inl ⟨by rfl, ?_⟩) (by assumption) ?_
        · intro w hSw
          go_simp
        try simp only [Act.put, List.getElem_toArray, List.getElem_cons_succ, List.getElem_cons_zero, List.setIfInBounds_toArray, List.set_cons_zero, List.set_cons_succ]
        refine wpAnyH_ready (rs := [10]) (by kernel_rfl) (by simp) ?_
        refine AllReadyH.cons (o := _) rfl (fun K hK => ?_) AllReadyH.nil
        go_simp
        try rw [HWq.out]
        clear HWq b44 f44
        refine hK.out _ _ (HSS.out _ HG5.out.below HG5.out.box) (fun hHeld => ?_)
        clear hK K
        try simp only [Act.put, List.getElem_toArray, List.getElem_cons_succ, List.getElem_cons_zero, List.setIfInBounds_toArray, List.set_cons_zero, List.set_cons_succ]
        refine wpAnyH_done (by kernel_rfl) ?_ _
        try simp only [Act.put, List.getElem_toArray, List.getElem_cons_succ, List.getElem_cons_zero, List.setIfInBounds_toArray, List.set_cons_zero, List.set_cons_succ]
        exact KEY _ _ _ ⟨HG5.out, HFr5.out, HBf5.out, HNg.out⟩
      refine AllReadyH.cons (o := _) rfl (fun K hK => ?_) AllReadyH.nil
      have HG9 := Hid.mk (HGd.out.keep (below1 WD (.cells #[.string Y] 9)))
      go_simp
      try rw [HDq.out]
      refine hK.out _ _ (HSS.out _ HG9.out.below HG9.out.box) (fun hHeld => ?_)
      clear hK K
      try simp only [Act.put, List.getElem_toArray, List.getElem_cons_succ, List.getElem_cons_zero, List.setIfInBounds_toArray, List.set_cons_zero, List.set_cons_succ]
      refine wpAnyH_ready (rs := [1]) (by kernel_rfl) (by simp) ?_
      refine AllReadyH.cons (o := _) rfl (fun K hK => ?_) AllReadyH.nil
      have e1 := HO1.out _ HG9.out.out
      go_simp
      clear e1
      refine hK.out _ _ (HSS.out _ HG9.out.below HG9.out.box) (fun hHeld => ?_)
      clear hK K
      try simp only [Act.put, List.getElem_toArray, List.getElem_cons_succ, List.getElem_cons_zero, List.setIfInBounds_toArray, List.set_cons_zero, List.set_cons_succ]
      refine wpAnyH_ready (rs := [8]) (by kernel_rfl) (by simp) ?_
      refine AllReadyH.cons (o := _) rfl (fun K hK => ?_) AllReadyH.nil
      refine step_append_lies _ (by rfl) _ _ _ (by rfl) W1.heap.size 9 j0 (.string ⟨#[]⟩) 1 16 Tryz.underlying23 hj0 hy0 hy1 hy2 rfl (by decide) (.slice no k nc) k _ (by rfl) (HGd.out.nms.alloc _) ⟨WD.heap.size, 0, none⟩ 1 1 [.string Y] (by rfl) (by rfl) (World.news_of_block (cs := #[.string Y]) (t := 9) (fr := (0, 0)) (heap_alloc_new WD _)) (by simp [Value.oneCell']) (by omega) (by unfold maxLen; omega) (by omega) (by have := HGd.out.le; simp; omega) (WD.heap.size + 1) (by simp) ?_
      intro g1 nc1 w4 hown4 hgrow4 hat4 hlt4
      obtain ⟨hG5, ho4⟩ := FdR.up1 HYk.out HGd.out hgrow4 hown4 (hat4.imp (fun e => e.symm) (fun e => by simp [Value.ownBlock, e]))
      have hfr5 := FrI.over (B := w.heap.size + 2) (i := 0) (x := .slice (some ⟨g1, 0, none⟩) (k + 1) nc1) HFr.out hgrow4 (fun g e => .inl (HNo.out g e)) (by have := HWr.out; have := HG.out.lo; omega)
      have hbf5 := box_over (B := w.heap.size + 2) (i := 0) (x := .slice (some ⟨g1, 0, none⟩) (k + 1) nc1) HBf.out hgrow4 (fun g e => by have := HNo.out g e; have := HFb.out; omega) (by have := HFb.out; have := HWr.out; have := HG.out.lo; omega)
      have hb4 : Below w.heap.size w w4 := (HGd.out.below.alloc HGd.out.below.size _).grown hgrow4 (by have := HGd.out.below.size; simp; omega) (fun r e => by obtain ⟨_, _, h2⟩ := own_cellsF HGd.out.nms e; have := HGd.out.lo; omega)
      have bx4 : w4.heap[w.heap.size]? = some (.cells #[.int .i64 6, .string nm, .string tx, .slice (some ⟨ib, ioff, none⟩) NK icap, .slice (some ⟨kb, koff, none⟩) NK kcap] 25 (0, 0)) := (Below.heap_setCell _ _ _ _ (by show w.heap.size ≠ w.heap.size + 2; omega)).symm.trans hG5.box
      have b44 : w4.cell? ⟨w.heap.size + 1 + 1, 0, none⟩ = some (.slice no k nc) := cell_of_row _ _ 0 _ _ _ ho4
      have f44 : w4.frozen? ⟨w.heap.size + 1 + 1, 0, none⟩ = false := frozen_row9 (j := 0) ho4
      obtain ⟨W5, hW5⟩ : ∃ W5, w4.setCell ⟨w.heap.size + 1 + 1, 0, none⟩ (.slice (some ⟨g1, 0, none⟩) (k + 1) nc1) = W5 := ⟨_, rfl⟩
      have HG5 : Hid (FdR w W1 h #[.int .i64 6, .string nm, .string tx, .slice (some ⟨ib, ioff, none⟩) NK icap, .slice (some ⟨kb, koff, none⟩) NK kcap] (ks.map .string) (its.map (nrN h)) (k + 1) k k (.slice (some ⟨g1, 0, none⟩) (k + 1) nc1) (.slice fo k fc) (.slice mo k mc) fs W5) := by show FdR _ _ _ _ _ _ _ _ _ _ _ _ _ _; rw [← hW5]; exact hG5
      have HFr5 : Hid (FrI wr.heap.size w6.heap.size W5 (h + 2) (nrN h its[k]) (.agg #[.bool ta, .bool tb, .bool tc, .bool td, .slice teo ten tec, .bool tf, .slice tgo tgn tgc, .slice tio tinn tic, .slice tjo tjn tjc])) := by show FrI _ _ _ _ _ _; rw [← hW5]; exact hfr5
      have HBf5 : Hid (W5.heap[Fb]? = some (.cells #[.bool ta, .bool tb, .bool tc, .bool td, .slice teo ten tec, .bool tf, .slice tgo tgn tgc, .slice tio tinn tic, .slice tjo tjn tjc] 32 (0, 0))) := by show _ = _; rw [← hW5]; exact hbf5
      have HNg : Hid (outI wr.heap.size w6.heap.size (.slice (some ⟨g1, 0, none⟩) (k + 1) nc1)) := fun g e => by
        have e' : g1 = g := by simpa [Value.ownBlock] using e
        subst e'
        rcases hat4 with q | q
        · exact .inl (HNo.out _ (by first | exact q | exact q.symm | simpa [Value.ownBlock] using q))
        · right; have := HFb.out; have := lt_of_row HBf.out; omega
      have HWq := Hid.mk hW5
      refine hK.out _ _ (HSS.out _ hb4 bx4) (fun hHeld => ?_)
      clear hK K hG5 ho4 hown4 hgrow4 hat4 hlt4 hW5 hb4 bx4 hfr5 hbf5
      try simp only [Act.put, List.getElem_toArray, List.getElem_cons_succ, List.getElem_cons_zero, List.setIfInBounds_toArray, List.set_cons_zero, List.set_cons_succ]
      refine wpAnyH_take (i := 9) (oi := _) (v := .pointer (some ⟨w.heap.size + 1 + 1, 0, none⟩)) rfl (by kernel_rfl) (by kernel_rfl) (by kernel_rfl) (fun _ _ _ h => h) (Or.inl ⟨by rfl, ?_⟩) (by assumption) ?_
      · intro w hSw
        go_simp
      try simp only [Act.put, List.getElem_toArray, List.getElem_cons_succ, List.getElem_cons_zero, List.setIfInBounds_toArray, List.set_cons_zero, List.set_cons_succ]
      refine wpAnyH_ready (rs := [10]) (by kernel_rfl) (by simp) ?_
      refine AllReadyH.cons (o := _) rfl (fun K hK => ?_) AllReadyH.nil
      go_simp
      try rw [HWq.out]
      clear HWq b44 f44
      refine hK.out _ _ (HSS.out _ HG5.out.below HG5.out.box) (fun hHeld => ?_)
      clear hK K
      try simp only [Act.put, List.getElem_toArray, List.getElem_cons_succ, List.getElem_cons_zero, List.setIfInBounds_toArray, List.set_cons_zero, List.set_cons_succ]
      refine wpAnyH_done (by kernel_rfl) ?_ _
      try simp only [Act.put, List.getElem_toArray, List.getElem_cons_succ, List.getElem_cons_zero, List.setIfInBounds_toArray, List.set_cons_zero, List.set_cons_succ]
      exact KEY _ _ _ ⟨HG5.out, HFr5.out, HBf5.out, HNg.out⟩
      case key =>
        intro g1 nc1 W5 HS5
        obtain ⟨hG5, hfr5, hbf5, hng5⟩ := HS5
        have HG5 := Hid.mk hG5
        have HFr5 := Hid.mk hfr5
        have HNg := Hid.mk hng5
        have b1 : W5.cell? ⟨w.heap.size + 1 + 1, 1, none⟩ = some (.slice fo k fc) := cell_of_row _ _ 1 _ _ _ hG5.out
        have q0 := cell_of_row _ _ 0 _ _ _ hbf5
        have q1 := cell_of_row _ _ 1 _ _ _ hbf5
        have q2 := cell_of_row _ _ 2 _ _ _ hbf5
        have q3 := cell_of_row _ _ 3 _ _ _ hbf5
        have q4 := cell_of_row _ _ 4 _ _ _ hbf5
        have q5 := cell_of_row _ _ 5 _ _ _ hbf5
        have q6 := cell_of_row _ _ 6 _ _ _ hbf5
        have q7 := cell_of_row _ _ 7 _ _ _ hbf5
        have q8 := cell_of_row _ _ 8 _ _ _ hbf5
        have hGf := hG5.fds
        have hle5 : W1.heap.size ≤ W5.heap.size := hG5.le
        clear hG5 hfr5 hng5 hbf5
        go_wp2_with (at_builtin; refine wpList_append_own_at _ (by rfl) _ _ 60 (by rfl) W1.heap.size 32 i0 (.agg #[.bool false, .bool false, .bool false, .bool false, .slice none 0 0, .bool false, .slice none 0 0, .slice none 0 0, .slice none 0 0]) 9 112 Tryz.underlying60 hi0 hz0 hz1 hz2 rfl (by decide) _ _ _ (by rfl) (hGf.alloc _) ⟨W5.heap.size, 0, none⟩ 1 1 [.bool ta, .bool tb, .bool tc, .bool td, .slice teo ten tec, .bool tf, .slice tgo tgn tgc, .slice tio tinn tic, .slice tjo tjn tjc] (by rfl) (by rfl) (World.news_of_block (cs := #[.bool ta, .bool tb, .bool tc, .bool td, .slice teo ten tec, .bool tf, .slice tgo tgn tgc, .slice tio tinn tic, .slice tjo tjn tjc]) (fr := (0, 0)) (heap_alloc_new W5 _)) (by simp [Value.oneCell']) (by unfold maxLen; omega) (by omega) (by simp; omega) ?_)
        intro v' w7 hown7 hgrow7 hnil7 hat7
        obtain ⟨g2, fc2, rfl⟩ := own_succF hown7
        obtain ⟨hG8, ho7⟩ := FdR.up2 HTk.out HLe.out HFr5.out HNg.out HOf.out HOm.out HG5.out hgrow7 hown7 (by simpa using hat7)
        have b77 : w7.cell? ⟨w.heap.size + 1 + 1, 1, none⟩ = some (.slice fo k fc) := cell_of_row _ _ 1 _ _ _ ho7
        have f77 : w7.frozen? ⟨w.heap.size + 1 + 1, 1, none⟩ = false := frozen_row9 (j := 1) ho7
        obtain ⟨W8, hW8⟩ : ∃ W8, w7.setCell ⟨w.heap.size + 1 + 1, 1, none⟩ (.slice (some ⟨g2, 0, none⟩) (k + 1) fc2) = W8 := ⟨_, rfl⟩
        have hG8' : FdR w W1 h #[.int .i64 6, .string nm, .string tx, .slice (some ⟨ib, ioff, none⟩) NK icap, .slice (some ⟨kb, koff, none⟩) NK kcap] (ks.map .string) (its.map (nrN h)) (k + 1) (k + 1) k (.slice (some ⟨g1, 0, none⟩) (k + 1) nc1) (.slice (some ⟨g2, 0, none⟩) (k + 1) fc2) (.slice mo k mc) (fs ++ [[.bool ta, .bool tb, .bool tc, .bool td, .slice teo ten tec, .bool tf, .slice tgo tgn tgc, .slice tio tinn tic, .slice tjo tjn tjc]]) W8 := by rw [← hW8]; exact hG8
        have HG8 := Hid.mk hG8'
        have b2 : W8.cell? ⟨w.heap.size + 1 + 1, 2, none⟩ = some (.slice mo k mc) := cell_of_row _ _ 2 _ _ _ hG8'.out
        have hGm := hG8'.mst
        have hle8 : W1.heap.size ≤ W8.heap.size := hG8'.le
        clear hG8 hG8' ho7 hown7 hgrow7 hnil7 hat7 b1 hGf HG5 HFr5 HNg q0 q1 q2 q3 q4 q5 q6 q7 q8
        go_wp2_with (at_builtin; refine wpList_append_own_at _ (by rfl) _ _ 61 (by rfl) W1.heap.size 4 l0 (.bool false) 1 1 Tryz.underlying61 hl0 hx0 hx1 hx2 rfl (by decide) _ _ _ (by rfl) (hGm.alloc _) ⟨W8.heap.size, 0, none⟩ 1 1 [.bool true] (by rfl) (by rfl) (World.news_of_block (cs := #[.bool true]) (fr := (0, 0)) (heap_alloc_new W8 _)) (by simp [Value.oneCell']) (by unfold maxLen; omega) (by omega) (by simp; omega) ?_)
        intro v' w9 hown9 hgrow9 hnil9 hat9
        obtain ⟨g3, mc3, rfl⟩ := own_succF hown9
        obtain ⟨hGa, ho9⟩ := FdR.up3 HG8.out hgrow9 hown9 (by simpa using hat9)
        have b99 : w9.cell? ⟨w.heap.size + 1 + 1, 2, none⟩ = some (.slice mo k mc) := cell_of_row _ _ 2 _ _ _ ho9
        have f99 : w9.frozen? ⟨w.heap.size + 1 + 1, 2, none⟩ = false := frozen_row9 (j := 2) ho9
        have HGa := Hid.mk hGa
        clear hGa ho9 hown9 hgrow9 hnil9 hat9 b2 hGm HG8 hW8 b77 f77
        go_wp2_with fail
        go_roundw
        case rel => exact ⟨k + 1, hlt, by go_num, ⟨_, _, _, _, _, _, _, HGa.out⟩⟩
        case measure => simp [intOf]; omega
    · obtain rfl : k = NK := by omega
      have hl1 : ¬ (k : Int) < (k : Int) := by omega
      have HE := Hid.mk (fdr_end HG.out HKK.out (by rw [List.length_map, HNN.out]) (by omega) HSz.out)
      have hou := hG.out
      obtain ⟨W5, hW5⟩ : ∃ W5, wr.alloc (.cells #[.slice no k nc, .slice fo k fc, .slice mo k mc, .bool false, .bool false, .bool false, .bool false, .slice none 0 0, .bool false, .slice none 0 0, .slice none 0 0, .slice none 0 0] 63) = W5 := ⟨_, rfl⟩
      obtain ⟨B5, hB5⟩ : ∃ B5, wr.heap.size = B5 := ⟨_, rfl⟩
      have hb5 : Below wr.heap.size wr W5 := by rw [← hW5]; exact below1 wr _
      have HN5 : Hid (W5.heap[B5]? = some (.cells #[.slice no k nc, .slice fo k fc, .slice mo k mc, .bool false, .bool false, .bool false, .bool false, .slice none 0 0, .bool false, .slice none 0 0, .slice none 0 0, .slice none 0 0] 63 (0, 0))) := by show _ = _; rw [← hW5, ← hB5]; exact World.alloc_heap_new wr _
      have HB5 := Hid.mk (hG.below.trans (hb5.mono hG.below.size))
      have HR5 : Hid (W5.heap[w.heap.size + 1]? = _) := (hb5.block _ (lt_of_row hG.res)).trans hG.res
      have HF5 := Hid.mk (fr_obj HE.out hb5 (by omega) HN5.out)
      have z0 : wr.cell? ⟨w.heap.size + 1 + 1, 0, none⟩ = _ := cell_of_row _ _ 0 _ _ _ hou
      have z1 : wr.cell? ⟨w.heap.size + 1 + 1, 1, none⟩ = _ := cell_of_row _ _ 1 _ _ _ hou
      have z2 : wr.cell? ⟨w.heap.size + 1 + 1, 2, none⟩ = _ := cell_of_row _ _ 2 _ _ _ hou
      have z3 : wr.cell? ⟨w.heap.size + 1 + 1, 3, none⟩ = _ := cell_of_row _ _ 3 _ _ _ hou
      have z4 : wr.cell? ⟨w.heap.size + 1 + 1, 4, none⟩ = _ := cell_of_row _ _ 4 _ _ _ hou
      have z5 : wr.cell? ⟨w.heap.size + 1 + 1, 5, none⟩ = _ := cell_of_row _ _ 5 _ _ _ hou
      have z6 : wr.cell? ⟨w.heap.size + 1 + 1, 6, none⟩ = _ := cell_of_row _ _ 6 _ _ _ hou
      have z7 : wr.cell? ⟨w.heap.size + 1 + 1, 7, none⟩ = _ := cell_of_row _ _ 7 _ _ _ hou
      have z8 : wr.cell? ⟨w.heap.size + 1 + 1, 8, none⟩ = _ := cell_of_row _ _ 8 _ _ _ hou
      have z9 : wr.cell? ⟨w.heap.size + 1 + 1, 9, none⟩ = _ := cell_of_row _ _ 9 _ _ _ hou
      have z10 : wr.cell? ⟨w.heap.size + 1 + 1, 10, none⟩ = _ := cell_of_row _ _ 10 _ _ _ hou
      have z11 : wr.cell? ⟨w.heap.size + 1 + 1, 11, none⟩ = _ := cell_of_row _ _ 11 _ _ _ hou
      clear hou hG hb5
      have g0 := cell_of_row _ _ 0 _ _ _ HR5.out
      have f0 := frozen_row9 (j := 0) HR5.out
      have g1 := cell_of_row _ _ 1 _ _ _ HR5.out
      have f1 := frozen_row9 (j := 1) HR5.out
      have g2 := cell_of_row _ _ 2 _ _ _ HR5.out
      have f2 := frozen_row9 (j := 2) HR5.out
      have g3 := cell_of_row _ _ 3 _ _ _ HR5.out
      have f3 := frozen_row9 (j := 3) HR5.out
      have g4 := cell_of_row _ _ 4 _ _ _ HR5.out
      have f4 := frozen_row9 (j := 4) HR5.out
      have g5 := cell_of_row _ _ 5 _ _ _ HR5.out
      have f5 := frozen_row9 (j := 5) HR5.out
      have g6 := cell_of_row _ _ 6 _ _ _ HR5.out
      have f6 := frozen_row9 (j := 6) HR5.out
      have g7 := cell_of_row _ _ 7 _ _ _ HR5.out
      have f7 := frozen_row9 (j := 7) HR5.out
      have g8 := cell_of_row _ _ 8 _ _ _ HR5.out
      have f8 := frozen_row9 (j := 8) HR5.out
      go_wp2_with fail
      (try simp only [Exit.inBlock, Exit.then])
      generalize hz9 : ((((((((W5.setCell ⟨w.heap.size + 1, 0, none⟩ (.bool false)).setCell ⟨w.heap.size + 1, 1, none⟩ (.bool false)).setCell ⟨w.heap.size + 1, 2, none⟩ (.bool false)).setCell ⟨w.heap.size + 1, 3, none⟩ (.bool false)).setCell ⟨w.heap.size + 1, 4, none⟩ (.slice none 0 0)).setCell ⟨w.heap.size + 1, 5, none⟩ (.bool false)).setCell ⟨w.heap.size + 1, 6, none⟩ (.slice none 0 0)).setCell ⟨w.heap.size + 1, 7, none⟩ (.slice none 0 0)).setCell ⟨w.heap.size + 1, 8, none⟩ (.slice (some ⟨B5, 0, none⟩) 1 1) = wz
      obtain ⟨e7, k7, s7⟩ := rbox_set9 W5 _ _ _ _ _ _ _ _ _ _ _ _ _ _ _ _ _ _ _ _ (HR5.out) wz hz9.symm
      have d0 := cell_of_row _ _ 0 _ _ _ e7
      have d1 := cell_of_row _ _ 1 _ _ _ e7
      have d2 := cell_of_row _ _ 2 _ _ _ e7
      have d3 := cell_of_row _ _ 3 _ _ _ e7
      have d4 := cell_of_row _ _ 4 _ _ _ e7
      have d5 := cell_of_row _ _ 5 _ _ _ e7
      have d6 := cell_of_row _ _ 6 _ _ _ e7
      have d7 := cell_of_row _ _ 7 _ _ _ e7
      have d8 := cell_of_row _ _ 8 _ _ _ e7
      have hbz : Below w.heap.size w wz := by rw [← hz9]; exact (((((((((HB5.out.setCell (p := ⟨w.heap.size + 1, 0, none⟩) (by show w.heap.size ≤ w.heap.size + 1; omega) _).setCell (p := ⟨w.heap.size + 1, 1, none⟩) (by show w.heap.size ≤ w.heap.size + 1; omega) _).setCell (p := ⟨w.heap.size + 1, 2, none⟩) (by show w.heap.size ≤ w.heap.size + 1; omega) _).setCell (p := ⟨w.heap.size + 1, 3, none⟩) (by show w.heap.size ≤ w.heap.size + 1; omega) _).setCell (p := ⟨w.heap.size + 1, 4, none⟩) (by show w.heap.size ≤ w.heap.size + 1; omega) _).setCell (p := ⟨w.heap.size + 1, 5, none⟩) (by show w.heap.size ≤ w.heap.size + 1; omega) _).setCell (p := ⟨w.heap.size + 1, 6, none⟩) (by show w.heap.size ≤ w.heap.size + 1; omega) _).setCell (p := ⟨w.heap.size + 1, 7, none⟩) (by show w.heap.size ≤ w.heap.size + 1; omega) _).setCell (p := ⟨w.heap.size + 1, 8, none⟩) (by show w.heap.size ≤ w.heap.size + 1; omega) _)
      refine bodyPost_ret (v := .agg #[.bool false, .bool false, .bool false, .bool false, .slice none 0 0, .bool false, .slice none 0 0, .slice none 0 0, .slice (some ⟨B5, 0, none⟩) 1 1]) (by simp [results, Tryz.results18, go_sem, d0, d1, d2, d3, d4, d5, d6, d7, d8]) rfl ?_
      exact ⟨⟨_, rfl, Hid.mk ((HF5.out.set s7 (fun b hb => k7 b (by have := HS1.out; omega))).mono (by have := HS1.out; omega))⟩, hbz⟩
end Go.Proofs.YtdjoelhiahpmlaaGreat
