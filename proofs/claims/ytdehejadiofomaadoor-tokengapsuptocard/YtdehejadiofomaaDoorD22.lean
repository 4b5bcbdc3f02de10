import Derived.Test.YtdehejadiofomaaDoorD19
import Derived.BigQuiet
namespace Go.Proofs.YtdehejadiofomaaDoor
open Go.RowKit Go.Shelf
set_option linter.unusedVariables false
set_option linter.unusedSimpArgs false
attribute [local go_sem] Oper.semAt_some

theorem cut_len {l : List UInt8} {a b : Nat} (h : b ≤ l.length) : (cut l a b).length = b - a := by
  unfold cut
  rw [List.length_take, List.length_drop]
  omega
theorem gap_take_len (m k : Nat) {l : List UInt8} (h : ∀ t ∈ allY l, t.err = 0) : (gapW m l 0 ((allY l).take k)).length ≤ (m + 2) * k + l.length := by
  have h1 := gapW_len m l ((allY l).take k) 0
  have h2 := good_sum (allY l) 0 (Nat.zero_le _) (good_all h)
  rw [← List.take_append_drop k (allY l), List.map_append, List.sum_append] at h2
  have h3 : ((allY l).take k).length ≤ k := by rw [List.length_take]; omega
  have h4 := Nat.mul_le_mul_left (m + 2) h3
  omega
theorem ext_cut (s : ByteArray) {a b : Nat} (h : b ≤ s.size) : (s.extract a b).data.toList = cut s.data.toList a b := by
  rw [Lib.extract_data]
  unfold cut
  simp

set_option maxRecDepth 100000 in
set_option maxHeartbeats 6400000 in
theorem w_TokenGaps_a (s : ByteArray) (z : Int) (hA0 : z < 0) (w : World) (ss : s.size ≤ 1048576) (hE : ErrIn w) : Calls Tryd.prog 4 #[.string s, .int .i64 z] w fun e w' => e = .returned (.bool true) ∧ Below w.heap.size w w' := by
  obtain ⟨i0, hi0, hz0, hz1, hz2⟩ := info_parts Tryd.infoTok
  have HE := Hid.mk hE
  have HA := Hid.mk (fun u (h : ErrIn u) => w_Scan s u (by omega) h)
  have HK := Hid.mk (w_lTokenKnown w hE)
  clear hE
  obtain ⟨l, hl⟩ : ∃ l, l = s.data.toList := ⟨_, rfl⟩
  have HL : Hid (l.length = s.size) := by show _ = _; rw [hl]; exact size_lst s
  have HX : Hid (∀ a b, b ≤ s.size → (s.extract a b).data.toList = cut l a b) := fun a b h => by rw [hl]; exact ext_cut s h
  rw [← hl] at HA
  clear hl
  go_enter Tryd.func4, Tryd.ntmps4
  go_wp2_with fail
  refine HK.out.mono ?_
  rintro e w0 ⟨rfl, hb0⟩
  have HB0 := Hid.mk hb0
  clear hb0 HK
  go_wp2_with fail
  refine (HA.out w0 (HE.out.keep HB0.out)).mono ?_
  rintro e w1 ⟨⟨ha, so1, sc1, rfl, HR1⟩ | ⟨pre1, x1, ha1, hx1, rfl⟩, hb1⟩
  · have HB1 := Hid.mk (HB0.out.trans (hb1.mono HB0.out.size))
    have HAll := Hid.mk ha
    have HG := Hid.mk (good_mem _ _ (good_all ha))
    obtain ⟨t1, c1⟩ := trow_own HR1.out
    have T1 := Hid.mk t1
    have hl1 := allY_len l
    rw [HL.out] at hl1
    obtain ⟨N, hN⟩ : ∃ N, N = (allY l).length := ⟨_, rfl⟩
    rw [← hN] at c1 hl1 ⊢
    have HN := Hid.mk hN
    clear hN t1 hb1 ha HR1 HA
    go_wp2_with fail
    go_loopw [8, 9, 10] (fun wd v i wr => ∃ (k : Nat) (B : ByteArray) (so : Option Addr) (sc : Nat), k ≤ N ∧ wd = .string B ∧ v = .slice so k sc ∧ i = .int .i64 (k : Int) ∧ B.size ≤ 12582912 ∧ w1.heap.size ≤ wr.heap.size ∧ Hid (B.data.toList = gapW 3 l 0 ((allY l).take k)) ∧ Hid (Below w1.heap.size w1 wr ∧ wr.ownsRow w1.heap.size 27 4 (.slice so k sc) k (flT (gapT 3 0 0 ((allY l).take k))))) (fun _ _ i _ => N - (intOf i).toNat)
    case atStart => exact ⟨0, ⟨#[]⟩, none, 0, Nat.zero_le _, rfl, rfl, rfl, by decide, Nat.le_refl _, rfl, Below.refl _ _, World.ownsRow_nil _ _ _ _⟩
    case round =>
      obtain ⟨k, B, so, sc, hk, rfl, rfl, rfl, hBs, hws, HBl, HQ⟩ := hrel
      by_cases hlt : k < N
      · have hi1 : (k : Int) < (N : Int) := by omega
        have hi0' : (0 : Int) ≤ (k : Int) := by omega
        have hk2 : k < (allY l).length := by rw [← HN.out]; exact hlt
        obtain ⟨g, off, rfl, hg, a0, a1, a2, a3⟩ := (T1.out.keep HQ.out.1) k hk2
        have hgm := HG.out (allY l)[k] (List.getElem_mem hk2)
        rw [HL.out] at hgm
        have hlen := gap_take_len 3 k HAll.out
        have hlen2 := gap_take_len 3 (k + 1) HAll.out
        have hlens : (allY l).take (k + 1) = (allY l).take k ++ [(allY l)[k]] := by rw [List.take_add_one, List.getElem?_eq_getElem hk2]; rfl
        have htk : ((allY l).take k).length = k := by rw [List.length_take]; omega
        have hgw := gapW_snoc 3 l (allY l)[k] ((allY l).take k) 0
        have hgt := gapT_snoc 3 l (allY l)[k] ((allY l).take k) 0 0 (fun x hx => cut_len (HG.out x (List.mem_of_mem_take hx)).2)
        rw [htk, Nat.zero_add] at hgw hgt
        rw [← hlens] at hgw hgt
        rw [Nat.zero_add] at hgt
        have HGW := Hid.mk hgw
        have HGT := Hid.mk hgt
        have HBz : Hid (B.size = (gapW 3 l 0 ((allY l).take k)).length) := by show _ = _; rw [← HBl.out]; exact (size_lst B).symm
        have HL2 := Hid.mk hlen2
        have HC := Hid.mk (cut_len (a := (allY l)[k].at_) (HG.out (allY l)[k] (List.getElem_mem hk2)).2)
        clear hlens hgw hgt htk hlen hlen2
        generalize (allY l)[k] = t at *
        obtain ⟨kd, pa, fi, tx, er⟩ := t
        dsimp only at HGW HGT HC a0 a1 a2 a3 hgm
        obtain ⟨hg1, hg2⟩ := hgm
        have hrow := HQ.out.2
        have f1 : decide ((pa : Int) < 0) = false := decide_eq_false (by omega)
        have f2 : decide ((fi : Int) < (pa : Int)) = false := decide_eq_false (by omega)
        have f3 : decide ((s.size : Int) < (fi : Int)) = false := decide_eq_false (by omega)
        have f4 : decide (fi < pa) = false := decide_eq_false (by omega)
        have f5 : decide (s.size < fi) = false := decide_eq_false (by omega)
        clear hk2
        go_wp2_with fail
        go_quiet (fail)
        go_wp2_with fail
        obtain ⟨wq, hwq⟩ : ∃ wq, wr.drewN nq = wq := ⟨_, rfl⟩
        have HQ2 : Hid (Below w1.heap.size w1 wq ∧ wq.ownsRow w1.heap.size 27 4 (.slice so k sc) k (flT (gapT 3 0 0 ((allY l).take k)))) := by
          rw [← hwq]; exact ⟨belowN HQ.out.1 nq, ownsN HQ.out.2 nq⟩
        have hwsq : w1.heap.size ≤ wq.heap.size := by rw [← hwq, sizeN]; exact hws
        have b0 : wq.cell? ⟨g, off + k * 4, none⟩ = some (.int .i64 (kd : Int)) := by rw [← hwq, cellN]; exact a0
        have b1 : wq.cell? ⟨g, off + k * 4 + 1, none⟩ = some (.int .i64 (pa : Int)) := by rw [← hwq, cellN]; exact a1
        have b2 : wq.cell? ⟨g, off + k * 4 + 2, none⟩ = some (.int .i64 (fi : Int)) := by rw [← hwq, cellN]; exact a2
        have b3 : wq.cell? ⟨g, off + k * 4 + 3, none⟩ = some (.string ⟨tx.toArray⟩) := by rw [← hwq, cellN]; exact a3
        have hgq : g < wq.heap.size := by rw [← hwq, sizeN]; exact hg
        rw [hwq]
        clear hwq HQ hrow a0 a1 a2 a3 hg hws
        refine (w_blanks _ (3 + k % 2 + 1) wq (by omega) (by omega)).mono ?_
        rintro e w4 ⟨Bk, rfl, HBk, hb4⟩
        have c0 := (hb4.cell (p := ⟨g, off + k * 4, none⟩) hgq).trans b0
        have c1' := (hb4.cell (p := ⟨g, off + k * 4 + 1, none⟩) hgq).trans b1
        have c2 := (hb4.cell (p := ⟨g, off + k * 4 + 2, none⟩) hgq).trans b2
        have c3 := (hb4.cell (p := ⟨g, off + k * 4 + 3, none⟩) hgq).trans b3
        have HQ4 : Hid (Below w1.heap.size w1 w4 ∧ w4.ownsRow w1.heap.size 27 4 (.slice so k sc) k (flT (gapT 3 0 0 ((allY l).take k)))) := ⟨HQ2.out.1.trans (hb4.mono hwsq), below_row hb4 HQ2.out.2⟩
        have hws4 : w1.heap.size ≤ w4.heap.size := Nat.le_trans hwsq hb4.size
        have HBks : Hid (Bk.size = 3 + k % 2 + 1) := by show _ = _; rw [← size_lst, HBk.out, blk_len]
        have hBks : Bk.size ≤ 11 := by rw [HBks.out]; omega
        have hg4 : g < w4.heap.size := Nat.lt_of_lt_of_le hgq hb4.size
        clear hb4 b0 b1 b2 b3 HQ2 hgq hwsq
        go_wp2_with fail
        have h0 : (0 : Int) ≤ (pa : Int) := by omega
        have h1 : (pa : Int) ≤ (fi : Int) := by omega
        have h2 : (fi : Int) ≤ (s.size : Int) := by omega
        have HX1 := Hid.mk (HX.out pa fi hg2)
        have hxs : (s.extract pa fi).size ≤ 1048576 := by rw [ByteArray.size_extract]; omega
        obtain ⟨W8, hW8⟩ : ∃ W8, w4.alloc (.cells #[.int .i64 (kd : Int), .int .i64 ((B.size : Int) + (Bk.size : Int)), .int .i64 (fi : Int), .string ⟨tx.toArray⟩] 27) = W8 := ⟨_, rfl⟩
        have hbx : W8.heap[w4.heap.size]? = some (.cells #[.int .i64 (kd : Int), .int .i64 ((B.size : Int) + (Bk.size : Int)), .int .i64 (fi : Int), .string ⟨tx.toArray⟩] 27 (0, 0)) := by rw [← hW8]; exact heap_alloc_new _ _
        have d1 : W8.cell? ⟨g, off + k * 4 + 1, none⟩ = some (.int .i64 (pa : Int)) := by rw [← hW8]; exact ((below1 w4 _).cell (p := ⟨g, off + k * 4 + 1, none⟩) hg4).trans c1'
        have d2 : W8.cell? ⟨g, off + k * 4 + 2, none⟩ = some (.int .i64 (fi : Int)) := by rw [← hW8]; exact ((below1 w4 _).cell (p := ⟨g, off + k * 4 + 2, none⟩) hg4).trans c2
        have hs8 : W8.heap.size = w4.heap.size + 1 := by rw [← hW8]; simp
        have HQ8 : Hid (Below w1.heap.size w1 W8 ∧ W8.ownsRow w1.heap.size 27 4 (.slice so k sc) k (flT (gapT 3 0 0 ((allY l).take k)))) := by rw [← hW8]; exact ⟨HQ4.out.1.alloc hws4 _, HQ4.out.2.alloc _⟩
        have HOB : Hid (∀ b, (Value.slice so k sc).ownBlock = some b → b < w4.heap.size) := own_ltT HQ4.out.2
        rw [hW8]
        have HS8 := Hid.mk hs8
        have HBX := Hid.mk hbx
        clear hW8 c0 c1' c2 c3 HQ4 hs8 hbx hg4
        go_quiet (fail)
        obtain ⟨w8, hw8⟩ : ∃ w8, W8.drewN nq = w8 := ⟨_, rfl⟩
        have HQ9 : Hid (Below w1.heap.size w1 w8 ∧ w8.ownsRow w1.heap.size 27 4 (.slice so k sc) k (flT (gapT 3 0 0 ((allY l).take k)))) := by
          rw [← hw8]; exact ⟨belowN HQ8.out.1 nq, ownsN HQ8.out.2 nq⟩
        have HBX2 : Hid (w8.heap[w4.heap.size]? = some (.cells #[.int .i64 (kd : Int), .int .i64 ((B.size : Int) + (Bk.size : Int)), .int .i64 (fi : Int), .string ⟨tx.toArray⟩] 27 (0, 0))) := by show _ = _; rw [← hw8, heapN]; exact HBX.out
        have HS9 : Hid (w8.heap.size = w4.heap.size + 1) := by show _ = _; rw [← hw8, sizeN]; exact HS8.out
        rw [hw8]
        clear hw8 HBX HQ8 d1 d2 HS8
        generalize s.extract pa fi = X at *
        obtain ⟨k0, k1, k2, k3, g0, g1, g2, g3⟩ := tbox_cells HBX2.out
        have HX2 : Hid (X.size = fi - pa) := by show _ = _; rw [← size_lst, HX1.out]; exact HC.out
        have HE1 : Hid (((B.size + (3 + k % 2 + 1) : Nat) : Int) = (B.size : Int) + (Bk.size : Int)) := by show _ = _; rw [HBks.out]; omega
        have HE2 : Hid (((B.size + (3 + k % 2 + 1) + (fi - pa) : Nat) : Int) = (B.size : Int) + (Bk.size : Int) + (X.size : Int)) := by show _ = _; rw [HBks.out, HX2.out]; omega
        have HT : Hid (flT (gapT 3 0 0 ((allY l).take (k + 1))) = flT (gapT 3 0 0 ((allY l).take k)) ++ [.int .i64 (kd : Int), .int .i64 ((B.size : Int) + (Bk.size : Int)), .int .i64 ((B.size : Int) + (Bk.size : Int) + (X.size : Int)), .string ⟨tx.toArray⟩]) := by
          show _ = _
          rw [HGT.out, flT_snoc, ← HBz.out]
          dsimp only
          rw [HE1.out, HE2.out]
        have HBl2 : Hid ((B ++ Bk ++ X).data.toList = gapW 3 l 0 ((allY l).take (k + 1))) := by
          show _ = _
          rw [HGW.out, ByteArray.data_append, ByteArray.data_append, Array.toList_append, Array.toList_append, HBl.out, HBk.out, HX1.out]
        have HBs2 : Hid ((B ++ Bk ++ X).size ≤ 12582912) := by
          show _ ≤ _
          rw [← size_lst, HBl2.out]
          have h3 := HL2.out
          have h4 := HL.out
          have h5 : (3 + 2) * (k + 1) ≤ 11 * (k + 1) := Nat.mul_le_mul_right _ (by omega)
          omega
        have hws8 : w1.heap.size ≤ w8.heap.size := HQ9.out.1.size
        have hrow : ((w8.setCell ⟨w4.heap.size, 2, none⟩ (.int .i64 ((B.size : Int) + (Bk.size : Int) + (X.size : Int)))).ownsRow w1.heap.size 27 4 (.slice so k sc) k (flT (gapT 3 0 0 ((allY l).take k)))) := own_setT HQ9.out.2 (fun e => Nat.lt_irrefl _ (HOB.out _ e))
        have HBW : Hid (Below w1.heap.size w1 (w8.setCell ⟨w4.heap.size, 2, none⟩ (.int .i64 ((B.size : Int) + (Bk.size : Int) + (X.size : Int))))) := HQ9.out.1.setCell (p := ⟨w4.heap.size, 2, none⟩) hws4 _
        go_wp2_with (at_builtin; go_loud (refine wpList_append_own _ rfl _ _ 22 rfl w1.heap.size 27 i0 (.agg #[.int .i64 0, .int .i64 0, .int .i64 0, .string ⟨#[]⟩]) 4 40 Tryd.underlying22 hi0 hz0 hz1 hz2 rfl (by decide) _ _ _ rfl (hrow.alloc _) ⟨w8.heap.size, 0, none⟩ 1 1 [.int .i64 (kd : Int), .int .i64 ((B.size : Int) + (Bk.size : Int)), .int .i64 ((B.size : Int) + (Bk.size : Int) + (X.size : Int)), .string ⟨tx.toArray⟩] rfl rfl (new4 (t := 27) (by rw [← World.size_setCell w8 ⟨w4.heap.size, 2, none⟩ (.int .i64 ((B.size : Int) + (Bk.size : Int) + (X.size : Int)))]; exact heap_alloc_new _ _)) (by intro u hu; simp at hu; rcases hu with rfl | rfl | rfl | rfl <;> rfl) (by unfold maxLen; omega) (by omega) (by simp; omega) ?_))
        intro v' w5 hown' hgrow _
        obtain ⟨g', cap', rfl⟩ := ownsRow_succ hown'
        have hgs := hgrow.size
        simp at hgs
        have HW5 : Hid (Below w1.heap.size w1 w5 ∧ w5.ownsRow w1.heap.size 27 4 (.slice (some ⟨g', 0, none⟩) (k + 1) cap') (k + 1) (flT (gapT 3 0 0 ((allY l).take (k + 1))))) := ⟨(HBW.out.alloc (by rw [World.size_setCell]; exact hws8) _).grown hgrow (by simp; omega) (fun r e => own_baseT hrow e), by rw [HT.out]; exact hown'⟩
        clear hown' hgrow hrow
        go_wp2_with fail
        go_roundw
        case rel => exact ⟨k + 1, B ++ Bk ++ X, _, _, by omega, rfl, rfl, by go_num, HBs2.out, by omega, HBl2, HW5⟩
        case measure => simp [intOf]; omega
      · have hi1 : ¬ (k : Int) < (N : Int) := by omega
        obtain rfl : k = N := by omega
        have HTK : Hid ((allY l).take k = allY l) := List.take_of_length_le (by rw [HN.out]; exact Nat.le_refl _)
        rw [HTK.out] at HBl HQ
        have HAG := Hid.mk (allY_gap 3 3 HAll.out)
        have HOK := Hid.mk (gap_ok 3 3 HAll.out)
        have HGL : Hid ((gapT 3 0 0 (allY l)).length = k) := by show _ = _; rw [gapT_len]; exact HN.out.symm
        clear HTK HG T1
        go_wp2_with fail
        refine (w_blanks _ 3 wr (by omega) (by omega)).mono ?_
        rintro e w6 ⟨Bq, rfl, HBq, hb6⟩
        have HB6 := Hid.mk (HB1.out.trans ((HQ.out.1.trans (hb6.mono hws)).mono HB1.out.size))
        have HR6 := Hid.mk (below_row hb6 HQ.out.2)
        have hBq : Bq.size ≤ 11 := by rw [← size_lst, HBq.out, blk_len]; omega
        have hsz : (B ++ Bq).size ≤ 16777216 := by rw [ByteArray.size_append]; omega
        have heq : (B ++ Bq).data.toList = gapW 3 l 0 (allY l) ++ blk 3 := by rw [ByteArray.data_append, Array.toList_append, HBl.out, HBq.out]
        have hsc := w_Scan (B ++ Bq) w6 hsz (HE.out.keep HB6.out)
        rw [heq] at hsc
        have HSC := Hid.mk hsc
        clear hsc hb6 heq hsz HQ HBl HBq
        go_wp2_with fail
        refine HSC.out.mono ?_
        rintro e w7 ⟨⟨_, so3, sc3, rfl, HR3⟩ | ⟨pre3, x3, h3, hx3, rfl⟩, hb7⟩
        · have HB7 := Hid.mk (HB6.out.trans (hb7.mono HB6.out.size))
          have hq := below_row hb7 HR6.out
          have hlen : (allY (gapW 3 l 0 (allY l) ++ blk 3)).length = k := by rw [HAG.out]; exact HGL.out
          rw [← HAG.out, ← hlen] at hq
          obtain ⟨tw, cw⟩ := trow_own hq
          obtain ⟨t3, c3⟩ := trow_own HR3.out
          have HST := Hid.mk (w_SameTokens (allY (gapW 3 l 0 (allY l) ++ blk 3)) so3 so sc3 sc w7 (by omega) t3 tw c3 cw)
          rw [hlen] at HST ⊢
          clear hb7 hq hlen tw cw t3 c3 HR3 HSC
          go_wp2_with fail
          refine HST.out.mono ?_
          rintro e w8 ⟨rfl, hb8⟩
          have HB8 := Hid.mk (HB7.out.trans (hb8.mono HB7.out.size))
          clear hb8
          go_wp2_with fail
          go_ret
          exact ⟨rfl, HB8.out⟩
        · exact absurd (HOK.out x3 (by rw [h3]; simp)) hx3
  · have HB1 := Hid.mk (HB0.out.trans (hb1.mono HB0.out.size))
    have hne1 : (((x1.err : Nat) : Int) == 0) = false := by rw [beq_eq_false_iff_ne]; omega
    clear hb1 ha1 hx1
    go_wp2_with fail
    go_ret
    exact ⟨rfl, HB1.out⟩

set_option maxRecDepth 100000 in
set_option maxHeartbeats 6400000 in
theorem w_TokenGaps_b (s : ByteArray) (z : Int) (hA0 : ¬ z < 0) (hA9 : 9 < z) (w : World) (ss : s.size ≤ 1048576) (hE : ErrIn w) : Calls Tryd.prog 4 #[.string s, .int .i64 z] w fun e w' => e = .returned (.bool true) ∧ Below w.heap.size w w' := by
  obtain ⟨i0, hi0, hz0, hz1, hz2⟩ := info_parts Tryd.infoTok
  have HE := Hid.mk hE
  have HA := Hid.mk (fun u (h : ErrIn u) => w_Scan s u (by omega) h)
  have HK := Hid.mk (w_lTokenKnown w hE)
  clear hE
  obtain ⟨l, hl⟩ : ∃ l, l = s.data.toList := ⟨_, rfl⟩
  have HL : Hid (l.length = s.size) := by show _ = _; rw [hl]; exact size_lst s
  have HX : Hid (∀ a b, b ≤ s.size → (s.extract a b).data.toList = cut l a b) := fun a b h => by rw [hl]; exact ext_cut s h
  rw [← hl] at HA
  clear hl
  go_enter Tryd.func4, Tryd.ntmps4
  go_wp2_with fail
  refine HK.out.mono ?_
  rintro e w0 ⟨rfl, hb0⟩
  have HB0 := Hid.mk hb0
  clear hb0 HK
  go_wp2_with fail
  refine (HA.out w0 (HE.out.keep HB0.out)).mono ?_
  rintro e w1 ⟨⟨ha, so1, sc1, rfl, HR1⟩ | ⟨pre1, x1, ha1, hx1, rfl⟩, hb1⟩
  · have HB1 := Hid.mk (HB0.out.trans (hb1.mono HB0.out.size))
    have HAll := Hid.mk ha
    have HG := Hid.mk (good_mem _ _ (good_all ha))
    obtain ⟨t1, c1⟩ := trow_own HR1.out
    have T1 := Hid.mk t1
    have hl1 := allY_len l
    rw [HL.out] at hl1
    obtain ⟨N, hN⟩ : ∃ N, N = (allY l).length := ⟨_, rfl⟩
    rw [← hN] at c1 hl1 ⊢
    have HN := Hid.mk hN
    clear hN t1 hb1 ha HR1 HA
    go_wp2_with fail
    go_loopw [8, 9, 10] (fun wd v i wr => ∃ (k : Nat) (B : ByteArray) (so : Option Addr) (sc : Nat), k ≤ N ∧ wd = .string B ∧ v = .slice so k sc ∧ i = .int .i64 (k : Int) ∧ B.size ≤ 12582912 ∧ w1.heap.size ≤ wr.heap.size ∧ Hid (B.data.toList = gapW 3 l 0 ((allY l).take k)) ∧ Hid (Below w1.heap.size w1 wr ∧ wr.ownsRow w1.heap.size 27 4 (.slice so k sc) k (flT (gapT 3 0 0 ((allY l).take k))))) (fun _ _ i _ => N - (intOf i).toNat)
    case atStart => exact ⟨0, ⟨#[]⟩, none, 0, Nat.zero_le _, rfl, rfl, rfl, by decide, Nat.le_refl _, rfl, Below.refl _ _, World.ownsRow_nil _ _ _ _⟩
    case round =>
      obtain ⟨k, B, so, sc, hk, rfl, rfl, rfl, hBs, hws, HBl, HQ⟩ := hrel
      by_cases hlt : k < N
      · have hi1 : (k : Int) < (N : Int) := by omega
        have hi0' : (0 : Int) ≤ (k : Int) := by omega
        have hk2 : k < (allY l).length := by rw [← HN.out]; exact hlt
        obtain ⟨g, off, rfl, hg, a0, a1, a2, a3⟩ := (T1.out.keep HQ.out.1) k hk2
        have hgm := HG.out (allY l)[k] (List.getElem_mem hk2)
        rw [HL.out] at hgm
        have hlen := gap_take_len 3 k HAll.out
        have hlen2 := gap_take_len 3 (k + 1) HAll.out
        have hlens : (allY l).take (k + 1) = (allY l).take k ++ [(allY l)[k]] := by rw [List.take_add_one, List.getElem?_eq_getElem hk2]; rfl
        have htk : ((allY l).take k).length = k := by rw [List.length_take]; omega
        have hgw := gapW_snoc 3 l (allY l)[k] ((allY l).take k) 0
        have hgt := gapT_snoc 3 l (allY l)[k] ((allY l).take k) 0 0 (fun x hx => cut_len (HG.out x (List.mem_of_mem_take hx)).2)
        rw [htk, Nat.zero_add] at hgw hgt
        rw [← hlens] at hgw hgt
        rw [Nat.zero_add] at hgt
        have HGW := Hid.mk hgw
        have HGT := Hid.mk hgt
        have HBz : Hid (B.size = (gapW 3 l 0 ((allY l).take k)).length) := by show _ = _; rw [← HBl.out]; exact (size_lst B).symm
        have HL2 := Hid.mk hlen2
        have HC := Hid.mk (cut_len (a := (allY l)[k].at_) (HG.out (allY l)[k] (List.getElem_mem hk2)).2)
        clear hlens hgw hgt htk hlen hlen2
        generalize (allY l)[k] = t at *
        obtain ⟨kd, pa, fi, tx, er⟩ := t
        dsimp only at HGW HGT HC a0 a1 a2 a3 hgm
        obtain ⟨hg1, hg2⟩ := hgm
        have hrow := HQ.out.2
        have f1 : decide ((pa : Int) < 0) = false := decide_eq_false (by omega)
        have f2 : decide ((fi : Int) < (pa : Int)) = false := decide_eq_false (by omega)
        have f3 : decide ((s.size : Int) < (fi : Int)) = false := decide_eq_false (by omega)
        have f4 : decide (fi < pa) = false := decide_eq_false (by omega)
        have f5 : decide (s.size < fi) = false := decide_eq_false (by omega)
        clear hk2
        go_wp2_with fail
        go_quiet (fail)
        go_wp2_with fail
        obtain ⟨wq, hwq⟩ : ∃ wq, wr.drewN nq = wq := ⟨_, rfl⟩
        have HQ2 : Hid (Below w1.heap.size w1 wq ∧ wq.ownsRow w1.heap.size 27 4 (.slice so k sc) k (flT (gapT 3 0 0 ((allY l).take k)))) := by
          rw [← hwq]; exact ⟨belowN HQ.out.1 nq, ownsN HQ.out.2 nq⟩
        have hwsq : w1.heap.size ≤ wq.heap.size := by rw [← hwq, sizeN]; exact hws
        have b0 : wq.cell? ⟨g, off + k * 4, none⟩ = some (.int .i64 (kd : Int)) := by rw [← hwq, cellN]; exact a0
        have b1 : wq.cell? ⟨g, off + k * 4 + 1, none⟩ = some (.int .i64 (pa : Int)) := by rw [← hwq, cellN]; exact a1
        have b2 : wq.cell? ⟨g, off + k * 4 + 2, none⟩ = some (.int .i64 (fi : Int)) := by rw [← hwq, cellN]; exact a2
        have b3 : wq.cell? ⟨g, off + k * 4 + 3, none⟩ = some (.string ⟨tx.toArray⟩) := by rw [← hwq, cellN]; exact a3
        have hgq : g < wq.heap.size := by rw [← hwq, sizeN]; exact hg
        rw [hwq]
        clear hwq HQ hrow a0 a1 a2 a3 hg hws
        refine (w_blanks _ (3 + k % 2 + 1) wq (by omega) (by omega)).mono ?_
        rintro e w4 ⟨Bk, rfl, HBk, hb4⟩
        have c0 := (hb4.cell (p := ⟨g, off + k * 4, none⟩) hgq).trans b0
        have c1' := (hb4.cell (p := ⟨g, off + k * 4 + 1, none⟩) hgq).trans b1
        have c2 := (hb4.cell (p := ⟨g, off + k * 4 + 2, none⟩) hgq).trans b2
        have c3 := (hb4.cell (p := ⟨g, off + k * 4 + 3, none⟩) hgq).trans b3
        have HQ4 : Hid (Below w1.heap.size w1 w4 ∧ w4.ownsRow w1.heap.size 27 4 (.slice so k sc) k (flT (gapT 3 0 0 ((allY l).take k)))) := ⟨HQ2.out.1.trans (hb4.mono hwsq), below_row hb4 HQ2.out.2⟩
        have hws4 : w1.heap.size ≤ w4.heap.size := Nat.le_trans hwsq hb4.size
        have HBks : Hid (Bk.size = 3 + k % 2 + 1) := by show _ = _; rw [← size_lst, HBk.out, blk_len]
        have hBks : Bk.size ≤ 11 := by rw [HBks.out]; omega
        have hg4 : g < w4.heap.size := Nat.lt_of_lt_of_le hgq hb4.size
        clear hb4 b0 b1 b2 b3 HQ2 hgq hwsq
        go_wp2_with fail
        have h0 : (0 : Int) ≤ (pa : Int) := by omega
        have h1 : (pa : Int) ≤ (fi : Int) := by omega
        have h2 : (fi : Int) ≤ (s.size : Int) := by omega
        have HX1 := Hid.mk (HX.out pa fi hg2)
        have hxs : (s.extract pa fi).size ≤ 1048576 := by rw [ByteArray.size_extract]; omega
        obtain ⟨W8, hW8⟩ : ∃ W8, w4.alloc (.cells #[.int .i64 (kd : Int), .int .i64 ((B.size : Int) + (Bk.size : Int)), .int .i64 (fi : Int), .string ⟨tx.toArray⟩] 27) = W8 := ⟨_, rfl⟩
        have hbx : W8.heap[w4.heap.size]? = some (.cells #[.int .i64 (kd : Int), .int .i64 ((B.size : Int) + (Bk.size : Int)), .int .i64 (fi : Int), .string ⟨tx.toArray⟩] 27 (0, 0)) := by rw [← hW8]; exact heap_alloc_new _ _
        have d1 : W8.cell? ⟨g, off + k * 4 + 1, none⟩ = some (.int .i64 (pa : Int)) := by rw [← hW8]; exact ((below1 w4 _).cell (p := ⟨g, off + k * 4 + 1, none⟩) hg4).trans c1'
        have d2 : W8.cell? ⟨g, off + k * 4 + 2, none⟩ = some (.int .i64 (fi : Int)) := by rw [← hW8]; exact ((below1 w4 _).cell (p := ⟨g, off + k * 4 + 2, none⟩) hg4).trans c2
        have hs8 : W8.heap.size = w4.heap.size + 1 := by rw [← hW8]; simp
        have HQ8 : Hid (Below w1.heap.size w1 W8 ∧ W8.ownsRow w1.heap.size 27 4 (.slice so k sc) k (flT (gapT 3 0 0 ((allY l).take k)))) := by rw [← hW8]; exact ⟨HQ4.out.1.alloc hws4 _, HQ4.out.2.alloc _⟩
        have HOB : Hid (∀ b, (Value.slice so k sc).ownBlock = some b → b < w4.heap.size) := own_ltT HQ4.out.2
        rw [hW8]
        have HS8 := Hid.mk hs8
        have HBX := Hid.mk hbx
        clear hW8 c0 c1' c2 c3 HQ4 hs8 hbx hg4
        go_quiet (fail)
        obtain ⟨w8, hw8⟩ : ∃ w8, W8.drewN nq = w8 := ⟨_, rfl⟩
        have HQ9 : Hid (Below w1.heap.size w1 w8 ∧ w8.ownsRow w1.heap.size 27 4 (.slice so k sc) k (flT (gapT 3 0 0 ((allY l).take k)))) := by
          rw [← hw8]; exact ⟨belowN HQ8.out.1 nq, ownsN HQ8.out.2 nq⟩
        have HBX2 : Hid (w8.heap[w4.heap.size]? = some (.cells #[.int .i64 (kd : Int), .int .i64 ((B.size : Int) + (Bk.size : Int)), .int .i64 (fi : Int), .string ⟨tx.toArray⟩] 27 (0, 0))) := by show _ = _; rw [← hw8, heapN]; exact HBX.out
        have HS9 : Hid (w8.heap.size = w4.heap.size + 1) := by show _ = _; rw [← hw8, sizeN]; exact HS8.out
        rw [hw8]
        clear hw8 HBX HQ8 d1 d2 HS8
        generalize s.extract pa fi = X at *
        obtain ⟨k0, k1, k2, k3, g0, g1, g2, g3⟩ := tbox_cells HBX2.out
        have HX2 : Hid (X.size = fi - pa) := by show _ = _; rw [← size_lst, HX1.out]; exact HC.out
        have HE1 : Hid (((B.size + (3 + k % 2 + 1) : Nat) : Int) = (B.size : Int) + (Bk.size : Int)) := by show _ = _; rw [HBks.out]; omega
        have HE2 : Hid (((B.size + (3 + k % 2 + 1) + (fi - pa) : Nat) : Int) = (B.size : Int) + (Bk.size : Int) + (X.size : Int)) := by show _ = _; rw [HBks.out, HX2.out]; omega
        have HT : Hid (flT (gapT 3 0 0 ((allY l).take (k + 1))) = flT (gapT 3 0 0 ((allY l).take k)) ++ [.int .i64 (kd : Int), .int .i64 ((B.size : Int) + (Bk.size : Int)), .int .i64 ((B.size : Int) + (Bk.size : Int) + (X.size : Int)), .string ⟨tx.toArray⟩]) := by
          show _ = _
          rw [HGT.out, flT_snoc, ← HBz.out]
          dsimp only
          rw [HE1.out, HE2.out]
        have HBl2 : Hid ((B ++ Bk ++ X).data.toList = gapW 3 l 0 ((allY l).take (k + 1))) := by
          show _ = _
          rw [HGW.out, ByteArray.data_append, ByteArray.data_append, Array.toList_append, Array.toList_append, HBl.out, HBk.out, HX1.out]
        have HBs2 : Hid ((B ++ Bk ++ X).size ≤ 12582912) := by
          show _ ≤ _
          rw [← size_lst, HBl2.out]
          have h3 := HL2.out
          have h4 := HL.out
          have h5 : (3 + 2) * (k + 1) ≤ 11 * (k + 1) := Nat.mul_le_mul_right _ (by omega)
          omega
        have hws8 : w1.heap.size ≤ w8.heap.size := HQ9.out.1.size
        have hrow : ((w8.setCell ⟨w4.heap.size, 2, none⟩ (.int .i64 ((B.size : Int) + (Bk.size : Int) + (X.size : Int)))).ownsRow w1.heap.size 27 4 (.slice so k sc) k (flT (gapT 3 0 0 ((allY l).take k)))) := own_setT HQ9.out.2 (fun e => Nat.lt_irrefl _ (HOB.out _ e))
        have HBW : Hid (Below w1.heap.size w1 (w8.setCell ⟨w4.heap.size, 2, none⟩ (.int .i64 ((B.size : Int) + (Bk.size : Int) + (X.size : Int))))) := HQ9.out.1.setCell (p := ⟨w4.heap.size, 2, none⟩) hws4 _
        go_wp2_with (at_builtin; go_loud (refine wpList_append_own _ rfl _ _ 22 rfl w1.heap.size 27 i0 (.agg #[.int .i64 0, .int .i64 0, .int .i64 0, .string ⟨#[]⟩]) 4 40 Tryd.underlying22 hi0 hz0 hz1 hz2 rfl (by decide) _ _ _ rfl (hrow.alloc _) ⟨w8.heap.size, 0, none⟩ 1 1 [.int .i64 (kd : Int), .int .i64 ((B.size : Int) + (Bk.size : Int)), .int .i64 ((B.size : Int) + (Bk.size : Int) + (X.size : Int)), .string ⟨tx.toArray⟩] rfl rfl (new4 (t := 27) (by rw [← World.size_setCell w8 ⟨w4.heap.size, 2, none⟩ (.int .i64 ((B.size : Int) + (Bk.size : Int) + (X.size : Int)))]; exact heap_alloc_new _ _)) (by intro u hu; simp at hu; rcases hu with rfl | rfl | rfl | rfl <;> rfl) (by unfold maxLen; omega) (by omega) (by simp; omega) ?_))
        intro v' w5 hown' hgrow _
        obtain ⟨g', cap', rfl⟩ := ownsRow_succ hown'
        have hgs := hgrow.size
        simp at hgs
        have HW5 : Hid (Below w1.heap.size w1 w5 ∧ w5.ownsRow w1.heap.size 27 4 (.slice (some ⟨g', 0, none⟩) (k + 1) cap') (k + 1) (flT (gapT 3 0 0 ((allY l).take (k + 1))))) := ⟨(HBW.out.alloc (by rw [World.size_setCell]; exact hws8) _).grown hgrow (by simp; omega) (fun r e => own_baseT hrow e), by rw [HT.out]; exact hown'⟩
        clear hown' hgrow hrow
        go_wp2_with fail
        go_roundw
        case rel => exact ⟨k + 1, B ++ Bk ++ X, _, _, by omega, rfl, rfl, by go_num, HBs2.out, by omega, HBl2, HW5⟩
        case measure => simp [intOf]; omega
      · have hi1 : ¬ (k : Int) < (N : Int) := by omega
        obtain rfl : k = N := by omega
        have HTK : Hid ((allY l).take k = allY l) := List.take_of_length_le (by rw [HN.out]; exact Nat.le_refl _)
        rw [HTK.out] at HBl HQ
        have HAG := Hid.mk (allY_gap 3 3 HAll.out)
        have HOK := Hid.mk (gap_ok 3 3 HAll.out)
        have HGL : Hid ((gapT 3 0 0 (allY l)).length = k) := by show _ = _; rw [gapT_len]; exact HN.out.symm
        clear HTK HG T1
        go_wp2_with fail
        refine (w_blanks _ 3 wr (by omega) (by omega)).mono ?_
        rintro e w6 ⟨Bq, rfl, HBq, hb6⟩
        have HB6 := Hid.mk (HB1.out.trans ((HQ.out.1.trans (hb6.mono hws)).mono HB1.out.size))
        have HR6 := Hid.mk (below_row hb6 HQ.out.2)
        have hBq : Bq.size ≤ 11 := by rw [← size_lst, HBq.out, blk_len]; omega
        have hsz : (B ++ Bq).size ≤ 16777216 := by rw [ByteArray.size_append]; omega
        have heq : (B ++ Bq).data.toList = gapW 3 l 0 (allY l) ++ blk 3 := by rw [ByteArray.data_append, Array.toList_append, HBl.out, HBq.out]
        have hsc := w_Scan (B ++ Bq) w6 hsz (HE.out.keep HB6.out)
        rw [heq] at hsc
        have HSC := Hid.mk hsc
        clear hsc hb6 heq hsz HQ HBl HBq
        go_wp2_with fail
        refine HSC.out.mono ?_
        rintro e w7 ⟨⟨_, so3, sc3, rfl, HR3⟩ | ⟨pre3, x3, h3, hx3, rfl⟩, hb7⟩
        · have HB7 := Hid.mk (HB6.out.trans (hb7.mono HB6.out.size))
          have hq := below_row hb7 HR6.out
          have hlen : (allY (gapW 3 l 0 (allY l) ++ blk 3)).length = k := by rw [HAG.out]; exact HGL.out
          rw [← HAG.out, ← hlen] at hq
          obtain ⟨tw, cw⟩ := trow_own hq
          obtain ⟨t3, c3⟩ := trow_own HR3.out
          have HST := Hid.mk (w_SameTokens (allY (gapW 3 l 0 (allY l) ++ blk 3)) so3 so sc3 sc w7 (by omega) t3 tw c3 cw)
          rw [hlen] at HST ⊢
          clear hb7 hq hlen tw cw t3 c3 HR3 HSC
          go_wp2_with fail
          refine HST.out.mono ?_
          rintro e w8 ⟨rfl, hb8⟩
          have HB8 := Hid.mk (HB7.out.trans (hb8.mono HB7.out.size))
          clear hb8
          go_wp2_with fail
          go_ret
          exact ⟨rfl, HB8.out⟩
        · exact absurd (HOK.out x3 (by rw [h3]; simp)) hx3
  · have HB1 := Hid.mk (HB0.out.trans (hb1.mono HB0.out.size))
    have hne1 : (((x1.err : Nat) : Int) == 0) = false := by rw [beq_eq_false_iff_ne]; omega
    clear hb1 ha1 hx1
    go_wp2_with fail
    go_ret
    exact ⟨rfl, HB1.out⟩

set_option maxRecDepth 100000 in
set_option maxHeartbeats 6400000 in
theorem w_TokenGaps_c (s : ByteArray) (m : Nat) (hm : m ≤ 9) (hm0 : ¬ (m : Int) < 0) (hm9 : ¬ 9 < (m : Int)) (w : World) (ss : s.size ≤ 1048576) (hE : ErrIn w) : Calls Tryd.prog 4 #[.string s, .int .i64 (m : Int)] w fun e w' => e = .returned (.bool true) ∧ Below w.heap.size w w' := by
  obtain ⟨i0, hi0, hz0, hz1, hz2⟩ := info_parts Tryd.infoTok
  have HE := Hid.mk hE
  have HA := Hid.mk (fun u (h : ErrIn u) => w_Scan s u (by omega) h)
  have HK := Hid.mk (w_lTokenKnown w hE)
  clear hE
  obtain ⟨l, hl⟩ : ∃ l, l = s.data.toList := ⟨_, rfl⟩
  have HL : Hid (l.length = s.size) := by show _ = _; rw [hl]; exact size_lst s
  have HX : Hid (∀ a b, b ≤ s.size → (s.extract a b).data.toList = cut l a b) := fun a b h => by rw [hl]; exact ext_cut s h
  rw [← hl] at HA
  clear hl
  go_enter Tryd.func4, Tryd.ntmps4
  go_wp2_with fail
  refine HK.out.mono ?_
  rintro e w0 ⟨rfl, hb0⟩
  have HB0 := Hid.mk hb0
  clear hb0 HK
  go_wp2_with fail
  refine (HA.out w0 (HE.out.keep HB0.out)).mono ?_
  rintro e w1 ⟨⟨ha, so1, sc1, rfl, HR1⟩ | ⟨pre1, x1, ha1, hx1, rfl⟩, hb1⟩
  · have HB1 := Hid.mk (HB0.out.trans (hb1.mono HB0.out.size))
    have HAll := Hid.mk ha
    have HG := Hid.mk (good_mem _ _ (good_all ha))
    obtain ⟨t1, c1⟩ := trow_own HR1.out
    have T1 := Hid.mk t1
    have hl1 := allY_len l
    rw [HL.out] at hl1
    obtain ⟨N, hN⟩ : ∃ N, N = (allY l).length := ⟨_, rfl⟩
    rw [← hN] at c1 hl1 ⊢
    have HN := Hid.mk hN
    clear hN t1 hb1 ha HR1 HA
    go_wp2_with fail
    go_loopw [8, 9, 10] (fun wd v i wr => ∃ (k : Nat) (B : ByteArray) (so : Option Addr) (sc : Nat), k ≤ N ∧ wd = .string B ∧ v = .slice so k sc ∧ i = .int .i64 (k : Int) ∧ B.size ≤ 12582912 ∧ w1.heap.size ≤ wr.heap.size ∧ Hid (B.data.toList = gapW m l 0 ((allY l).take k)) ∧ Hid (Below w1.heap.size w1 wr ∧ wr.ownsRow w1.heap.size 27 4 (.slice so k sc) k (flT (gapT m 0 0 ((allY l).take k))))) (fun _ _ i _ => N - (intOf i).toNat)
    case atStart => exact ⟨0, ⟨#[]⟩, none, 0, Nat.zero_le _, rfl, rfl, rfl, by decide, Nat.le_refl _, rfl, Below.refl _ _, World.ownsRow_nil _ _ _ _⟩
    case round =>
      obtain ⟨k, B, so, sc, hk, rfl, rfl, rfl, hBs, hws, HBl, HQ⟩ := hrel
      by_cases hlt : k < N
      · have hi1 : (k : Int) < (N : Int) := by omega
        have hi0' : (0 : Int) ≤ (k : Int) := by omega
        have hk2 : k < (allY l).length := by rw [← HN.out]; exact hlt
        obtain ⟨g, off, rfl, hg, a0, a1, a2, a3⟩ := (T1.out.keep HQ.out.1) k hk2
        have hgm := HG.out (allY l)[k] (List.getElem_mem hk2)
        rw [HL.out] at hgm
        have hlen := gap_take_len m k HAll.out
        have hlen2 := gap_take_len m (k + 1) HAll.out
        have hlens : (allY l).take (k + 1) = (allY l).take k ++ [(allY l)[k]] := by rw [List.take_add_one, List.getElem?_eq_getElem hk2]; rfl
        have htk : ((allY l).take k).length = k := by rw [List.length_take]; omega
        have hgw := gapW_snoc m l (allY l)[k] ((allY l).take k) 0
        have hgt := gapT_snoc m l (allY l)[k] ((allY l).take k) 0 0 (fun x hx => cut_len (HG.out x (List.mem_of_mem_take hx)).2)
        rw [htk, Nat.zero_add] at hgw hgt
        rw [← hlens] at hgw hgt
        rw [Nat.zero_add] at hgt
        have HGW := Hid.mk hgw
        have HGT := Hid.mk hgt
        have HBz : Hid (B.size = (gapW m l 0 ((allY l).take k)).length) := by show _ = _; rw [← HBl.out]; exact (size_lst B).symm
        have HL2 := Hid.mk hlen2
        have HC := Hid.mk (cut_len (a := (allY l)[k].at_) (HG.out (allY l)[k] (List.getElem_mem hk2)).2)
        clear hlens hgw hgt htk hlen hlen2
        generalize (allY l)[k] = t at *
        obtain ⟨kd, pa, fi, tx, er⟩ := t
        dsimp only at HGW HGT HC a0 a1 a2 a3 hgm
        obtain ⟨hg1, hg2⟩ := hgm
        have hrow := HQ.out.2
        have f1 : decide ((pa : Int) < 0) = false := decide_eq_false (by omega)
        have f2 : decide ((fi : Int) < (pa : Int)) = false := decide_eq_false (by omega)
        have f3 : decide ((s.size : Int) < (fi : Int)) = false := decide_eq_false (by omega)
        have f4 : decide (fi < pa) = false := decide_eq_false (by omega)
        have f5 : decide (s.size < fi) = false := decide_eq_false (by omega)
        clear hk2
        go_wp2_with fail
        go_quiet (fail)
        go_wp2_with fail
        obtain ⟨wq, hwq⟩ : ∃ wq, wr.drewN nq = wq := ⟨_, rfl⟩
        have HQ2 : Hid (Below w1.heap.size w1 wq ∧ wq.ownsRow w1.heap.size 27 4 (.slice so k sc) k (flT (gapT m 0 0 ((allY l).take k)))) := by
          rw [← hwq]; exact ⟨belowN HQ.out.1 nq, ownsN HQ.out.2 nq⟩
        have hwsq : w1.heap.size ≤ wq.heap.size := by rw [← hwq, sizeN]; exact hws
        have b0 : wq.cell? ⟨g, off + k * 4, none⟩ = some (.int .i64 (kd : Int)) := by rw [← hwq, cellN]; exact a0
        have b1 : wq.cell? ⟨g, off + k * 4 + 1, none⟩ = some (.int .i64 (pa : Int)) := by rw [← hwq, cellN]; exact a1
        have b2 : wq.cell? ⟨g, off + k * 4 + 2, none⟩ = some (.int .i64 (fi : Int)) := by rw [← hwq, cellN]; exact a2
        have b3 : wq.cell? ⟨g, off + k * 4 + 3, none⟩ = some (.string ⟨tx.toArray⟩) := by rw [← hwq, cellN]; exact a3
        have hgq : g < wq.heap.size := by rw [← hwq, sizeN]; exact hg
        rw [hwq]
        clear hwq HQ hrow a0 a1 a2 a3 hg hws
        refine (w_blanks _ (m + k % 2 + 1) wq (by omega) (by omega)).mono ?_
        rintro e w4 ⟨Bk, rfl, HBk, hb4⟩
        have c0 := (hb4.cell (p := ⟨g, off + k * 4, none⟩) hgq).trans b0
        have c1' := (hb4.cell (p := ⟨g, off + k * 4 + 1, none⟩) hgq).trans b1
        have c2 := (hb4.cell (p := ⟨g, off + k * 4 + 2, none⟩) hgq).trans b2
        have c3 := (hb4.cell (p := ⟨g, off + k * 4 + 3, none⟩) hgq).trans b3
        have HQ4 : Hid (Below w1.heap.size w1 w4 ∧ w4.ownsRow w1.heap.size 27 4 (.slice so k sc) k (flT (gapT m 0 0 ((allY l).take k)))) := ⟨HQ2.out.1.trans (hb4.mono hwsq), below_row hb4 HQ2.out.2⟩
        have hws4 : w1.heap.size ≤ w4.heap.size := Nat.le_trans hwsq hb4.size
        have HBks : Hid (Bk.size = m + k % 2 + 1) := by show _ = _; rw [← size_lst, HBk.out, blk_len]
        have hBks : Bk.size ≤ 11 := by rw [HBks.out]; omega
        have hg4 : g < w4.heap.size := Nat.lt_of_lt_of_le hgq hb4.size
        clear hb4 b0 b1 b2 b3 HQ2 hgq hwsq
        go_wp2_with fail
        have h0 : (0 : Int) ≤ (pa : Int) := by omega
        have h1 : (pa : Int) ≤ (fi : Int) := by omega
        have h2 : (fi : Int) ≤ (s.size : Int) := by omega
        have HX1 := Hid.mk (HX.out pa fi hg2)
        have hxs : (s.extract pa fi).size ≤ 1048576 := by rw [ByteArray.size_extract]; omega
        obtain ⟨W8, hW8⟩ : ∃ W8, w4.alloc (.cells #[.int .i64 (kd : Int), .int .i64 ((B.size : Int) + (Bk.size : Int)), .int .i64 (fi : Int), .string ⟨tx.toArray⟩] 27) = W8 := ⟨_, rfl⟩
        have hbx : W8.heap[w4.heap.size]? = some (.cells #[.int .i64 (kd : Int), .int .i64 ((B.size : Int) + (Bk.size : Int)), .int .i64 (fi : Int), .string ⟨tx.toArray⟩] 27 (0, 0)) := by rw [← hW8]; exact heap_alloc_new _ _
        have d1 : W8.cell? ⟨g, off + k * 4 + 1, none⟩ = some (.int .i64 (pa : Int)) := by rw [← hW8]; exact ((below1 w4 _).cell (p := ⟨g, off + k * 4 + 1, none⟩) hg4).trans c1'
        have d2 : W8.cell? ⟨g, off + k * 4 + 2, none⟩ = some (.int .i64 (fi : Int)) := by rw [← hW8]; exact ((below1 w4 _).cell (p := ⟨g, off + k * 4 + 2, none⟩) hg4).trans c2
        have hs8 : W8.heap.size = w4.heap.size + 1 := by rw [← hW8]; simp
        have HQ8 : Hid (Below w1.heap.size w1 W8 ∧ W8.ownsRow w1.heap.size 27 4 (.slice so k sc) k (flT (gapT m 0 0 ((allY l).take k)))) := by rw [← hW8]; exact ⟨HQ4.out.1.alloc hws4 _, HQ4.out.2.alloc _⟩
        have HOB : Hid (∀ b, (Value.slice so k sc).ownBlock = some b → b < w4.heap.size) := own_ltT HQ4.out.2
        rw [hW8]
        have HS8 := Hid.mk hs8
        have HBX := Hid.mk hbx
        clear hW8 c0 c1' c2 c3 HQ4 hs8 hbx hg4
        go_quiet (fail)
        obtain ⟨w8, hw8⟩ : ∃ w8, W8.drewN nq = w8 := ⟨_, rfl⟩
        have HQ9 : Hid (Below w1.heap.size w1 w8 ∧ w8.ownsRow w1.heap.size 27 4 (.slice so k sc) k (flT (gapT m 0 0 ((allY l).take k)))) := by
          rw [← hw8]; exact ⟨belowN HQ8.out.1 nq, ownsN HQ8.out.2 nq⟩
        have HBX2 : Hid (w8.heap[w4.heap.size]? = some (.cells #[.int .i64 (kd : Int), .int .i64 ((B.size : Int) + (Bk.size : Int)), .int .i64 (fi : Int), .string ⟨tx.toArray⟩] 27 (0, 0))) := by show _ = _; rw [← hw8, heapN]; exact HBX.out
        have HS9 : Hid (w8.heap.size = w4.heap.size + 1) := by show _ = _; rw [← hw8, sizeN]; exact HS8.out
        rw [hw8]
        clear hw8 HBX HQ8 d1 d2 HS8
        generalize s.extract pa fi = X at *
        obtain ⟨k0, k1, k2, k3, g0, g1, g2, g3⟩ := tbox_cells HBX2.out
        have HX2 : Hid (X.size = fi - pa) := by show _ = _; rw [← size_lst, HX1.out]; exact HC.out
        have HE1 : Hid (((B.size + (m + k % 2 + 1) : Nat) : Int) = (B.size : Int) + (Bk.size : Int)) := by show _ = _; rw [HBks.out]; omega
        have HE2 : Hid (((B.size + (m + k % 2 + 1) + (fi - pa) : Nat) : Int) = (B.size : Int) + (Bk.size : Int) + (X.size : Int)) := by show _ = _; rw [HBks.out, HX2.out]; omega
        have HT : Hid (flT (gapT m 0 0 ((allY l).take (k + 1))) = flT (gapT m 0 0 ((allY l).take k)) ++ [.int .i64 (kd : Int), .int .i64 ((B.size : Int) + (Bk.size : Int)), .int .i64 ((B.size : Int) + (Bk.size : Int) + (X.size : Int)), .string ⟨tx.toArray⟩]) := by
          show _ = _
          rw [HGT.out, flT_snoc, ← HBz.out]
          dsimp only
          rw [HE1.out, HE2.out]
        have HBl2 : Hid ((B ++ Bk ++ X).data.toList = gapW m l 0 ((allY l).take (k + 1))) := by
          show _ = _
          rw [HGW.out, ByteArray.data_append, ByteArray.data_append, Array.toList_append, Array.toList_append, HBl.out, HBk.out, HX1.out]
        have HBs2 : Hid ((B ++ Bk ++ X).size ≤ 12582912) := by
          show _ ≤ _
          rw [← size_lst, HBl2.out]
          have h3 := HL2.out
          have h4 := HL.out
          have h5 : (m + 2) * (k + 1) ≤ 11 * (k + 1) := Nat.mul_le_mul_right _ (by omega)
          omega
        have hws8 : w1.heap.size ≤ w8.heap.size := HQ9.out.1.size
        have hrow : ((w8.setCell ⟨w4.heap.size, 2, none⟩ (.int .i64 ((B.size : Int) + (Bk.size : Int) + (X.size : Int)))).ownsRow w1.heap.size 27 4 (.slice so k sc) k (flT (gapT m 0 0 ((allY l).take k)))) := own_setT HQ9.out.2 (fun e => Nat.lt_irrefl _ (HOB.out _ e))
        have HBW : Hid (Below w1.heap.size w1 (w8.setCell ⟨w4.heap.size, 2, none⟩ (.int .i64 ((B.size : Int) + (Bk.size : Int) + (X.size : Int))))) := HQ9.out.1.setCell (p := ⟨w4.heap.size, 2, none⟩) hws4 _
        go_wp2_with (at_builtin; go_loud (refine wpList_append_own _ rfl _ _ 22 rfl w1.heap.size 27 i0 (.agg #[.int .i64 0, .int .i64 0, .int .i64 0, .string ⟨#[]⟩]) 4 40 Tryd.underlying22 hi0 hz0 hz1 hz2 rfl (by decide) _ _ _ rfl (hrow.alloc _) ⟨w8.heap.size, 0, none⟩ 1 1 [.int .i64 (kd : Int), .int .i64 ((B.size : Int) + (Bk.size : Int)), .int .i64 ((B.size : Int) + (Bk.size : Int) + (X.size : Int)), .string ⟨tx.toArray⟩] rfl rfl (new4 (t := 27) (by rw [← World.size_setCell w8 ⟨w4.heap.size, 2, none⟩ (.int .i64 ((B.size : Int) + (Bk.size : Int) + (X.size : Int)))]; exact heap_alloc_new _ _)) (by intro u hu; simp at hu; rcases hu with rfl | rfl | rfl | rfl <;> rfl) (by unfold maxLen; omega) (by omega) (by simp; omega) ?_))
        intro v' w5 hown' hgrow _
        obtain ⟨g', cap', rfl⟩ := ownsRow_succ hown'
        have hgs := hgrow.size
        simp at hgs
        have HW5 : Hid (Below w1.heap.size w1 w5 ∧ w5.ownsRow w1.heap.size 27 4 (.slice (some ⟨g', 0, none⟩) (k + 1) cap') (k + 1) (flT (gapT m 0 0 ((allY l).take (k + 1))))) := ⟨(HBW.out.alloc (by rw [World.size_setCell]; exact hws8) _).grown hgrow (by simp; omega) (fun r e => own_baseT hrow e), by rw [HT.out]; exact hown'⟩
        clear hown' hgrow hrow
        go_wp2_with fail
        go_roundw
        case rel => exact ⟨k + 1, B ++ Bk ++ X, _, _, by omega, rfl, rfl, by go_num, HBs2.out, by omega, HBl2, HW5⟩
        case measure => simp [intOf]; omega
      · have hi1 : ¬ (k : Int) < (N : Int) := by omega
        obtain rfl : k = N := by omega
        have HTK : Hid ((allY l).take k = allY l) := List.take_of_length_le (by rw [HN.out]; exact Nat.le_refl _)
        rw [HTK.out] at HBl HQ
        have HAG := Hid.mk (allY_gap m m HAll.out)
        have HOK := Hid.mk (gap_ok m m HAll.out)
        have HGL : Hid ((gapT m 0 0 (allY l)).length = k) := by show _ = _; rw [gapT_len]; exact HN.out.symm
        clear HTK HG T1
        go_wp2_with fail
        refine (w_blanks _ m wr (by omega) (by omega)).mono ?_
        rintro e w6 ⟨Bq, rfl, HBq, hb6⟩
        have HB6 := Hid.mk (HB1.out.trans ((HQ.out.1.trans (hb6.mono hws)).mono HB1.out.size))
        have HR6 := Hid.mk (below_row hb6 HQ.out.2)
        have hBq : Bq.size ≤ 11 := by rw [← size_lst, HBq.out, blk_len]; omega
        have hsz : (B ++ Bq).size ≤ 16777216 := by rw [ByteArray.size_append]; omega
        have heq : (B ++ Bq).data.toList = gapW m l 0 (allY l) ++ blk m := by rw [ByteArray.data_append, Array.toList_append, HBl.out, HBq.out]
        have hsc := w_Scan (B ++ Bq) w6 hsz (HE.out.keep HB6.out)
        rw [heq] at hsc
        have HSC := Hid.mk hsc
        clear hsc hb6 heq hsz HQ HBl HBq
        go_wp2_with fail
        refine HSC.out.mono ?_
        rintro e w7 ⟨⟨_, so3, sc3, rfl, HR3⟩ | ⟨pre3, x3, h3, hx3, rfl⟩, hb7⟩
        · have HB7 := Hid.mk (HB6.out.trans (hb7.mono HB6.out.size))
          have hq := below_row hb7 HR6.out
          have hlen : (allY (gapW m l 0 (allY l) ++ blk m)).length = k := by rw [HAG.out]; exact HGL.out
          rw [← HAG.out, ← hlen] at hq
          obtain ⟨tw, cw⟩ := trow_own hq
          obtain ⟨t3, c3⟩ := trow_own HR3.out
          have HST := Hid.mk (w_SameTokens (allY (gapW m l 0 (allY l) ++ blk m)) so3 so sc3 sc w7 (by omega) t3 tw c3 cw)
          rw [hlen] at HST ⊢
          clear hb7 hq hlen tw cw t3 c3 HR3 HSC
          go_wp2_with fail
          refine HST.out.mono ?_
          rintro e w8 ⟨rfl, hb8⟩
          have HB8 := Hid.mk (HB7.out.trans (hb8.mono HB7.out.size))
          clear hb8
          go_wp2_with fail
          go_ret
          exact ⟨rfl, HB8.out⟩
        · exact absurd (HOK.out x3 (by rw [h3]; simp)) hx3
  · have HB1 := Hid.mk (HB0.out.trans (hb1.mono HB0.out.size))
    have hne1 : (((x1.err : Nat) : Int) == 0) = false := by rw [beq_eq_false_iff_ne]; omega
    clear hb1 ha1 hx1
    go_wp2_with fail
    go_ret
    exact ⟨rfl, HB1.out⟩

theorem w_TokenGaps (s : ByteArray) (z : Int) (w : World) (ss : s.size ≤ 1048576) (hE : ErrIn w) : Calls Tryd.prog 4 #[.string s, .int .i64 z] w fun e w' => e = .returned (.bool true) ∧ Below w.heap.size w w' := by
  by_cases h0 : z < 0
  · exact w_TokenGaps_a s z h0 w ss hE
  · by_cases h9 : 9 < z
    · exact w_TokenGaps_b s z h0 h9 w ss hE
    · obtain ⟨m, rfl⟩ : ∃ m : Nat, z = (m : Int) := ⟨z.toNat, by omega⟩
      exact w_TokenGaps_c s m (by omega) h0 h9 w ss hE
end Go.Proofs.YtdehejadiofomaaDoor
