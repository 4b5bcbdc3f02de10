import Derived.Test.YtohclfgghobldaaDoorZKN9
namespace Go.Proofs.YtohclfgghobldaaDoor
open Go.RowKit Go.Shelf
set_option linter.unusedVariables false
set_option linter.unusedSimpArgs false

set_option maxRecDepth 100000 in
set_option maxHeartbeats 12800000 in
theorem w_WordGaps_true (s : ByteArray) (w : World) (ss : s.size ≤ 1048576) (hE : ErrIn w) : Calls Tryd.prog 4 #[.string s, .bool true] w fun e w' => e = .returned (.bool true) ∧ Below w.heap.size w w' := by
  obtain ⟨i0, hi0, hz0, hz1, hz2⟩ := info_parts Tryd.infoTok
  have HE := Hid.mk hE
  have HA := Hid.mk (fun u (h : ErrIn u) => w_wScan s u (by omega) h)
  unfold ScR at HA
  have HK := Hid.mk (w_lWordKnown w hE)
  clear hE
  obtain ⟨l, hl⟩ : ∃ l, l = s.data.toList := ⟨_, rfl⟩
  have HL : Hid (l.length = s.size) := by show _ = _; rw [hl]; exact size_lst s
  have HX : Hid (∀ a b, b ≤ s.size → (s.extract a b).data.toList = cut l a b) := fun a b h => by rw [hl]; exact extract_lst s a b h
  rw [← hl] at HA
  clear hl
  have hmx : Tryd.prog.follows .mixedOrders = true := by kernel_rfl
  obtain ⟨G, hG⟩ : ∃ G : ByteArray, (⟨#[35, 32, 34, 120, 92, 40, 10]⟩ : ByteArray) = G := ⟨_, rfl⟩
  have HGl : Hid (G.data.toList = gapL true) := by show _ = _; rw [← hG]; rfl
  have HGs : Hid ((gapL true).length = G.size) := by show _ = _; rw [← hG]; rfl
  have hGs : G.size ≤ 7 := by rw [← hG]; decide
  have HG0 := Hid.mk hG
  clear hG
  go_enter Tryd.func4, Tryd.ntmps4
  go_wp2_with fail
  refine HK.out.mono ?_
  rintro e w0 ⟨rfl, hb0⟩
  have HB0 := Hid.mk hb0
  clear hb0 HK
  go_wp2_with fail
  refine (HA.out w0 (HE.out.keep HB0.out)).mono ?_
  rintro e w1 ⟨⟨ha, so1, sc1, rfl, HR1⟩ | ⟨pre1, x1, ha1, hx1, rfl⟩, hb1⟩
  · have HB1 := Hid.mk (HB0.out.trans (hb1.mono HB0.out.size))
    have HAll := Hid.mk ha
    have HG := Hid.mk (sc_all ha).1
    obtain ⟨t1, c1⟩ := trow_own HR1.out
    have T1 := Hid.mk t1
    have hl1 := scW_len l
    rw [HL.out] at hl1
    obtain ⟨N, hN⟩ : ∃ N, N = (scW l).length := ⟨_, rfl⟩
    rw [← hN] at c1 hl1 ⊢
    have HN := Hid.mk hN
    clear hN t1 hb1 ha HR1 HA
    go_wp2_with fail
    (try rw [HG0.out])
    go_loopw [9, 10, 11] (fun wd v i wr => ∃ (k : Nat) (B : ByteArray) (so : Option Addr) (sc : Nat), k ≤ N ∧ wd = .string B ∧ v = .slice so k sc ∧ i = .int .i64 (k : Int) ∧ B.size ≤ 8388624 ∧ w1.heap.size ≤ wr.heap.size ∧ Hid (B.data.toList = gpW true l ((scW l).take k)) ∧ Hid (Below w1.heap.size w1 wr ∧ wr.ownsRow w1.heap.size 23 4 (.slice so k sc) k (flT (gpT true 0 ((scW l).take k))))) (fun _ _ i _ => N - (intOf i).toNat)
    case atStart => exact ⟨0, ⟨#[]⟩, none, 0, Nat.zero_le _, rfl, rfl, rfl, by decide, Nat.le_refl _, rfl, Below.refl _ _, World.ownsRow_nil _ _ _ _⟩
    case round =>
      obtain ⟨k, B, so, sc, hk, rfl, rfl, rfl, hBs, hws, HBl, HQ⟩ := hrel
      by_cases hlt : k < N
      · have hi1 : (k : Int) < (N : Int) := by omega
        have hi0' : (0 : Int) ≤ (k : Int) := by omega
        have hk2 : k < (scW l).length := by rw [← HN.out]; exact hlt
        obtain ⟨g, off, rfl, hg, a0, a1, a2, a3⟩ := (T1.out.keep HQ.out.1) k hk2
        have hgm := HG.out (scW l)[k] (List.getElem_mem hk2)
        rw [HL.out] at hgm
        have hlen2 := gp_take true (k + 1) HAll.out
        have hlens : (scW l).take (k + 1) = (scW l).take k ++ [(scW l)[k]] := by rw [List.take_add_one, List.getElem?_eq_getElem hk2]; rfl
        have hgw := gpW_snoc true l (scW l)[k] ((scW l).take k)
        have hgt := gpT_snoc true l (scW l)[k] ((scW l).take k) 0 (fun x hx => cut_len (HG.out x (List.mem_of_mem_take hx)).2)
        rw [← hlens] at hgw hgt
        rw [Nat.zero_add] at hgt
        have HGW := Hid.mk hgw
        have HGT := Hid.mk hgt
        have HBz : Hid (B.size = (gpW true l ((scW l).take k)).length) := by show _ = _; rw [← HBl.out]; exact (size_lst B).symm
        have HL2 := Hid.mk hlen2
        have HC := Hid.mk (cut_len (a := (scW l)[k].at_) (HG.out (scW l)[k] (List.getElem_mem hk2)).2)
        clear hlens hgw hgt hlen2
        generalize (scW l)[k] = t at *
        obtain ⟨kd, pa, fi, tx, er⟩ := t
        dsimp only at HGW HGT HC a0 a1 a2 a3 hgm
        obtain ⟨hg1, hg2⟩ := hgm
        obtain ⟨tb, htb⟩ : ∃ tb : ByteArray, (⟨tx.toArray⟩ : ByteArray) = tb := ⟨_, rfl⟩
        rw [htb] at a3
        have HTB := Hid.mk htb
        have f1 : decide ((pa : Int) < 0) = false := decide_eq_false (by omega)
        have f2 : decide ((fi : Int) < (pa : Int)) = false := decide_eq_false (by omega)
        have f3 : decide ((s.size : Int) < (fi : Int)) = false := decide_eq_false (by omega)
        have f4 : decide (fi < pa) = false := decide_eq_false (by omega)
        have f5 : decide (s.size < fi) = false := decide_eq_false (by omega)
        clear hk2 htb
        go_wp2_with fail
        go_quiet (fail)
        obtain ⟨wq, hwq⟩ : ∃ wq, wr.drewN nq = wq := ⟨_, rfl⟩
        have HQ2 : Hid (Below w1.heap.size w1 wq ∧ wq.ownsRow w1.heap.size 23 4 (.slice so k sc) k (flT (gpT true 0 ((scW l).take k)))) := by
          rw [← hwq]; exact ⟨belowN HQ.out.1 nq, ownsN HQ.out.2 nq⟩
        have hwsq : w1.heap.size ≤ wq.heap.size := by rw [← hwq, sizeN]; exact hws
        have b0 : wq.cell? ⟨g, off + k * 4, none⟩ = some (.int .i64 (kd : Int)) := by rw [← hwq, cellN]; exact a0
        have b1 : wq.cell? ⟨g, off + k * 4 + 1, none⟩ = some (.int .i64 (pa : Int)) := by rw [← hwq, cellN]; exact a1
        have b2 : wq.cell? ⟨g, off + k * 4 + 2, none⟩ = some (.int .i64 (fi : Int)) := by rw [← hwq, cellN]; exact a2
        have b3 : wq.cell? ⟨g, off + k * 4 + 3, none⟩ = some (.string tb) := by rw [← hwq, cellN]; exact a3
        have hgq : g < wq.heap.size := by rw [← hwq, sizeN]; exact hg
        rw [hwq]
        clear hwq HQ a0 a1 a2 a3 hg hws f1 f2 f3 f4 f5
        by_cases hc : kd = 8
        · skip
          have HSP : Hid (sepL true ⟨kd, pa, fi, tx, er⟩ = []) := by show _ = _; unfold sepL; rw [if_pos (by show kd = 8 ∨ kd = 9; omega)]
          subst hc
          go_upto_region 20 with fail
          obtain ⟨W8, hW8⟩ : ∃ W8, wq.alloc (.cells #[.int .i64 8, .int .i64 ((B.size : Int)), .int .i64 (fi : Int), .string tb] 23) = W8 := ⟨_, rfl⟩
          have hbx : W8.heap[wq.heap.size]? = some (.cells #[.int .i64 8, .int .i64 ((B.size : Int)), .int .i64 (fi : Int), .string tb] 23 (0, 0)) := by rw [← hW8]; exact heap_alloc_new _ _
          have d1 : W8.cell? ⟨g, off + k * 4 + 1, none⟩ = some (.int .i64 (pa : Int)) := by rw [← hW8]; exact ((below1 wq _).cell (p := ⟨g, off + k * 4 + 1, none⟩) hgq).trans b1
          have d2 : W8.cell? ⟨g, off + k * 4 + 2, none⟩ = some (.int .i64 (fi : Int)) := by rw [← hW8]; exact ((below1 wq _).cell (p := ⟨g, off + k * 4 + 2, none⟩) hgq).trans b2
          have hs8 : W8.heap.size = wq.heap.size + 1 := by rw [← hW8]; simp
          have HQ8 : Hid (Below w1.heap.size w1 W8 ∧ W8.ownsRow w1.heap.size 23 4 (.slice so k sc) k (flT (gpT true 0 ((scW l).take k)))) := by rw [← hW8]; exact ⟨HQ2.out.1.alloc hwsq _, HQ2.out.2.alloc _⟩
          have HOB : Hid (∀ b, (Value.slice so k sc).ownBlock = some b → b < wq.heap.size) := own_ltT HQ2.out.2
          rw [hW8]
          have HS8 := Hid.mk hs8
          have HBX := Hid.mk hbx
          clear hW8 b0 b1 b2 b3 HQ2 hs8 hbx hgq
          have h0 : (0 : Int) ≤ (pa : Int) := by omega
          have h1 : (pa : Int) ≤ (fi : Int) := by omega
          have h2 : (fi : Int) ≤ (s.size : Int) := by omega
          have HX1 := Hid.mk (HX.out pa fi hg2)
          have hxs : (s.extract pa fi).size ≤ 1048576 := by rw [ByteArray.size_extract]; omega
          have hB2s : (B).size ≤ 8388631 := by omega
          have f8 : ¬ 9223372036854775807 < (B).size + (s.extract pa fi).size := by omega
          have f9 : ¬ (9223372036854775807 : Int) < ((B).size : Int) + ((s.extract pa fi).size : Int) := by omega
          go_quiet (fail)
          obtain ⟨w8, hw8⟩ : ∃ w8, W8.drewN nq = w8 := ⟨_, rfl⟩
          have HQ9 : Hid (Below w1.heap.size w1 w8 ∧ w8.ownsRow w1.heap.size 23 4 (.slice so k sc) k (flT (gpT true 0 ((scW l).take k)))) := by
            rw [← hw8]; exact ⟨belowN HQ8.out.1 nq, ownsN HQ8.out.2 nq⟩
          have HBX2 : Hid (w8.heap[wq.heap.size]? = some (.cells #[.int .i64 8, .int .i64 ((B.size : Int)), .int .i64 (fi : Int), .string tb] 23 (0, 0))) := by show _ = _; rw [← hw8, heapN]; exact HBX.out
          have HS9 : Hid (w8.heap.size = wq.heap.size + 1) := by show _ = _; rw [← hw8, sizeN]; exact HS8.out
          rw [hw8]
          clear hw8 HBX HQ8 d1 d2 HS8
          generalize s.extract pa fi = X at *
          obtain ⟨k0, k1, k2, k3, g0, g1, g2, g3⟩ := tbox_cells HBX2.out
          have HX2 : Hid (X.size = fi - pa) := by show _ = _; rw [← size_lst, HX1.out]; exact HC.out
          have HT : Hid (flT (gpT true 0 ((scW l).take (k + 1))) = flT (gpT true 0 ((scW l).take k)) ++ [.int .i64 8, .int .i64 ((B.size : Int)), .int .i64 ((B.size : Int) + (X.size : Int)), .string tb]) := by
            show _ = _
            rw [HGT.out, flT_snoc, HSP.out, ← HBz.out]
            dsimp only
            rw [HTB.out]
            have e1 : ((B.size + ([] : List UInt8).length : Nat) : Int) = (B.size : Int) := by show ((B.size + 0 : Nat) : Int) = _; omega
            have e2 : ((B.size + ([] : List UInt8).length + (fi - pa) : Nat) : Int) = (B.size : Int) + (X.size : Int) := by rw [HX2.out]; omega
            rw [e1, e2]
            first | done | rfl
          have HBl2 : Hid ((B ++ X).data.toList = gpW true l ((scW l).take (k + 1))) := by
            show _ = _
            rw [HGW.out, HSP.out, ByteArray.data_append, Array.toList_append, HX1.out, HBl.out]
            simp
          have HBs2 : Hid ((B ++ X).size ≤ 8388624) := by
            show _ ≤ _
            rw [← size_lst, HBl2.out]
            have h3 := HL2.out
            have h4 := HL.out
            omega
          have hws8 : w1.heap.size ≤ w8.heap.size := HQ9.out.1.size
          obtain ⟨W9, hW9⟩ : ∃ W9, w8.setCell ⟨wq.heap.size, 2, none⟩ (.int .i64 ((B.size : Int) + (X.size : Int))) = W9 := ⟨_, rfl⟩
          have hrow : W9.ownsRow w1.heap.size 23 4 (.slice so k sc) k (flT (gpT true 0 ((scW l).take k))) := by rw [← hW9]; exact own_setT HQ9.out.2 (fun e => Nat.lt_irrefl _ (HOB.out _ e))
          have HBW : Hid (Below w1.heap.size w1 W9) := by rw [← hW9]; exact HQ9.out.1.setCell (p := ⟨wq.heap.size, 2, none⟩) hwsq _
          have hx9 : W9.heap[wq.heap.size]? = some (.cells #[.int .i64 8, .int .i64 ((B.size : Int)), .int .i64 ((B.size : Int) + (X.size : Int)), .string tb] 23 (0, 0)) := by rw [← hW9]; exact heap_setCell_same w8 wq.heap.size 2 _ _ _ HBX2.out
          obtain ⟨m0, m1, m2, m3, _⟩ := tbox_cells hx9
          have hws9 := HBW.out.size
          have HW9 := Hid.mk hW9
          clear hW9 hx9 HBX2 HQ9
          go_upto_region 22 with fail
          rw [HW9.out]
          clear k0 k1 k2 k3 g0 g1 g2 g3
          go_wp2_with (at_builtin; go_loud (refine wpList_append_own _ rfl _ _ 24 rfl w1.heap.size 23 i0 (.agg #[.int .i64 0, .int .i64 0, .int .i64 0, .string ⟨#[]⟩]) 4 40 Tryd.underlying24 hi0 hz0 hz1 hz2 rfl (by decide) _ _ _ rfl (hrow.alloc _) ⟨W9.heap.size, 0, none⟩ 1 1 [.int .i64 8, .int .i64 ((B.size : Int)), .int .i64 ((B.size : Int) + (X.size : Int)), .string tb] rfl rfl (new4 (heap_alloc_new W9 _)) (by intro u hu; simp at hu; rcases hu with rfl | rfl | rfl | rfl <;> rfl) (by unfold maxLen; omega) (by omega) (by simp; omega) ?_))
          intro v' w5 hown' hgrow _
          obtain ⟨g', cap', rfl⟩ := ownsRow_succ hown'
          have hgs := hgrow.size
          simp at hgs
          have HW5 : Hid (Below w1.heap.size w1 w5 ∧ w5.ownsRow w1.heap.size 23 4 (.slice (some ⟨g', 0, none⟩) (k + 1) cap') (k + 1) (flT (gpT true 0 ((scW l).take (k + 1))))) := ⟨(HBW.out.alloc hws9 _).grown hgrow (by simp; omega) (fun r e => own_baseW hrow r e), by rw [HT.out]; exact hown'⟩
          clear hown' hgrow hrow
          go_wp2_with fail
          go_roundw
          case rel => exact ⟨k + 1, B ++ X, _, _, by omega, rfl, rfl, by go_num, HBs2.out, by omega, HBl2, HW5⟩
          case measure => simp [intOf]; omega
        by_cases hc9 : kd = 9
        · skip
          have HSP : Hid (sepL true ⟨kd, pa, fi, tx, er⟩ = []) := by show _ = _; unfold sepL; rw [if_pos (by show kd = 8 ∨ kd = 9; omega)]
          subst hc9
          go_upto_region 20 with fail
          obtain ⟨W8, hW8⟩ : ∃ W8, wq.alloc (.cells #[.int .i64 9, .int .i64 ((B.size : Int)), .int .i64 (fi : Int), .string tb] 23) = W8 := ⟨_, rfl⟩
          have hbx : W8.heap[wq.heap.size]? = some (.cells #[.int .i64 9, .int .i64 ((B.size : Int)), .int .i64 (fi : Int), .string tb] 23 (0, 0)) := by rw [← hW8]; exact heap_alloc_new _ _
          have d1 : W8.cell? ⟨g, off + k * 4 + 1, none⟩ = some (.int .i64 (pa : Int)) := by rw [← hW8]; exact ((below1 wq _).cell (p := ⟨g, off + k * 4 + 1, none⟩) hgq).trans b1
          have d2 : W8.cell? ⟨g, off + k * 4 + 2, none⟩ = some (.int .i64 (fi : Int)) := by rw [← hW8]; exact ((below1 wq _).cell (p := ⟨g, off + k * 4 + 2, none⟩) hgq).trans b2
          have hs8 : W8.heap.size = wq.heap.size + 1 := by rw [← hW8]; simp
          have HQ8 : Hid (Below w1.heap.size w1 W8 ∧ W8.ownsRow w1.heap.size 23 4 (.slice so k sc) k (flT (gpT true 0 ((scW l).take k)))) := by rw [← hW8]; exact ⟨HQ2.out.1.alloc hwsq _, HQ2.out.2.alloc _⟩
          have HOB : Hid (∀ b, (Value.slice so k sc).ownBlock = some b → b < wq.heap.size) := own_ltT HQ2.out.2
          rw [hW8]
          have HS8 := Hid.mk hs8
          have HBX := Hid.mk hbx
          clear hW8 b0 b1 b2 b3 HQ2 hs8 hbx hgq
          have h0 : (0 : Int) ≤ (pa : Int) := by omega
          have h1 : (pa : Int) ≤ (fi : Int) := by omega
          have h2 : (fi : Int) ≤ (s.size : Int) := by omega
          have HX1 := Hid.mk (HX.out pa fi hg2)
          have hxs : (s.extract pa fi).size ≤ 1048576 := by rw [ByteArray.size_extract]; omega
          have hB2s : (B).size ≤ 8388631 := by omega
          have f8 : ¬ 9223372036854775807 < (B).size + (s.extract pa fi).size := by omega
          have f9 : ¬ (9223372036854775807 : Int) < ((B).size : Int) + ((s.extract pa fi).size : Int) := by omega
          go_quiet (fail)
          obtain ⟨w8, hw8⟩ : ∃ w8, W8.drewN nq = w8 := ⟨_, rfl⟩
          have HQ9 : Hid (Below w1.heap.size w1 w8 ∧ w8.ownsRow w1.heap.size 23 4 (.slice so k sc) k (flT (gpT true 0 ((scW l).take k)))) := by
            rw [← hw8]; exact ⟨belowN HQ8.out.1 nq, ownsN HQ8.out.2 nq⟩
          have HBX2 : Hid (w8.heap[wq.heap.size]? = some (.cells #[.int .i64 9, .int .i64 ((B.size : Int)), .int .i64 (fi : Int), .string tb] 23 (0, 0))) := by show _ = _; rw [← hw8, heapN]; exact HBX.out
          have HS9 : Hid (w8.heap.size = wq.heap.size + 1) := by show _ = _; rw [← hw8, sizeN]; exact HS8.out
          rw [hw8]
          clear hw8 HBX HQ8 d1 d2 HS8
          generalize s.extract pa fi = X at *
          obtain ⟨k0, k1, k2, k3, g0, g1, g2, g3⟩ := tbox_cells HBX2.out
          have HX2 : Hid (X.size = fi - pa) := by show _ = _; rw [← size_lst, HX1.out]; exact HC.out
          have HT : Hid (flT (gpT true 0 ((scW l).take (k + 1))) = flT (gpT true 0 ((scW l).take k)) ++ [.int .i64 9, .int .i64 ((B.size : Int)), .int .i64 ((B.size : Int) + (X.size : Int)), .string tb]) := by
            show _ = _
            rw [HGT.out, flT_snoc, HSP.out, ← HBz.out]
            dsimp only
            rw [HTB.out]
            have e1 : ((B.size + ([] : List UInt8).length : Nat) : Int) = (B.size : Int) := by show ((B.size + 0 : Nat) : Int) = _; omega
            have e2 : ((B.size + ([] : List UInt8).length + (fi - pa) : Nat) : Int) = (B.size : Int) + (X.size : Int) := by rw [HX2.out]; omega
            rw [e1, e2]
            first | done | rfl
          have HBl2 : Hid ((B ++ X).data.toList = gpW true l ((scW l).take (k + 1))) := by
            show _ = _
            rw [HGW.out, HSP.out, ByteArray.data_append, Array.toList_append, HX1.out, HBl.out]
            simp
          have HBs2 : Hid ((B ++ X).size ≤ 8388624) := by
            show _ ≤ _
            rw [← size_lst, HBl2.out]
            have h3 := HL2.out
            have h4 := HL.out
            omega
          have hws8 : w1.heap.size ≤ w8.heap.size := HQ9.out.1.size
          obtain ⟨W9, hW9⟩ : ∃ W9, w8.setCell ⟨wq.heap.size, 2, none⟩ (.int .i64 ((B.size : Int) + (X.size : Int))) = W9 := ⟨_, rfl⟩
          have hrow : W9.ownsRow w1.heap.size 23 4 (.slice so k sc) k (flT (gpT true 0 ((scW l).take k))) := by rw [← hW9]; exact own_setT HQ9.out.2 (fun e => Nat.lt_irrefl _ (HOB.out _ e))
          have HBW : Hid (Below w1.heap.size w1 W9) := by rw [← hW9]; exact HQ9.out.1.setCell (p := ⟨wq.heap.size, 2, none⟩) hwsq _
          have hx9 : W9.heap[wq.heap.size]? = some (.cells #[.int .i64 9, .int .i64 ((B.size : Int)), .int .i64 ((B.size : Int) + (X.size : Int)), .string tb] 23 (0, 0)) := by rw [← hW9]; exact heap_setCell_same w8 wq.heap.size 2 _ _ _ HBX2.out
          obtain ⟨m0, m1, m2, m3, _⟩ := tbox_cells hx9
          have hws9 := HBW.out.size
          have HW9 := Hid.mk hW9
          clear hW9 hx9 HBX2 HQ9
          go_upto_region 22 with fail
          rw [HW9.out]
          clear k0 k1 k2 k3 g0 g1 g2 g3
          go_wp2_with (at_builtin; go_loud (refine wpList_append_own _ rfl _ _ 24 rfl w1.heap.size 23 i0 (.agg #[.int .i64 0, .int .i64 0, .int .i64 0, .string ⟨#[]⟩]) 4 40 Tryd.underlying24 hi0 hz0 hz1 hz2 rfl (by decide) _ _ _ rfl (hrow.alloc _) ⟨W9.heap.size, 0, none⟩ 1 1 [.int .i64 9, .int .i64 ((B.size : Int)), .int .i64 ((B.size : Int) + (X.size : Int)), .string tb] rfl rfl (new4 (heap_alloc_new W9 _)) (by intro u hu; simp at hu; rcases hu with rfl | rfl | rfl | rfl <;> rfl) (by unfold maxLen; omega) (by omega) (by simp; omega) ?_))
          intro v' w5 hown' hgrow _
          obtain ⟨g', cap', rfl⟩ := ownsRow_succ hown'
          have hgs := hgrow.size
          simp at hgs
          have HW5 : Hid (Below w1.heap.size w1 w5 ∧ w5.ownsRow w1.heap.size 23 4 (.slice (some ⟨g', 0, none⟩) (k + 1) cap') (k + 1) (flT (gpT true 0 ((scW l).take (k + 1))))) := ⟨(HBW.out.alloc hws9 _).grown hgrow (by simp; omega) (fun r e => own_baseW hrow r e), by rw [HT.out]; exact hown'⟩
          clear hown' hgrow hrow
          go_wp2_with fail
          go_roundw
          case rel => exact ⟨k + 1, B ++ X, _, _, by omega, rfl, rfl, by go_num, HBs2.out, by omega, HBl2, HW5⟩
          case measure => simp [intOf]; omega
        have HSP : Hid (sepL true ⟨kd, pa, fi, tx, er⟩ = gapL true) := by show _ = _; unfold sepL; rw [if_neg (by show ¬ (kd = 8 ∨ kd = 9); omega)]
        have e8 : (((kd : Nat) : Int) == 8) = false := by rw [beq_eq_false_iff_ne]; omega
        have e9 : (((kd : Nat) : Int) == 9) = false := by rw [beq_eq_false_iff_ne]; omega
        have m8 : (((kd : Nat) : Int) != 8) = true := by rw [bne, e8]; rfl
        have m9 : (((kd : Nat) : Int) != 9) = true := by rw [bne, e9]; rfl
        have n8 : ¬ ((kd : Nat) : Int) = 8 := by omega
        have n9 : ¬ ((kd : Nat) : Int) = 9 := by omega
        have f6 : ¬ 9223372036854775807 < B.size + G.size := by omega
        have f7 : ¬ (9223372036854775807 : Int) < (B.size : Int) + (G.size : Int) := by omega
        go_upto_region 20 with fail
        obtain ⟨W8, hW8⟩ : ∃ W8, wq.alloc (.cells #[.int .i64 (kd : Int), .int .i64 ((B.size : Int) + (G.size : Int)), .int .i64 (fi : Int), .string tb] 23) = W8 := ⟨_, rfl⟩
        have hbx : W8.heap[wq.heap.size]? = some (.cells #[.int .i64 (kd : Int), .int .i64 ((B.size : Int) + (G.size : Int)), .int .i64 (fi : Int), .string tb] 23 (0, 0)) := by rw [← hW8]; exact heap_alloc_new _ _
        have d1 : W8.cell? ⟨g, off + k * 4 + 1, none⟩ = some (.int .i64 (pa : Int)) := by rw [← hW8]; exact ((below1 wq _).cell (p := ⟨g, off + k * 4 + 1, none⟩) hgq).trans b1
        have d2 : W8.cell? ⟨g, off + k * 4 + 2, none⟩ = some (.int .i64 (fi : Int)) := by rw [← hW8]; exact ((below1 wq _).cell (p := ⟨g, off + k * 4 + 2, none⟩) hgq).trans b2
        have hs8 : W8.heap.size = wq.heap.size + 1 := by rw [← hW8]; simp
        have HQ8 : Hid (Below w1.heap.size w1 W8 ∧ W8.ownsRow w1.heap.size 23 4 (.slice so k sc) k (flT (gpT true 0 ((scW l).take k)))) := by rw [← hW8]; exact ⟨HQ2.out.1.alloc hwsq _, HQ2.out.2.alloc _⟩
        have HOB : Hid (∀ b, (Value.slice so k sc).ownBlock = some b → b < wq.heap.size) := own_ltT HQ2.out.2
        rw [hW8]
        have HS8 := Hid.mk hs8
        have HBX := Hid.mk hbx
        clear hW8 b0 b1 b2 b3 HQ2 hs8 hbx hgq
        have h0 : (0 : Int) ≤ (pa : Int) := by omega
        have h1 : (pa : Int) ≤ (fi : Int) := by omega
        have h2 : (fi : Int) ≤ (s.size : Int) := by omega
        have HX1 := Hid.mk (HX.out pa fi hg2)
        have hxs : (s.extract pa fi).size ≤ 1048576 := by rw [ByteArray.size_extract]; omega
        have hB2s : (B ++ G).size ≤ 8388631 := by rw [ByteArray.size_append]; omega
        have f8 : ¬ 9223372036854775807 < (B ++ G).size + (s.extract pa fi).size := by omega
        have f9 : ¬ (9223372036854775807 : Int) < ((B ++ G).size : Int) + ((s.extract pa fi).size : Int) := by omega
        go_quiet (fail)
        obtain ⟨w8, hw8⟩ : ∃ w8, W8.drewN nq = w8 := ⟨_, rfl⟩
        have HQ9 : Hid (Below w1.heap.size w1 w8 ∧ w8.ownsRow w1.heap.size 23 4 (.slice so k sc) k (flT (gpT true 0 ((scW l).take k)))) := by
          rw [← hw8]; exact ⟨belowN HQ8.out.1 nq, ownsN HQ8.out.2 nq⟩
        have HBX2 : Hid (w8.heap[wq.heap.size]? = some (.cells #[.int .i64 (kd : Int), .int .i64 ((B.size : Int) + (G.size : Int)), .int .i64 (fi : Int), .string tb] 23 (0, 0))) := by show _ = _; rw [← hw8, heapN]; exact HBX.out
        have HS9 : Hid (w8.heap.size = wq.heap.size + 1) := by show _ = _; rw [← hw8, sizeN]; exact HS8.out
        rw [hw8]
        clear hw8 HBX HQ8 d1 d2 HS8
        generalize s.extract pa fi = X at *
        obtain ⟨k0, k1, k2, k3, g0, g1, g2, g3⟩ := tbox_cells HBX2.out
        have HX2 : Hid (X.size = fi - pa) := by show _ = _; rw [← size_lst, HX1.out]; exact HC.out
        have HT : Hid (flT (gpT true 0 ((scW l).take (k + 1))) = flT (gpT true 0 ((scW l).take k)) ++ [.int .i64 (kd : Int), .int .i64 ((B.size : Int) + (G.size : Int)), .int .i64 ((B.size : Int) + (G.size : Int) + (X.size : Int)), .string tb]) := by
          show _ = _
          rw [HGT.out, flT_snoc, HSP.out, ← HBz.out]
          dsimp only
          rw [HTB.out]
          have e1 : ((B.size + (gapL true).length : Nat) : Int) = (B.size : Int) + (G.size : Int) := by rw [HGs.out]; omega
          have e2 : ((B.size + (gapL true).length + (fi - pa) : Nat) : Int) = (B.size : Int) + (G.size : Int) + (X.size : Int) := by rw [HX2.out]; omega
          rw [e1, e2]
          first | done | rfl
        have HBl2 : Hid ((B ++ G ++ X).data.toList = gpW true l ((scW l).take (k + 1))) := by
          show _ = _
          rw [HGW.out, HSP.out, ByteArray.data_append, Array.toList_append, HX1.out, ByteArray.data_append, Array.toList_append, HBl.out, HGl.out]
          simp
        have HBs2 : Hid ((B ++ G ++ X).size ≤ 8388624) := by
          show _ ≤ _
          rw [← size_lst, HBl2.out]
          have h3 := HL2.out
          have h4 := HL.out
          omega
        have hws8 : w1.heap.size ≤ w8.heap.size := HQ9.out.1.size
        obtain ⟨W9, hW9⟩ : ∃ W9, w8.setCell ⟨wq.heap.size, 2, none⟩ (.int .i64 ((B.size : Int) + (G.size : Int) + (X.size : Int))) = W9 := ⟨_, rfl⟩
        have hrow : W9.ownsRow w1.heap.size 23 4 (.slice so k sc) k (flT (gpT true 0 ((scW l).take k))) := by rw [← hW9]; exact own_setT HQ9.out.2 (fun e => Nat.lt_irrefl _ (HOB.out _ e))
        have HBW : Hid (Below w1.heap.size w1 W9) := by rw [← hW9]; exact HQ9.out.1.setCell (p := ⟨wq.heap.size, 2, none⟩) hwsq _
        have hx9 : W9.heap[wq.heap.size]? = some (.cells #[.int .i64 (kd : Int), .int .i64 ((B.size : Int) + (G.size : Int)), .int .i64 ((B.size : Int) + (G.size : Int) + (X.size : Int)), .string tb] 23 (0, 0)) := by rw [← hW9]; exact heap_setCell_same w8 wq.heap.size 2 _ _ _ HBX2.out
        obtain ⟨m0, m1, m2, m3, _⟩ := tbox_cells hx9
        have hws9 := HBW.out.size
        have HW9 := Hid.mk hW9
        clear hW9 hx9 HBX2 HQ9
        go_upto_region 22 with fail
        rw [HW9.out]
        clear k0 k1 k2 k3 g0 g1 g2 g3
        go_wp2_with (at_builtin; go_loud (refine wpList_append_own _ rfl _ _ 24 rfl w1.heap.size 23 i0 (.agg #[.int .i64 0, .int .i64 0, .int .i64 0, .string ⟨#[]⟩]) 4 40 Tryd.underlying24 hi0 hz0 hz1 hz2 rfl (by decide) _ _ _ rfl (hrow.alloc _) ⟨W9.heap.size, 0, none⟩ 1 1 [.int .i64 (kd : Int), .int .i64 ((B.size : Int) + (G.size : Int)), .int .i64 ((B.size : Int) + (G.size : Int) + (X.size : Int)), .string tb] rfl rfl (new4 (heap_alloc_new W9 _)) (by intro u hu; simp at hu; rcases hu with rfl | rfl | rfl | rfl <;> rfl) (by unfold maxLen; omega) (by omega) (by simp; omega) ?_))
        intro v' w5 hown' hgrow _
        obtain ⟨g', cap', rfl⟩ := ownsRow_succ hown'
        have hgs := hgrow.size
        simp at hgs
        have HW5 : Hid (Below w1.heap.size w1 w5 ∧ w5.ownsRow w1.heap.size 23 4 (.slice (some ⟨g', 0, none⟩) (k + 1) cap') (k + 1) (flT (gpT true 0 ((scW l).take (k + 1))))) := ⟨(HBW.out.alloc hws9 _).grown hgrow (by simp; omega) (fun r e => own_baseW hrow r e), by rw [HT.out]; exact hown'⟩
        clear hown' hgrow hrow
        go_wp2_with fail
        go_roundw
        case rel => exact ⟨k + 1, B ++ G ++ X, _, _, by omega, rfl, rfl, by go_num, HBs2.out, by omega, HBl2, HW5⟩
        case measure => simp [intOf]; omega
      · have hi1 : ¬ (k : Int) < (N : Int) := by omega
        obtain rfl : k = N := by omega
        have HTK : Hid ((scW l).take k = scW l) := List.take_of_length_le (by rw [HN.out]; exact Nat.le_refl _)
        rw [HTK.out] at HBl HQ
        have HAG := Hid.mk (sc_gap true HAll.out)
        have HGL : Hid ((gpT true 0 (scW l)).length = k) := by show _ = _; rw [gpT_len]; exact HN.out.symm
        have HOK := Hid.mk (gpT_ok true (scW l) 0)
        clear HTK HG T1
        have HB6 := Hid.mk (HB1.out.trans (HQ.out.1.mono HB1.out.size))
        have hsz : (B ++ G).size ≤ 16777216 := by rw [ByteArray.size_append]; omega
        have heq : (B ++ G).data.toList = gpW true l (scW l) ++ gapL true := by rw [ByteArray.data_append, Array.toList_append, HBl.out, HGl.out]
        have hsc := w_wScan (B ++ G) wr hsz (HE.out.keep HB6.out)
        rw [heq] at hsc
        unfold ScR at hsc
        rw [HAG.out] at hsc
        have HSC := Hid.mk hsc
        have f6 : ¬ 9223372036854775807 < B.size + G.size := by omega
        have f7 : ¬ (9223372036854775807 : Int) < (B.size : Int) + (G.size : Int) := by omega
        clear hsc heq hsz HBl
        go_wp2_with fail
        refine HSC.out.mono ?_
        rintro e w7 ⟨⟨_, so3, sc3, rfl, HR3⟩ | ⟨pre3, x3, h3, hx3, rfl⟩, hb7⟩
        · have HB7 := Hid.mk (HB6.out.trans (hb7.mono HB6.out.size))
          have hq := below_row hb7 HQ.out.2
          rw [show k = (gpT true 0 (scW l)).length from HGL.out.symm] at hq
          obtain ⟨tw, cw⟩ := trow_own hq
          obtain ⟨t3, c3⟩ := trow_own HR3.out
          have HST := Hid.mk (w_SameTokens (gpT true 0 (scW l)) so3 so sc3 sc w7 (by rw [HGL.out]; omega) t3 tw c3 cw)
          rw [HGL.out] at HST ⊢
          clear hb7 hq tw cw t3 c3 HR3 HSC
          go_wp2_with fail
          refine HST.out.mono ?_
          rintro e w8 ⟨rfl, hb8⟩
          have HB8 := Hid.mk (HB7.out.trans (hb8.mono HB7.out.size))
          clear hb8
          go_wp2_with fail
          go_ret
          exact ⟨rfl, HB8.out⟩
        · exact absurd (HOK.out x3 (by rw [h3]; simp)) hx3
  · have HB1 := Hid.mk (HB0.out.trans (hb1.mono HB0.out.size))
    have hne1 : (((x1.err : Nat) : Int) == 0) = false := by rw [beq_eq_false_iff_ne]; omega
    have hne2 : ¬ ((x1.err : Nat) : Int) = 0 := by omega
    clear hb1 ha1 hx1
    go_wp2_with fail
    go_ret
    exact ⟨rfl, HB1.out⟩

theorem w_WordGaps (s : ByteArray) (b : Bool) (w : World) (ss : s.size ≤ 1048576) (hE : ErrIn w) : Calls Tryd.prog 4 #[.string s, .bool b] w fun e w' => e = .returned (.bool true) ∧ Below w.heap.size w w' := by
  cases b
  · exact w_WordGaps_false s w ss hE
  · exact w_WordGaps_true s w ss hE
end Go.Proofs.YtohclfgghobldaaDoor
