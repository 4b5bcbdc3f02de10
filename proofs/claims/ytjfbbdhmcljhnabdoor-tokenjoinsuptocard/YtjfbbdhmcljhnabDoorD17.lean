import Derived.Test.YtjfbbdhmcljhnabDoorD16
namespace Go.Proofs.YtjfbbdhmcljhnabDoor
open Go.RowKit Go.Shelf
set_option linter.unusedVariables false
set_option linter.unusedSimpArgs false
attribute [local go_sem] Oper.semAt_some

theorem join_bytes (a b : ByteArray) : (a ++ ⟨#[10]⟩ ++ b).data.toList = a.data.toList ++ 10 :: b.data.toList := by simp

set_option maxRecDepth 100000 in
set_option maxHeartbeats 6400000 in
theorem w_TokenJoins (a b : ByteArray) (w : World) (sa : a.size ≤ 1048576) (sb : b.size ≤ 1048576) (hE : ErrIn w) : Calls Tryd.prog 7 #[.string a, .string b] w fun e w' => e = .returned (.bool true) ∧ Below w.heap.size w w' := by
  obtain ⟨i0, hi0, hz0, hz1, hz2⟩ := info_parts Tryd.infoTok
  have HE := Hid.mk hE
  have hsz : (a ++ ⟨#[10]⟩ ++ b : ByteArray).size = a.size + 1 + b.size := by rw [ByteArray.size_append, ByteArray.size_append]; rfl
  have hsz1 : (a ++ ⟨#[10]⟩ : ByteArray).size = a.size + 1 := by rw [ByteArray.size_append]; rfl
  have HA := Hid.mk (fun u (h : ErrIn u) => w_Scan a u (by omega) h)
  have HB := Hid.mk (fun u (h : ErrIn u) => w_Scan b u (by omega) h)
  have HZ := Hid.mk (fun u (h : ErrIn u) => w_Scan (a ++ ⟨#[10]⟩ ++ b) u (by omega) h)
  rw [join_bytes] at HZ
  have HK := Hid.mk (w_lTokenKnown w hE)
  clear hE hsz hsz1
  obtain ⟨la, hla⟩ : ∃ la, la = a.data.toList := ⟨_, rfl⟩
  obtain ⟨lb, hlb⟩ : ∃ lb, lb = b.data.toList := ⟨_, rfl⟩
  have HLa : Hid (la.length = a.size) := by show _ = _; rw [hla]; exact size_lst a
  have HLb : Hid (lb.length = b.size) := by show _ = _; rw [hlb]; exact size_lst b
  rw [← hla] at HA HZ
  rw [← hlb] at HB HZ
  clear hla hlb
  refine (callsIn_wide (n := 7)).1 ?_
  refine callsIn_of_wp Tryd.func7 rfl trivial ?_ rfl
  simp only [Tryd.ntmps7, List.size_toArray, List.length_cons, List.length_nil, Nat.reduceAdd, Nat.reduceSub, Array.replicate_succ, Array.replicate_zero, List.push_toArray, List.append_toArray, List.nil_append, List.cons_append]
  gi_wp2_with fail
  refine ⟨trivial, (callsIn_wide.2 HK.out).mono ?_⟩
  rintro e w0 ⟨rfl, hb0⟩
  have HB0 := Hid.mk hb0
  clear hb0 HK
  gi_wp2_with fail
  refine ⟨trivial, (callsIn_wide.2 (HA.out w0 (HE.out.keep HB0.out))).mono ?_⟩
  rintro e w1 ⟨⟨ha, so1, sc1, rfl, HR1⟩ | ⟨pre1, x1, ha1, hx1, rfl⟩, hb1⟩
  · have HB1 := Hid.mk (HB0.out.trans (hb1.mono HB0.out.size))
    have HAll1 := Hid.mk ha
    clear hb1 ha
    gi_wp2_with fail
    refine ⟨trivial, (callsIn_wide.2 (HB.out w1 (HE.out.keep HB1.out))).mono ?_⟩
    rintro e w2 ⟨⟨hbb, so2, sc2, rfl, HR2⟩ | ⟨pre2, x2, hb2a, hx2, rfl⟩, hb2⟩
    · have HB2 := Hid.mk (HB1.out.trans (hb2.mono HB1.out.size))
      have HZok := Hid.mk (join_ok HAll1.out hbb)
      have HJ := Hid.mk (allY_join (b := lb) HAll1.out)
      have HG2 := Hid.mk (good_mem _ _ (good_all hbb))
      have HBb := Hid.mk hb2
      have HAll2 := Hid.mk hbb
      clear hb2 hbb
      gi_wp2_with fail
      refine ⟨trivial, (callsIn_wide.2 (HZ.out w2 (HE.out.keep HB2.out))).mono ?_⟩
      rintro e w3 ⟨⟨_, so3, sc3, rfl, HR3⟩ | ⟨pre3, x3, h3, hx3, rfl⟩, hb3⟩
      · have HB3 := Hid.mk (HB2.out.trans (hb3.mono HB2.out.size))
        obtain ⟨t1, c1⟩ := trow_own HR1.out
        obtain ⟨t2, c2⟩ := trow_own HR2.out
        obtain ⟨t3, c3⟩ := trow_own HR3.out
        have T1 := Hid.mk (t1.keep (HBb.out.trans (hb3.mono HBb.out.size)))
        have T2 := Hid.mk (t2.keep hb3)
        have T3 := Hid.mk t3
        have hl1 := allY_len la
        have hl2 := allY_len lb
        rw [HLa.out] at hl1
        rw [HLb.out] at hl2
        obtain ⟨N1, hN1⟩ : ∃ N1, N1 = (allY la).length := ⟨_, rfl⟩
        obtain ⟨N2, hN2⟩ : ∃ N2, N2 = (allY lb).length := ⟨_, rfl⟩
        obtain ⟨N3, hN3⟩ : ∃ N3, N3 = (allY (la ++ 10 :: lb)).length := ⟨_, rfl⟩
        rw [← hN1] at c1 hl1 ⊢
        rw [← hN2] at c2 hl2 ⊢
        rw [← hN3] at c3 ⊢
        have HN1 := Hid.mk hN1
        have HN2 := Hid.mk hN2
        have HN3 := Hid.mk hN3
        clear hN1 hN2 hN3 t1 t2 t3 hb3 HR1 HR2 HR3 HA HB HZ
        gi_wp2_with fail
        gi_loopw [14, 15] (fun v i wr => ∃ (k : Nat) (so : Option Addr) (sc : Nat), k ≤ N1 ∧ v = .slice so k sc ∧ i = .int .i64 (k : Int) ∧ w3.heap.size ≤ wr.heap.size ∧ Hid (Below w3.heap.size w3 wr ∧ wr.ownsRow w3.heap.size 31 4 (.slice so k sc) k (flT ((allY la).take k)))) (fun _ i _ => N1 - (intOf i).toNat)
        case atStart => exact ⟨0, none, 0, Nat.zero_le _, rfl, rfl, Nat.le_refl _, Below.refl _ _, World.ownsRow_nil _ _ _ _⟩
        case round =>
          obtain ⟨k, so, sc, hk, rfl, rfl, hws, HQ⟩ := hrel
          by_cases hlt : k < N1
          · have hi1 : (k : Int) < (N1 : Int) := by omega
            have hi0' : (0 : Int) ≤ (k : Int) := by omega
            have hk2 : k < (allY la).length := by rw [← HN1.out]; exact hlt
            obtain ⟨g, off, rfl, hg, a0, a1, a2, a3⟩ := (T1.out.keep HQ.out.1) k hk2
            have HT : Hid (flT ((allY la).take (k + 1)) = flT ((allY la).take k) ++ [.int .i64 ((allY la)[k].kind : Int), .int .i64 ((allY la)[k].at_ : Int), .int .i64 ((allY la)[k].fin : Int), .string ⟨(allY la)[k].text.toArray⟩]) := by
              show _ = _
              rw [List.take_add_one, List.getElem?_eq_getElem hk2]
              exact flT_snoc _ _
            generalize (allY la)[k] = t at *
            obtain ⟨kd, pa, fi, tx, er⟩ := t
            dsimp only at HT a0 a1 a2 a3
            have hrow := HQ.out.2
            clear hk2
            gi_wp2_with (gi_at_builtin; refine wpListIn_append_own_at _ rfl _ _ 22 rfl w3.heap.size 31 i0 (.agg #[.int .i64 0, .int .i64 0, .int .i64 0, .string ⟨#[]⟩]) 4 40 Tryd.underlying22 hi0 hz0 hz1 hz2 rfl (by decide) _ _ _ rfl (hrow.alloc _) ⟨wr.heap.size, 0, none⟩ 1 1 [.int .i64 (kd : Int), .int .i64 (pa : Int), .int .i64 (fi : Int), .string ⟨tx.toArray⟩] rfl rfl (new4 (heap_alloc_new wr _)) (by intro u hu; simp at hu; rcases hu with rfl | rfl | rfl | rfl <;> rfl) (by unfold maxLen; omega) (by omega) (by simp; omega) ?_; intro v' w5 hown' hgrow _ _; obtain ⟨g', cap', rfl⟩ := ownsRow_succ hown'; have hgs := hgrow.size; simp at hgs; have HW5 : Hid (Below w3.heap.size w3 w5 ∧ w5.ownsRow w3.heap.size 31 4 (.slice (some ⟨g', 0, none⟩) (k + 1) cap') (k + 1) (flT ((allY la).take (k + 1)))) := ⟨(HQ.out.1.alloc hws _).grown hgrow (by simp; omega) (fun r e => own_baseT hrow e), by rw [HT.out]; exact hown'⟩; clear hown' hgrow)
            go_roundw
            case rel => exact ⟨k + 1, _, _, by omega, rfl, by go_num, by omega, HW5⟩
            case measure => simp [intOf]; omega
          · have hi1 : ¬ (k : Int) < (N1 : Int) := by omega
            obtain rfl : k = N1 := by omega
            have HQ2 : Hid (Below w3.heap.size w3 wr ∧ wr.ownsRow w3.heap.size 31 4 (.slice so (k + 0) sc) (k + 0) (flT (allY la ++ ((allY lb).take 0).map (shiftT (la.length + 1))))) := by
              refine ⟨HQ.out.1, ?_⟩
              have := HQ.out.2
              rw [List.take_of_length_le (by rw [HN1.out]; exact Nat.le_refl _)] at this
              simpa using this
            clear HQ
            gi_wp2_with fail
            gi_loopw [14, 16] (fun v i wr => ∃ (j : Nat) (so : Option Addr) (sc : Nat), j ≤ N2 ∧ v = .slice so (k + j) sc ∧ i = .int .i64 (j : Int) ∧ w3.heap.size ≤ wr.heap.size ∧ Hid (Below w3.heap.size w3 wr ∧ wr.ownsRow w3.heap.size 31 4 (.slice so (k + j) sc) (k + j) (flT (allY la ++ ((allY lb).take j).map (shiftT (la.length + 1)))))) (fun _ i _ => N2 - (intOf i).toNat)
            case atStart => exact ⟨0, so, sc, Nat.zero_le _, rfl, rfl, hws, HQ2⟩
            case round =>
              clear HQ2 hws
              obtain ⟨j, so, sc, hj, rfl, rfl, hws, HQ⟩ := hrel
              by_cases hlt2 : j < N2
              · have hj1 : (j : Int) < (N2 : Int) := by omega
                have hj0 : (0 : Int) ≤ (j : Int) := by omega
                have hk2 : j < (allY lb).length := by rw [← HN2.out]; exact hlt2
                obtain ⟨g, off, rfl, hg, a0, a1, a2, a3⟩ := (T2.out.keep HQ.out.1) j hk2
                have hgm := HG2.out (allY lb)[j] (List.getElem_mem hk2)
                have her := HAll2.out (allY lb)[j] (List.getElem_mem hk2)
                rw [HLb.out] at hgm
                have HT : Hid (flT (allY la ++ ((allY lb).take (j + 1)).map (shiftT (la.length + 1))) = flT (allY la ++ ((allY lb).take j).map (shiftT (la.length + 1))) ++ [.int .i64 ((allY lb)[j].kind : Int), .int .i64 (((allY lb)[j].at_ : Int) + (a.size : Int) + 1), .int .i64 (((allY lb)[j].fin : Int) + (a.size : Int) + 1), .string ⟨(allY lb)[j].text.toArray⟩]) := by
                  show _ = _
                  rw [List.take_add_one, List.getElem?_eq_getElem hk2, List.map_append, ← List.append_assoc]
                  show flT (_ ++ [shiftT (la.length + 1) (allY lb)[j]]) = _
                  rw [flT_snoc]
                  unfold shiftT
                  rw [if_pos her, HLa.out]
                  have e1 : ((a.size + 1 + (allY lb)[j].at_ : Nat) : Int) = ((allY lb)[j].at_ : Int) + (a.size : Int) + 1 := by omega
                  have e2 : ((a.size + 1 + (allY lb)[j].fin : Nat) : Int) = ((allY lb)[j].fin : Int) + (a.size : Int) + 1 := by omega
                  dsimp only
                  rw [e1, e2]
                clear her
                generalize (allY lb)[j] = t at *
                obtain ⟨kd, pa, fi, tx, er⟩ := t
                dsimp only at HT a0 a1 a2 a3 hgm
                obtain ⟨hg1, hg2⟩ := hgm
                have hrow := HQ.out.2
                clear hk2
                gi_wp2_with (gi_at_builtin; go_loud (refine wpListIn_append_own_at _ rfl _ _ 22 rfl w3.heap.size 31 i0 (.agg #[.int .i64 0, .int .i64 0, .int .i64 0, .string ⟨#[]⟩]) 4 40 Tryd.underlying22 hi0 hz0 hz1 hz2 rfl (by decide) _ _ _ rfl ((hrow.alloc _).alloc _) ⟨wr.heap.size + 1, 0, none⟩ 1 1 [.int .i64 (kd : Int), .int .i64 ((pa : Int) + (a.size : Int) + 1), .int .i64 ((fi : Int) + (a.size : Int) + 1), .string ⟨tx.toArray⟩] rfl rfl (new4 (t := 31) (by rw [show wr.heap.size + 1 = (wr.alloc (.cells #[.int .i64 (kd : Int), .int .i64 ((pa : Int) + (a.size : Int) + 1), .int .i64 ((fi : Int) + (a.size : Int) + 1), .string ⟨tx.toArray⟩] 31)).heap.size from by simp]; exact heap_alloc_new _ _)) (by intro u hu; simp at hu; rcases hu with rfl | rfl | rfl | rfl <;> rfl) (by unfold maxLen; omega) (by omega) (by simp; omega) ?_; intro v' w5 hown' hgrow _ _; obtain ⟨g', cap', rfl⟩ := ownsRow_succ hown'; have hgs := hgrow.size; simp at hgs; have HW5 : Hid (Below w3.heap.size w3 w5 ∧ w5.ownsRow w3.heap.size 31 4 (.slice (some ⟨g', 0, none⟩) (k + j + 1) cap') (k + j + 1) (flT (allY la ++ ((allY lb).take (j + 1)).map (shiftT (la.length + 1))))) := ⟨((HQ.out.1.alloc hws _).alloc (by simp; omega) _).grown hgrow (by simp; omega) (fun r e => own_baseT hrow e), by rw [HT.out]; exact hown'⟩; clear hown' hgrow))
                go_roundw
                case rel => exact ⟨j + 1, _, _, by omega, rfl, by go_num, by omega, HW5⟩
                case measure => simp [intOf]; omega
              · have hj1 : ¬ (j : Int) < (N2 : Int) := by omega
                obtain rfl : j = N2 := by omega
                have hfull : flT (allY la ++ ((allY lb).take j).map (shiftT (la.length + 1))) = flT (allY (la ++ 10 :: lb)) := by
                  rw [List.take_of_length_le (by rw [HN2.out]; exact Nat.le_refl _), HJ.out]
                have hn3 : k + j = (allY (la ++ 10 :: lb)).length := by rw [HJ.out, List.length_append, List.length_map, ← HN1.out, ← HN2.out]
                have hq := HQ.out.2
                rw [hfull, hn3] at hq
                obtain ⟨tw, cw⟩ := trow_own hq
                have HST := Hid.mk (w_SameTokens (allY (la ++ 10 :: lb)) so3 so sc3 sc wr (by omega) (T3.out.keep HQ.out.1) tw (by rw [← HN3.out]; exact c3) cw)
                rw [← HN3.out] at HST
                have HN : Hid (k + j = N3) := by show _ = _; rw [hn3, HN3.out]
                have HBw := Hid.mk (HB3.out.trans (HQ.out.1.mono HB3.out.size))
                clear hfull hn3 hq tw cw HQ
                gi_wp2_with fail
                rw [HN.out]
                refine ⟨trivial, (callsIn_wide.2 HST.out).mono ?_⟩
                rintro e w6 ⟨rfl, hb6⟩
                have HB6 := Hid.mk (HBw.out.trans (hb6.mono HBw.out.size))
                clear hb6
                gi_wp2_with fail
                go_ret
                exact ⟨rfl, HB6.out⟩
      · exact absurd (HZok.out x3 (by rw [h3]; simp)) hx3
    · have HB2 := Hid.mk (HB1.out.trans (hb2.mono HB1.out.size))
      have HBad := Hid.mk (join_bad HAll1.out hb2a hx2)
      have hne2 : (((x2.err : Nat) : Int) == 0) = false := by rw [beq_eq_false_iff_ne]; omega
      clear hb2 hb2a hx2
      gi_wp2_with fail
      refine ⟨trivial, (callsIn_wide.2 (HZ.out w2 (HE.out.keep HB2.out))).mono ?_⟩
      rintro e w3 ⟨⟨hz, _⟩ | ⟨pre3, x3, _, hx3, rfl⟩, hb3⟩
      · exact absurd hz HBad.out
      · have HB3 := Hid.mk (HB2.out.trans (hb3.mono HB2.out.size))
        have hne3 : (((x3.err : Nat) : Int) == 0) = false := by rw [beq_eq_false_iff_ne]; omega
        clear hb3 hx3
        gi_wp2_with fail
        go_ret
        exact ⟨by show Ending.returned (.bool (((x3.err : Nat) : Int) != 0)) = _; rw [bne, hne3]; rfl, HB3.out⟩
  · have HB1 := Hid.mk (HB0.out.trans (hb1.mono HB0.out.size))
    have hne1 : (((x1.err : Nat) : Int) == 0) = false := by rw [beq_eq_false_iff_ne]; omega
    clear hb1 ha1 hx1
    gi_wp2_with fail
    refine ⟨trivial, (callsIn_wide.2 (HB.out w1 (HE.out.keep HB1.out))).mono ?_⟩
    intro e w2 h2
    obtain ⟨so2, n2, sc2, f2, p2, rfl, hb2⟩ := scan_any h2
    have HB2 := Hid.mk (HB1.out.trans (hb2.mono HB1.out.size))
    clear h2 hb2
    gi_wp2_with fail
    refine ⟨trivial, (callsIn_wide.2 (HZ.out w2 (HE.out.keep HB2.out))).mono ?_⟩
    intro e w3 h3
    obtain ⟨so3, n3, sc3, f3, p3, rfl, hb3⟩ := scan_any h3
    have HB3 := Hid.mk (HB2.out.trans (hb3.mono HB2.out.size))
    clear h3 hb3
    gi_wp2_with fail
    go_ret
    exact ⟨rfl, HB3.out⟩
end Go.Proofs.YtjfbbdhmcljhnabDoor
