import Derived.Test.YtcadknhedfnaoaaGreatDoorM44
import Derived.Test.YtcadknhedfnaoaaGreatDoorM49
import Derived.Test.YtcadknhedfnaoaaGreatDoorM11
namespace Go.Proofs.YtcadknhedfnaoaaGreatDoor
open Go.RowKit
set_option linter.unusedVariables false
set_option linter.unusedSimpArgs false

theorem sg_none {n : Nat} (h : sgN n = 0) : sgn n = none := by
  unfold sgN at h; unfold sgn
  repeat' split at h
  all_goals first | omega | skip
  rename_i a b c d e f g
  rw [if_neg a, if_neg b, if_neg c, if_neg d, if_neg e, if_neg f, if_neg g]
theorem sg_some {n : Nat} (h : sgN n ≠ 0) : sgn n = some (UInt8.ofNat (sgN n)) := by
  unfold sgN at h ⊢; unfold sgn
  repeat' split
  all_goals first | rfl | skip
  rename_i a b c d e f g
  rw [if_neg a, if_neg b, if_neg c, if_neg d, if_neg e, if_neg f, if_neg g] at h
  exact absurd rfl h
theorem qd_sign {n : Nat} (h : sgN n ≠ 0) : qd n = [92, UInt8.ofNat (sgN n)] := by unfold qd; rw [sg_some h]
theorem qd_unit {n : Nat} (h : sgN n = 0) (h2 : n < 32 ∨ n = 127) : qd n = unit n := by unfold qd; rw [sg_none h]; exact if_pos h2
theorem qd_enc {n : Nat} (h : sgN n = 0) (h2 : ¬ (n < 32 ∨ n = 127)) : qd n = enc n := by unfold qd; rw [sg_none h]; exact if_neg h2

structure RQ (w wr : World) (v : Value) (n : Nat) (l : List UInt8) : Prop where
  own : wr.ownsRow w.heap.size 5 1 v n (Lib.byteCells l)
  len : l.length = n
  below : Below w.heap.size w wr
theorem RQ.keep {w wr w' : World} {v : Value} {n : Nat} {l : List UInt8} (h : RQ w wr v n l) (hb : Below wr.heap.size wr w') : RQ w w' v n l := ⟨own_below' h.own hb, h.len, h.below.trans (hb.mono h.below.size)⟩

theorem qb_snoc (zs : List Nat) (z : Nat) : qb (zs ++ [z]) = qb zs ++ qd z := by simp [qb]
theorem ints_cell {w wr : World} {so : Option Addr} {sc N : Nat} {xs : List Int} (h : Ints .i64 w (.slice so N sc) xs) (hb : Below w.heap.size w wr) {k : Nat} (hk : k < N) : ∃ b off, so = some ⟨b, off, none⟩ ∧ b < w.heap.size ∧ wr.cell? ⟨b, off + k, none⟩ = some (.int .i64 (xs.getD k 0)) := by
  obtain ⟨ao, cap, e, hc, hx⟩ := h
  simp only [Value.slice.injEq] at e
  obtain ⟨rfl, hN, _⟩ := e
  obtain ⟨b, off, rfl, hlt, hcell⟩ := hx (by omega)
  exact ⟨b, off, rfl, hlt, (hb.cell (p := ⟨b, off + k, none⟩) hlt).trans (hcell k (by omega))⟩

set_option maxRecDepth 100000 in
set_option maxHeartbeats 6400000 in
theorem w_rQuote (s : ByteArray) (w : World) (hs : s.size ≤ 1048576) :
    Calls Tryz.prog 19 #[.string s] w fun e w' => e = .returned (.string ⟨(34 :: (qb (runes s.data.toList) ++ [34])).toArray⟩) ∧ Below w.heap.size w w' := by
  obtain ⟨i0, hi0, hz0, hz1, hz2⟩ := info_parts Tryz.infoB
  have hrl := runes_len_le s.data.toList
  rw [show s.data.toList.length = s.size by rw [Array.length_toList]; rfl] at hrl
  have HRn := Hid.mk (fun u => w_rRunes s u (by omega))
  have hisr := runes_isR s.data.toList
  generalize runes s.data.toList = zs at *
  obtain ⟨N, hN⟩ : ∃ N, zs.length = N := ⟨_, rfl⟩
  unfold ListR at HRn
  rw [toI_len, hN] at HRn
  rw [hN] at hrl
  have HN := Hid.mk hN
  have HIR := Hid.mk hisr
  clear hN hisr
  go_enter Tryz.func19, Tryz.ntmps19
  go_wp2_with fail
  refine (HRn.out _).mono ?_
  rintro e w1 ⟨so, sc, rfl, HI1, hb1⟩
  have HB1 := Hid.mk hb1
  have HC0 : Hid (RQ w1 (w1.alloc (.cells #[.int .u8 34] 5)) (.slice (some ⟨w1.heap.size, 0, none⟩) 1 1) 1 (34 :: qb (zs.take 0))) := by
    refine ⟨⟨rfl, .inr ⟨w1.heap.size, 1, _, rfl, Nat.le_refl _, heap_alloc_new w1 _, Nat.le_refl _, by unfold maxLen; omega, rfl, rfl⟩⟩, rfl, below1 w1 _⟩
  clear hb1 HRn
  go_wp2_with fail
  go_loopw [4, 5] (fun l i wr => ∃ (k n : Nat) (ao : Option Addr) (cap : Nat), k ≤ N ∧ n ≤ 6 * k + 1 ∧ l = .slice ao n cap ∧ i = .int .i64 (k : Int) ∧ Hid (RQ w1 wr (.slice ao n cap) n (34 :: qb (zs.take k)))) (fun _ i _ => N - (intOf i).toNat)
  case atStart => exact ⟨0, 1, _, 1, Nat.zero_le _, by omega, rfl, rfl, HC0⟩
  case round =>
    clear HC0
    obtain ⟨k, n, ao, cap, hk, hn6, rfl, rfl, HQ⟩ := hrel
    by_cases hlt : k < N
    · have hl1 : (k : Int) < (N : Int) := by omega
      obtain ⟨b, off, rfl, hbl, hcK⟩ := ints_cell HI1.out HQ.out.below hlt
      obtain ⟨z, hz⟩ : ∃ z, zs.getD k 0 = z := ⟨_, rfl⟩
      rw [toI_get, hz] at hcK
      have hkz : k < zs.length := by rw [HN.out]; exact hlt
      have HTk : Hid (34 :: qb (zs.take (k + 1)) = (34 :: qb (zs.take k)) ++ qd z) := by
        show _ = _
        have e : zs[k] = z := by rw [← hz]; simp [List.getD, hkz]
        rw [List.take_succ_eq_append_getElem hkz, e, qb_snoc]; rfl
      have hzR : isR z := by
        apply HIR.out
        rw [← hz]; simp [List.getD, hkz]
      have hzl : z ≤ 1114111 := by unfold isR at hzR; omega
      have HSg := Hid.mk (fun u => w_rsign z u (by omega))
      have HEn := Hid.mk (fun u => w_Encoding (z : Int) u)
      rw [rn_nat hzR] at HEn
      unfold BytesR at HEn
      have hsl := sgN_lt z
      have hbl2 : b < wr.heap.size := Nat.lt_of_lt_of_le hbl HQ.out.below.size
      have HCel : Hid (∀ wx, Below wr.heap.size wr wx → wx.cell? ⟨b, off + k, none⟩ = some (.int .i64 (z : Int))) := fun wx hb => (hb.cell (p := ⟨b, off + k, none⟩) hbl2).trans hcK
      clear hz hkz hzR hbl hbl2
      go_wp2_with fail
      refine (HSg.out _).mono ?_
      rintro e w2 ⟨rfl, hw⟩
      obtain rfl := hw.symm
      clear hw HSg
      go_wp2_with fail
      refine (HEn.out _).mono ?_
      rintro e w3 ⟨g, rfl, hg, HBR, hb3⟩
      have hcK3 := HCel.out _ hb3
      have HQ3 := Hid.mk (HQ.out.keep hb3)
      clear hb3 hcK HEn HCel hg
      by_cases h0 : sgN z = 0
      · have h01 : (((sgN z : Nat) : Int) != 0) = false := by simp; omega
        by_cases hu : z < 32 ∨ z = 127
        · have HU := Hid.mk (fun u => w_rUnit z u (by omega))
          unfold BytesR at HU
          rw [show (unit z).length = 6 from rfl] at HU
          have HD := Hid.mk (qd_unit h0 hu)
          have L6 : Hid ((unit z).length = 6) := rfl
          generalize unit z = U at HU HD L6
          generalize sgN z = sg at h01 hsl
          have hu' : (z : Int) < 32 ∨ (¬ (z : Int) < 32 ∧ (((z : Int) == 127) = true)) := by
            rcases hu with h | h
            · exact .inl (by omega)
            · exact .inr ⟨by omega, by rw [beq_iff_eq]; omega⟩
          clear h0 hu
          rcases hu' with hu1 | ⟨hu1, hu2⟩
          all_goals
            go_wp2_with fail
            refine (HU.out _).mono ?_
            rintro e w4 ⟨g4, rfl, hg4, HBRx, hb4⟩
            have HQ4 := Hid.mk (HQ3.out.keep hb4)
            clear hb4 hg4
            have hown := HQ4.out.own
            have hsz := HQ4.out.below.size
            have hcells := brow_cells HBRx.out
            have hone := bytes_one U
            have hnl : (Lib.byteCells U).length = 6 * 1 := by simp [Lib.byteCells, L6.out]
            go_wp2_with (at_builtin; refine wpList_append_own _ rfl (.tmp 48) (.tmp 49) 39 rfl w1.heap.size 5 i0 (.int .u8 0) 1 1 Tryz.underlying39 hi0 hz0 hz1 hz2 rfl (by decide) _ _ _ rfl hown ⟨g4, 0, none⟩ 6 6 (Lib.byteCells U) rfl hnl hcells hone (by unfold maxLen; omega) (by omega) hsz ?_)
            intro v5 w5 hown5 hgrow5 hnn
            obtain ⟨so5, c5, hv5⟩ := own_shape hown5
            subst hv5
            have HN5 : Hid (RQ w1 w5 (.slice so5 (n + 6) c5) (n + 6) (34 :: qb (zs.take (k + 1)))) := by
              refine ⟨?_, ?_, HQ4.out.below.grown hgrow5 hsz (own_base hown)⟩
              · rw [HTk.out, HD.out, Lib.byteCells_append]; exact hown5
              · rw [HTk.out, HD.out, List.length_append, HQ4.out.len, L6.out]
            clear hown5 hgrow5 hnn hown hcells hone hnl
            go_wp2_with fail
            go_roundw
            case rel => exact ⟨k + 1, n + 6, so5, c5, hlt, by omega, rfl, by go_num, HN5⟩
            case measure => simp [intOf]; omega
        · have HD := Hid.mk (qd_enc h0 hu)
          have hel := enc_len z
          have HBRx := HBR
          obtain ⟨el, hel2⟩ : ∃ el, (enc z).length = el := ⟨_, rfl⟩
          have HLl := Hid.mk hel2
          rw [hel2] at hel
          have hu1 : ¬ (z : Int) < 32 := by omega
          have hu2 : ((z : Int) == 127) = false := by rw [beq_eq_false_iff_ne]; omega
          rw [hel2]
          generalize enc z = U at HD HBRx HLl HBR
          generalize sgN z = sg at h01 hsl
          clear h0 hu hel2
          have hown := HQ3.out.own
          have hsz := HQ3.out.below.size
          have hcells := brow_cells HBRx.out
          have hone := bytes_one U
          have hnl : (Lib.byteCells U).length = el * 1 := by simp [Lib.byteCells, HLl.out]
          go_wp2_with (at_builtin; refine wpList_append_own _ rfl (.tmp 48) (.tmp 49) 39 rfl w1.heap.size 5 i0 (.int .u8 0) 1 1 Tryz.underlying39 hi0 hz0 hz1 hz2 rfl (by decide) _ _ _ rfl hown ⟨g, 0, none⟩ el el (Lib.byteCells U) rfl hnl hcells hone (by unfold maxLen; omega) (by omega) hsz ?_)
          intro v5 w5 hown5 hgrow5 hnn
          obtain ⟨so5, c5, hv5⟩ := own_shape hown5
          subst hv5
          have HN5 : Hid (RQ w1 w5 (.slice so5 (n + el) c5) (n + el) (34 :: qb (zs.take (k + 1)))) := by
            refine ⟨?_, ?_, HQ3.out.below.grown hgrow5 hsz (own_base hown)⟩
            · rw [HTk.out, HD.out, Lib.byteCells_append]; exact hown5
            · rw [HTk.out, HD.out, List.length_append, HQ3.out.len, HLl.out]
          clear hown5 hgrow5 hnn hown hcells hone hnl
          go_wp2_with fail
          go_roundw
          case rel => exact ⟨k + 1, n + el, so5, c5, hlt, by omega, rfl, by go_num, HN5⟩
          case measure => simp [intOf]; omega
      · have h01 : (((sgN z : Nat) : Int) != 0) = true := by simp; omega
        have HD := Hid.mk (qd_sign h0)
        have HS1 : Hid ((((UInt8.ofNat (sgN z)).toNat : Nat) : Int) = ((sgN z : Nat) : Int)) := by show _ = _; rw [UInt8.toNat_ofNat']; omega
        generalize enc z = E0 at HBR ⊢
        have HBRx : Hid (BRow (w3.alloc (.cells #[.int .u8 92, .int .u8 ((sgN z : Nat) : Int)] 5)) w3.heap.size [92, UInt8.ofNat (sgN z)]) := by
          show BRow _ _ _
          unfold BRow
          rw [heap_alloc_new]
          congr 2
          simp only [Lib.byteCells, List.map_cons, List.map_nil]
          rw [HS1.out]
          rfl
        have HQ4 := Hid.mk (HQ3.out.keep (below1 w3 (.cells #[.int .u8 92, .int .u8 ((sgN z : Nat) : Int)] 5)))
        have L2 : Hid (([92, UInt8.ofNat (sgN z)] : List UInt8).length = 2) := rfl
        generalize ([92, UInt8.ofNat (sgN z)] : List UInt8) = U at HD HBRx L2
        generalize sgN z = sg at h01 hsl HBRx HQ4 HS1
        clear h0
        have hown := HQ4.out.own
        have hsz := HQ4.out.below.size
        have hcells := brow_cells HBRx.out
        have hone := bytes_one U
        have hnl : (Lib.byteCells U).length = 2 * 1 := by simp [Lib.byteCells, L2.out]
        go_wp2_with (at_builtin; refine wpList_append_own _ rfl (.tmp 48) (.tmp 49) 39 rfl w1.heap.size 5 i0 (.int .u8 0) 1 1 Tryz.underlying39 hi0 hz0 hz1 hz2 rfl (by decide) _ _ _ rfl hown ⟨w3.heap.size, 0, none⟩ 2 2 (Lib.byteCells U) rfl hnl hcells hone (by unfold maxLen; omega) (by omega) hsz ?_)
        intro v5 w5 hown5 hgrow5 hnn
        obtain ⟨so5, c5, hv5⟩ := own_shape hown5
        subst hv5
        have HN5 : Hid (RQ w1 w5 (.slice so5 (n + 2) c5) (n + 2) (34 :: qb (zs.take (k + 1)))) := by
          refine ⟨?_, ?_, HQ4.out.below.grown hgrow5 hsz (own_base hown)⟩
          · rw [HTk.out, HD.out, Lib.byteCells_append]; exact hown5
          · rw [HTk.out, HD.out, List.length_append, HQ4.out.len, L2.out]
        clear hown5 hgrow5 hnn hown hcells hone hnl
        go_wp2_with fail
        go_roundw
        case rel => exact ⟨k + 1, n + 2, so5, c5, hlt, by omega, rfl, by go_num, HN5⟩
        case measure => simp [intOf]; omega
    · have hl1 : ¬ (k : Int) < (N : Int) := by omega
      have hkN : k = N := by omega
      have hown := HQ.out.own
      have hsz := HQ.out.below.size
      have HTA : Hid (zs.take k = zs) := List.take_of_length_le (by rw [HN.out]; omega)
      have HLn := Hid.mk HQ.out.len
      clear hkN
      go_wp2_with (at_builtin; refine wpList_append_own _ rfl (.tmp 51) (.tmp 52) 39 rfl w1.heap.size 5 i0 (.int .u8 0) 1 1 Tryz.underlying39 hi0 hz0 hz1 hz2 rfl (by decide) _ _ _ rfl (hown.alloc _) ⟨wr.heap.size, 0, none⟩ 1 1 [.int .u8 34] rfl rfl (by intro j u hj; match j, hj with | 0, hj => simp at hj; subst hj; simp [Addr.add]) (by intro u hu; simp at hu; subst hu; rfl) (by unfold maxLen; omega) (by omega) (by simp; omega) ?_)
      intro v5 w5 hown5 hgrow5 hnn
      obtain ⟨so5, c5, hv5⟩ := own_shape hown5
      subst hv5
      rw [HTA.out, bytes_snoc _ 34 34 rfl] at hown5
      have hcv := conv_own' (by rw [List.length_append]; rw [HTA.out] at HLn; rw [HLn.out]; rfl) hown5
      have HB5 := Hid.mk (below_more HB1.out (below_app hown hsz HQ.out.below hgrow5))
      clear hown5 hgrow5 hnn hown
      go_wp2_with fail
      go_ret
      exact ⟨rfl, HB5.out⟩
end Go.Proofs.YtcadknhedfnaoaaGreatDoor
