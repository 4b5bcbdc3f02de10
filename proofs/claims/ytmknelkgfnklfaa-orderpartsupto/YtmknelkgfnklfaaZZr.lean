import Derived.Test.YtmknelkgfnklfaaZZq
namespace Go.Proofs.Ytmknelkgfnklfaa
open Go.RowKit Go.Shelf Go.Sort
set_option linter.unusedVariables false
set_option linter.unusedSimpArgs false

theorem ApS.next {w0 wr w3 : World} {h k : Nat} {us : List VT} {v v3 : Value} {o : Obj} {T : VT} {y0 y1 y2 y3 y4 : Value} (H : ApS w0 wr h us v) (hk : us.length = k) (c : Nat → Fin 5 → Value) (h2 : wr.ownsRow w0.heap.size 25 5 v k (flat c k)) (h3 : ∀ i, (hi : i < us.length) → InH w0 h us[i] (.agg #[c i 0, c i 1, c i 2, c i 3, c i 4]))
    (hT : InH w0 h T (.agg #[y0, y1, y2, y3, y4])) (hg : (wr.alloc o).grownBy w3 v.ownBlock) (ho : w3.ownsRow w0.heap.size 25 5 v3 (k + 1) (flat c k ++ [y0, y1, y2, y3, y4])) : ApS w0 w3 h (us ++ [T]) v3 := by
  subst hk
  exact H.more c h2 h3 hT hg ho
theorem ApS.zero {w0 wr : World} {h : Nat} {us : List VT} {v : Value} (H : ApS w0 wr h us v) (ks : List VT) : ApS w0 wr h (us ++ ks.take 0) v := by rw [List.take_zero, List.append_nil]; exact H
theorem ApS.open {w0 wr : World} {h k : Nat} {us : List VT} {v : Value} (H : ApS w0 wr h us v) (hk : us.length = k) : ∃ so sc, v = .slice so k sc ∧ ∃ c : Nat → Fin 5 → Value, wr.ownsRow w0.heap.size 25 5 (.slice so k sc) k (flat c k) ∧ ∀ i, (hi : i < us.length) → InH w0 h us[i] (.agg #[c i 0, c i 1, c i 2, c i 3, c i 4]) := by
  subst hk
  obtain ⟨_, c, h2, h3⟩ := H
  obtain ⟨so, sc, e⟩ := own_shapeZ h2
  subst e
  exact ⟨so, sc, rfl, c, h2, h3⟩

set_option maxRecDepth 100000 in
set_option maxHeartbeats 3200000 in
theorem w_OrderMerges (h : Nat) (io : Option Addr) (N icap : Nat) (ko : Option Addr) (K kcap : Nat) (ls ks : List VT) (w : World) (hi : IIn w h io ls) (hN : ls.length = N) (hcap : N ≤ icap) (hN2 : N ≤ 524288) (hk : IIn w h ko ks) (hK : ks.length = K) (hkcap : K ≤ kcap) (hK2 : K ≤ 524288) (hsz1 : ∀ T ∈ ls, szN h T ≤ 1048577) (hsz2 : ∀ T ∈ ks, szN h T ≤ 1048577) :
    Calls Try.prog 6 #[.slice io N icap, .slice ko K kcap] w fun e w' => e = .returned (.bool true) ∧ Below w.heap.size w w' := by
  obtain ⟨i0, hi0, hz0, hz1, hz2⟩ := info_parts Try.infoV
  have HI := Hid.mk hi
  have HK := Hid.mk hk
  have HNN := Hid.mk hN
  have HKK := Hid.mk hK
  have HF := Hid.mk (fun u (hb : Below w.heap.size w u) => w_All h (w_rFormed h) io N icap ls u (HI.out.keep hb) HNN.out hcap (by omega))
  have HG := Hid.mk (fun u (hb : Below w.heap.size w u) => w_All h (w_rFormed h) ko K kcap ks u (HK.out.keep hb) HKK.out hkcap (by omega))
  cases hf : ls.all (formN h) with
  | false =>
    rw [hf] at HF
    clear hf HG hi hN hk hK hsz1 hsz2
    go_enter Try.func6, Try.ntmps6
    go_wp2_with fail
    refine (w_OrderKnown w).mono ?_
    rintro e u1 ⟨rfl, hb⟩
    have HB := Hid.mk hb
    clear hb
    go_wp2_with fail
    refine (HF.out u1 HB.out).mono ?_
    rintro e u2 ⟨rfl, hb⟩
    have HB := Hid.mk (HB.out.trans (hb.mono HB.out.size))
    clear hb
    go_wp2_with fail
    go_ret
    exact ⟨rfl, HB.out⟩
  | true =>
    rw [hf] at HF
    cases hg : ks.all (formN h) with
    | false =>
      rw [hg] at HG
      clear hf hg hi hN hk hK hsz1 hsz2
      go_enter Try.func6, Try.ntmps6
      go_wp2_with fail
      refine (w_OrderKnown w).mono ?_
      rintro e u1 ⟨rfl, hb⟩
      have HB := Hid.mk hb
      clear hb
      go_wp2_with fail
      refine (HF.out u1 HB.out).mono ?_
      rintro e u2 ⟨rfl, hb⟩
      have HB := Hid.mk (HB.out.trans (hb.mono HB.out.size))
      clear hb
      go_wp2_with fail
      refine (HG.out u2 HB.out).mono ?_
      rintro e u3 ⟨rfl, hb⟩
      have HB := Hid.mk (HB.out.trans (hb.mono HB.out.size))
      clear hb
      go_wp2_with fail
      go_ret
      exact ⟨rfl, HB.out⟩
    | true =>
      rw [hg] at HG
      have fl := all_iff.1 hf
      have fk := all_iff.1 hg
      have fz : ∀ T ∈ ls ++ ks, formN h T = true := fun T hT => by
        rcases List.mem_append.1 hT with h1 | h1
        · exact fl T h1
        · exact fk T h1
      have sz : ∀ T ∈ ls ++ ks, szN h T ≤ 1048577 := fun T hT => by
        rcases List.mem_append.1 hT with h1 | h1
        · exact hsz1 T h1
        · exact hsz2 T h1
      have sl := sort_srt fl
      have sk := sort_srt fk
      have sz2 := sort_srt fz
      have HSl := Hid.mk (fun u (hb : Below w.heap.size w u) => w_oSort h io N icap ls u (HI.out.keep hb) HNN.out hcap (by omega) hsz1)
      have HSk := Hid.mk (fun u (hb : Below w.heap.size w u) => w_oSort h ko K kcap ks u (HK.out.keep hb) HKK.out hkcap (by omega) hsz2)
      have HSz := Hid.mk (fun u so cap (hI : IIn u h so (ls ++ ks)) (hc : N + K ≤ cap) => w_oSort h so (N + K) cap (ls ++ ks) u hI (by rw [List.length_append, HNN.out, HKK.out]) hc (by omega) sz)
      rw [gpE_ok fl fl rfl] at HSl
      rw [gpE_ok fk fk rfl] at HSk
      rw [gpE_ok fz fz rfl] at HSz
      have mm := merge_srt (sl.form fl) (sk.form fk) (sl.rises fl) (sk.rises fk)
      have hl1 : (sbL h ls ls).length = N := by rw [sl.perm.length_eq, HNN.out]
      have hl2 : (sbL h ks ks).length = K := by rw [sk.perm.length_eq, HKK.out]
      have hl3 : (sbL h (ls ++ ks) (ls ++ ks)).length = N + K := by rw [sz2.perm.length_eq, List.length_append, HNN.out, HKK.out]
      have HMg := Hid.mk (fun u g1 g2 (t1 : TwL u h g1 N N (sbL h ls ls)) (t2 : TwL u h g2 K K (sbL h ks ks)) => w_Merge h (some ⟨g1, 0, none⟩) N N (some ⟨g2, 0, none⟩) K K (sbL h ls ls) (sbL h ks ks) u t1.toI hl1 (Nat.le_refl _) (fun e => by cases e) hN2 t2.toI hl2 (Nat.le_refl _) (fun e => by cases e) hK2 (sl.sz hsz1) (sk.sz hsz2))
      rw [mm.1] at HMg
      have hE : mrL h (sbL h ls ls) (sbL h ks ks) = sbL h (ls ++ ks) (ls ++ ks) := mm.2.eq (fun T hT => fz T (by
        rcases List.mem_append.1 hT with h1 | h1
        · exact List.mem_append.2 (.inl (sl.perm.mem_iff.1 h1))
        · exact List.mem_append.2 (.inr (sk.perm.mem_iff.1 h1)))) (sl.perm.append sk.perm) sz2
      rw [hE] at HMg
      have HLen := Hid.mk (And.intro hl1 (And.intro hl2 hl3))
      generalize sbL h ls ls = us1 at *
      generalize sbL h ks ks = us2 at *
      generalize sbL h (ls ++ ks) (ls ++ ks) = us3 at *
      clear hf hg hi hN hk hK hsz1 hsz2 fl fk fz sz sl sk sz2 mm hE hl1 hl2 hl3
      go_enter Try.func6, Try.ntmps6
      go_wp2_with fail
      refine (w_OrderKnown w).mono ?_
      rintro e u1 ⟨rfl, hb⟩
      have HB := Hid.mk hb
      clear hb
      go_wp2_with fail
      refine (HF.out u1 HB.out).mono ?_
      rintro e u2 ⟨rfl, hb⟩
      have HB := Hid.mk (HB.out.trans (hb.mono HB.out.size))
      clear hb
      go_wp2_with fail
      refine (HG.out u2 HB.out).mono ?_
      rintro e u3 ⟨rfl, hb⟩
      have HB := Hid.mk (HB.out.trans (hb.mono HB.out.size))
      clear hb
      go_wp2_with fail
      have HI3 := Hid.mk (HI.out.keep HB.out)
      have HK3 := Hid.mk (HK.out.keep HB.out)
      go_loopw [5, 6] (fun v i wr => ∃ k : Nat, k ≤ N ∧ i = .int .i64 (k : Int) ∧ Hid (ApS u3 wr h (ls.take k) v)) (fun _ i _ => N - (intOf i).toNat)
      case atStart => exact ⟨0, Nat.zero_le _, rfl, ApS.start u3 h⟩
      case round =>
        obtain ⟨k, hk, rfl, HS⟩ := hrel
        by_cases hlt : k < N
        · have hq1 : (k : Int) < (N : Int) := by omega
          have hq0 : (0 : Int) ≤ (k : Int) := by omega
          have hkl : k < ls.length := by rw [HNN.out]; exact hlt
          have hlen : (ls.take k).length = k := by rw [List.length_take]; omega
          obtain ⟨so, sc, hv, c, hown, hin⟩ := HS.out.open hlen
          subst hv
          have HIN := Hid.mk hin
          have hsz := HS.out.1.size
          have hnb : k + 1 ≤ maxLen := by unfold maxLen; omega
          obtain ⟨b, off, hio, hbl, hrow⟩ := HI3.out.row (by omega)
          subst hio
          obtain ⟨ik, inm, itx, iio, iN, iicap, iko, iK, ikcap, ⟨c0, c1, c2, c3, c4⟩, ht⟩ := item_at hrow hkl
          have HT := Hid.mk ht
          have k0 := cell_keep HS.out.1 c0
          have k1 := cell_keep HS.out.1 c1
          have k2 := cell_keep HS.out.1 c2
          have k3 := cell_keep HS.out.1 c3
          have k4 := cell_keep HS.out.1 c4
          clear hrow hbl ht hin c0 c1 c2 c3 c4
          go_wp2_with (at_builtin; go_loud (refine wpList_append_lies _ rfl _ _ 22 rfl u3.heap.size 25 i0 (.agg #[.int .i64 0, .string ⟨#[]⟩, .string ⟨#[]⟩, .slice none 0 0, .slice none 0 0]) 5 88 Try.underlying22 hi0 hz0 hz1 hz2 rfl (by decide) _ _ _ rfl (hown.alloc _) ⟨wr.heap.size, 0, none⟩ 1 1 [.int .i64 ik, .string inm, .string itx, .slice iio iN iicap, .slice iko iK ikcap] rfl rfl (new5 (heap_alloc_new wr _)) (by intro u hu; simp at hu; rcases hu with rfl | rfl | rfl | rfl | rfl <;> rfl) (by omega) hnb (by omega) (by simp; omega) (wr.heap.size + 1) (by simp) ?_; intro g3 cap3 w3 hown3 hgrow3 hat3 hlt3))
          have HN : Hid (ApS u3 w3 h (ls.take (k + 1)) (.slice (some ⟨g3, 0, none⟩) (k + 1) cap3)) := by
            show ApS _ _ _ _ _
            rw [List.take_succ_eq_append_getElem hkl]
            exact ApS.next HS.out hlen c hown HIN.out HT.out hgrow3 hown3
          clear hown3 hgrow3 hat3 hlt3 hown k0 k1 k2 k3 k4
          go_wp2_with fail
          go_roundw
          case rel => exact ⟨k + 1, by omega, by go_num, HN⟩
          case measure => simp [intOf]; omega
        · have hq1 : ¬ (k : Int) < (N : Int) := by omega
          obtain rfl : k = N := by omega
          have hS := HS.out
          rw [List.take_of_length_le (by rw [HNN.out]; omega)] at hS
          have HS0 := Hid.mk (hS.zero ks)
          clear hS
          go_wp2_with fail
          go_loopw [5, 7] (fun v i wr => ∃ j : Nat, j ≤ K ∧ i = .int .i64 (j : Int) ∧ Hid (ApS u3 wr h (ls ++ ks.take j) v)) (fun _ i _ => K - (intOf i).toNat)
          case atStart => exact ⟨0, Nat.zero_le _, rfl, HS0⟩
          case round =>
            clear HS0 HS
            obtain ⟨j, hj, rfl, HS⟩ := hrel
            by_cases hltj : j < K
            · have hr1 : (j : Int) < (K : Int) := by omega
              have hr0 : (0 : Int) ≤ (j : Int) := by omega
              have hkl : j < ks.length := by rw [HKK.out]; exact hltj
              have hlen : (ls ++ ks.take j).length = k + j := by rw [List.length_append, List.length_take, HNN.out]; omega
              have hup : ls ++ ks.take (j + 1) = ls ++ ks.take j ++ [ks[j]] := by rw [List.take_succ_eq_append_getElem hkl, List.append_assoc]
              obtain ⟨so, sc, hv, c, hown, hin⟩ := HS.out.open hlen
              subst hv
              have HIN := Hid.mk hin
              have hsz := HS.out.1.size
              have hnb : (k + j) + 1 ≤ maxLen := by unfold maxLen; omega
              obtain ⟨b, off, hio, hbl, hrow⟩ := HK3.out.row (by omega)
              subst hio
              obtain ⟨ik, inm, itx, iio, iN, iicap, iko, iK, ikcap, ⟨c0, c1, c2, c3, c4⟩, ht⟩ := item_at hrow hkl
              have HT := Hid.mk ht
              have k0 := cell_keep HS.out.1 c0
              have k1 := cell_keep HS.out.1 c1
              have k2 := cell_keep HS.out.1 c2
              have k3 := cell_keep HS.out.1 c3
              have k4 := cell_keep HS.out.1 c4
              clear hrow hbl ht hin c0 c1 c2 c3 c4
              go_wp2_with (at_builtin; go_loud (refine wpList_append_lies _ rfl _ _ 22 rfl u3.heap.size 25 i0 (.agg #[.int .i64 0, .string ⟨#[]⟩, .string ⟨#[]⟩, .slice none 0 0, .slice none 0 0]) 5 88 Try.underlying22 hi0 hz0 hz1 hz2 rfl (by decide) _ _ _ rfl (hown.alloc _) ⟨wr.heap.size, 0, none⟩ 1 1 [.int .i64 ik, .string inm, .string itx, .slice iio iN iicap, .slice iko iK ikcap] rfl rfl (new5 (heap_alloc_new wr _)) (by intro u hu; simp at hu; rcases hu with rfl | rfl | rfl | rfl | rfl <;> rfl) (by omega) hnb (by omega) (by simp; omega) (wr.heap.size + 1) (by simp) ?_; intro g3 cap3 w3 hown3 hgrow3 hat3 hlt3))
              have HN : Hid (ApS u3 w3 h (ls ++ ks.take (j + 1)) (.slice (some ⟨g3, 0, none⟩) ((k + j) + 1) cap3)) := by
                show ApS _ _ _ _ _
                rw [hup]
                exact ApS.next HS.out hlen c hown HIN.out HT.out hgrow3 hown3
              clear hown3 hgrow3 hat3 hlt3 hown k0 k1 k2 k3 k4
              go_wp2_with fail
              go_roundw
              case rel => exact ⟨j + 1, by omega, by go_num, HN⟩
              case measure => simp [intOf]; omega
            · have hr1 : ¬ (j : Int) < (K : Int) := by omega
              have hS := HS.out
              rw [List.take_of_length_le (by rw [HKK.out]; omega)] at hS
              obtain ⟨so, cap, hv, hcp, _, hI⟩ := hS.row
              rw [List.length_append, HNN.out, HKK.out] at hv hcp
              subst hv
              have HIz := Hid.mk hI
              have HBw := Hid.mk (HB.out.trans (hS.1.mono HB.out.size))
              clear hS hI HS
              go_wp2_with fail
              refine (HSl.out wr HBw.out).mono ?_
              rintro e x1 ⟨g1, n1, rfl, ht, _, hb⟩
              obtain rfl : n1 = k := by rw [← ht.len]; exact HLen.out.1
              have HT1 := Hid.mk ht
              have HBr := Hid.mk hb
              have HBw := Hid.mk (HBw.out.trans (hb.mono HBw.out.size))
              clear ht hb
              go_wp2_with fail
              refine (HSk.out x1 HBw.out).mono ?_
              rintro e x2 ⟨g2, n2, rfl, ht, _, hb⟩
              obtain rfl : n2 = K := by rw [← ht.len]; exact HLen.out.2.1
              have HT2 := Hid.mk ht
              have HT1 := Hid.mk (HT1.out.low hb)
              have HBr := Hid.mk (HBr.out.trans (hb.mono HBr.out.size))
              have HBw := Hid.mk (HBw.out.trans (hb.mono HBw.out.size))
              clear ht hb
              go_wp2_with fail
              refine (HSz.out x2 so cap (HIz.out.keep HBr.out) hcp).mono ?_
              rintro e x3 ⟨g3, n3, rfl, ht, _, hb⟩
              have HL3 : Hid (n3 = n1 + n2) := by show _ = _; rw [← ht.len]; exact HLen.out.2.2
              have HT3 := Hid.mk ht
              have HT1 := Hid.mk (HT1.out.low hb)
              have HT2 := Hid.mk (HT2.out.low hb)
              have HBw := Hid.mk (HBw.out.trans (hb.mono HBw.out.size))
              clear ht hb
              go_wp2_with fail
              refine (HMg.out x3 g1 g2 HT1.out HT2.out).mono ?_
              rintro e x4 ⟨so4, n4, rfl, hlen4, hI4, hb, _⟩
              have HI4 := Hid.mk hI4
              have HL4 := Hid.mk hlen4
              have HT3 := Hid.mk (HT3.out.low hb)
              have HBw := Hid.mk (HBw.out.trans (hb.mono HBw.out.size))
              clear hI4 hb hlen4
              have HC := Hid.mk (w_SameValues h so4 n4 n4 us3 (some ⟨g3, 0, none⟩) n3 n3 us3 x4 HI4.out HT3.out.toI HL4.out HT3.out.len (Nat.le_refl _) (Nat.le_refl _) (by rw [← HL4.out, HLen.out.2.2]; omega) (by rw [HL3.out]; omega))
              rw [sm_yes] at HC
              go_wp2_with fail
              refine HC.out.mono ?_
              rintro e x5 ⟨rfl, hb⟩
              have HBw := Hid.mk (HBw.out.trans (hb.mono HBw.out.size))
              clear hb
              go_wp2_with fail
              go_ret
              exact ⟨rfl, HBw.out⟩
end Go.Proofs.Ytmknelkgfnklfaa
