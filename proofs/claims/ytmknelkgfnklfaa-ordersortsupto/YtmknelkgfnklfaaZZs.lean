import Derived.Test.YtmknelkgfnklfaaZZr
namespace Go.Proofs.Ytmknelkgfnklfaa
open Go.RowKit Go.Shelf Go.Sort
set_option linter.unusedVariables false
set_option linter.unusedSimpArgs false
attribute [local go_sem] Oper.semAt_some

theorem rev_up {α : Type} {l : List α} {k : Nat} (hk : k < l.length) : (l.drop k).reverse = (l.drop (k + 1)).reverse ++ [l[k]] := by
  rw [List.drop_eq_getElem_cons hk, List.reverse_cons]
theorem ApS.none {w0 : World} {h N : Nat} {ls : List VT} (hN : ls.length = N) : ApS w0 w0 h (ls.drop N).reverse (.slice Option.none 0 0) := by
  rw [List.drop_of_length_le (by omega)]; exact ApS.start w0 h

set_option maxRecDepth 100000 in
set_option maxHeartbeats 3200000 in
theorem w_OrderSorts (h : Nat) (io : Option Addr) (N icap : Nat) (ls : List VT) (w : World) (hi : IIn w h io ls) (hN : ls.length = N) (hcap : N ≤ icap) (hN2 : N ≤ 524288) (hsz1 : ∀ T ∈ ls, szN h T ≤ 1048577) :
    Calls Try.prog 5 #[.slice io N icap] w fun e w' => e = .returned (.bool true) ∧ Below w.heap.size w w' := by
  obtain ⟨i0, hi0, hz0, hz1, hz2⟩ := info_parts Try.infoV
  have HI := Hid.mk hi
  have HNN := Hid.mk hN
  have HF := Hid.mk (fun u (hb : Below w.heap.size w u) => w_All h (w_rFormed h) io N icap ls u (HI.out.keep hb) HNN.out hcap (by omega))
  cases hf : ls.all (formN h) with
  | false =>
    rw [hf] at HF
    clear hf hi hN hsz1
    go_enter Try.func5, Try.ntmps5
    go_wp2_with fail
    refine (w_OrderKnown w).mono ?_
    rintro e u1 ⟨rfl, hb⟩
    have HB := Hid.mk hb
    clear hb
    go_wp2_with fail
    refine (HF.out u1 HB.out).mono ?_
    rintro e u2 ⟨rfl, hb⟩
    have HB := Hid.mk (HB.out.trans (hb.mono HB.out.size))
    clear hb
    go_wp2_with fail
    go_ret
    exact ⟨rfl, HB.out⟩
  | true =>
    rw [hf] at HF
    by_cases h300 : 300 < N
    · have g300 : (300 : Int) < (N : Int) := by omega
      clear hf hi hN hsz1
      go_enter Try.func5, Try.ntmps5
      go_wp2_with fail
      refine (w_OrderKnown w).mono ?_
      rintro e u1 ⟨rfl, hb⟩
      have HB := Hid.mk hb
      clear hb
      go_wp2_with fail
      refine (HF.out u1 HB.out).mono ?_
      rintro e u2 ⟨rfl, hb⟩
      have HB := Hid.mk (HB.out.trans (hb.mono HB.out.size))
      clear hb
      go_wp2_with fail
      go_ret
      exact ⟨rfl, HB.out⟩
    · have g300 : ¬ (300 : Int) < (N : Int) := by omega
      have fl := all_iff.1 hf
      have sl := sort_srt fl
      have HSl := Hid.mk (fun u (hb : Below w.heap.size w u) => w_oSort h io N icap ls u (HI.out.keep hb) HNN.out hcap (by omega) hsz1)
      have HSb := Hid.mk (fun u (hb : Below w.heap.size w u) => w_SortBy h io N icap io N icap ls ls u (HI.out.keep hb) HNN.out hcap (by omega) (HI.out.keep hb) HNN.out hcap (by omega) hsz1)
      rw [gpE_ok fl fl rfl] at HSl HSb
      have hl1 : (sbL h ls ls).length = N := by rw [sl.perm.length_eq, HNN.out]
      have fa := sl.form fl
      have ea : sbL h (sbL h ls ls) (sbL h ls ls) = sbL h ls ls := (sort_srt fa).eq fa (.refl _) sl.self
      have fr : ∀ T ∈ ls.reverse, formN h T = true := fun T hT => fl T (List.mem_reverse.1 hT)
      have er : sbL h ls.reverse ls.reverse = sbL h ls ls := (sort_srt fr).eq fr (List.reverse_perm ls) sl
      have HSa := Hid.mk (fun u g (t : TwL u h g N N (sbL h ls ls)) => w_oSort h (some ⟨g, 0, none⟩) N N (sbL h ls ls) u t.toI hl1 (Nat.le_refl _) (by omega) (sl.sz hsz1))
      have HSr := Hid.mk (fun u so cap (hI : IIn u h so ls.reverse) (hc : N ≤ cap) => w_oSort h so N cap ls.reverse u hI (by rw [List.length_reverse, HNN.out]) hc (by omega) (fun T hT => hsz1 T (List.mem_reverse.1 hT)))
      rw [ea, gpE_ok fa fa rfl] at HSa
      rw [er, gpE_ok fr fr rfl] at HSr
      have HRi := Hid.mk (fun u g (t : TwL u h g N N (sbL h ls ls)) => w_lRises h (some ⟨g, 0, none⟩) N N (sbL h ls ls) u t.toI hl1 (Nat.le_refl _) (by omega) fa)
      have hris := sl.rises fl
      rw [hl1] at hris
      rw [hris] at HRi
      have HCn := Hid.mk (fun V => sl.cnt V)
      have HSv := Hid.mk (fun u g1 g2 (t1 : TwL u h g1 N N (sbL h ls ls)) (t2 : TwL u h g2 N N (sbL h ls ls)) => w_SameValues h (some ⟨g1, 0, none⟩) N N (sbL h ls ls) (some ⟨g2, 0, none⟩) N N (sbL h ls ls) u t1.toI t2.toI hl1 hl1 (Nat.le_refl _) (Nat.le_refl _) (by omega) (by omega))
      rw [sm_yes] at HSv
      have HL1 := Hid.mk hl1
      generalize sbL h ls ls = us1 at *
      have y1 : ((N : Int) != (N : Int)) = false := by simp
      clear hf hi hN hsz1 fl sl hl1 fa ea fr er hris
      go_enter Try.func5, Try.ntmps5
      go_wp2_with fail
      refine (w_OrderKnown w).mono ?_
      rintro e u1 ⟨rfl, hb⟩
      have HB := Hid.mk hb
      clear hb
      go_wp2_with fail
      refine (HF.out u1 HB.out).mono ?_
      rintro e u2 ⟨rfl, hb⟩
      have HB := Hid.mk (HB.out.trans (hb.mono HB.out.size))
      clear hb
      go_wp2_with fail
      refine (HSl.out u2 HB.out).mono ?_
      rintro e u3 ⟨ga, na, rfl, ht, _, hb⟩
      obtain rfl : na = N := by rw [← ht.len]; exact HL1.out
      have HTa := Hid.mk ht
      have HB := Hid.mk (HB.out.trans (hb.mono HB.out.size))
      clear ht hb
      go_wp2_with fail
      refine (HRi.out u3 ga HTa.out).mono ?_
      rintro e u4 ⟨rfl, hb⟩
      have HTa := Hid.mk (HTa.out.low hb)
      have HB := Hid.mk (HB.out.trans (hb.mono HB.out.size))
      clear hb
      go_wp2_with fail
      go_loopw [5] (fun i wr => ∃ k : Nat, k ≤ na ∧ i = .int .i64 (k : Int) ∧ Hid (Below u4.heap.size u4 wr)) (fun i _ => na - (intOf i).toNat)
      case atStart => exact ⟨0, Nat.zero_le _, rfl, Below.refl _ _⟩
      case round =>
        obtain ⟨k, hk, rfl, HBr⟩ := hrel
        by_cases hlt : k < na
        · have hq1 : (k : Int) < (na : Int) := by omega
          have hq0 : (0 : Int) ≤ (k : Int) := by omega
          have hkl : k < ls.length := by rw [HNN.out]; exact hlt
          have hI4 := (HI.out.keep HB.out).keep HBr.out
          have hT4 := HTa.out.low HBr.out
          have hI5 := hI4
          obtain ⟨b, off, hio, hbl, hrow⟩ := hI5.row (by omega)
          subst hio
          obtain ⟨ik, inm, itx, iio, iN, iicap, iko, iK, ikcap, ⟨c0, c1, c2, c3, c4⟩, ht⟩ := item_at hrow hkl
          have HC1 := Hid.mk (fun (d : Nat) (os : Array Obj) => w_count h (some ⟨ga, 0, none⟩) na na us1 ls[k] _ _ _ _ _ (grow (redrawn wr d) os) (hT4.toI.keep (below_regrown wr d os)) HL1.out (Nat.le_refl _) (by omega) (ht.keep (below_regrown wr d os)))
          have HC2 := Hid.mk (fun (d : Nat) (os : Array Obj) => w_count h (some ⟨b, off, none⟩) na icap ls ls[k] _ _ _ _ _ (grow (redrawn wr d) os) (hI4.keep (below_regrown wr d os)) HNN.out hcap (by omega) (ht.keep (below_regrown wr d os)))
          rw [HCn.out] at HC1
          generalize cnt ls ls[k] = q at *
          have R0 := fun d os => cell_regrown c0 d os
          have R1 := fun d os => cell_regrown c1 d os
          have R2 := fun d os => cell_regrown c2 d os
          have R3 := fun d os => cell_regrown c3 d os
          have R4 := fun d os => cell_regrown c4 d os
          have y2 : ((q : Int) != (q : Int)) = false := by simp
          clear hrow hbl ht hkl hI4 hT4 hI5 c0 c1 c2 c3 c4
          go_wp2_with fail
          refine wp_region_quiet_below (by kernel_rfl) (by kernel_rfl) ?_
          repeat (go_big_quiet_step (first | (go_at_call_of 25 (Value.slice (some (⟨ga, 0, none⟩ : Addr)) na na); exact Calls.regrown_of (HC1.out _ _)) | exact Calls.regrown_of (HC2.out _ _)))
          refine wpQuiet_nil ?_
          intro v5 hw'
          have HB2 : Hid (Below u4.heap.size u4 v5) := by
            obtain ⟨⟨dq, osq⟩, rfl⟩ := hw'
            exact HBr.out.trans ((below_regrown wr dq osq).mono HBr.out.size)
          clear hw' R0 R1 R2 R3 R4 HC1 HC2
          go_wp2_with fail
          go_roundw
          case rel => exact ⟨k + 1, by omega, by go_num, HB2⟩
          case measure => simp [intOf]; omega
        · have hq1 : ¬ (k : Int) < (na : Int) := by omega
          have HTa := Hid.mk (HTa.out.low HBr.out)
          have HB := Hid.mk (HB.out.trans (HBr.out.mono HB.out.size))
          clear HBr
          go_wp2_with fail
          rename World => uz
          have HIz := Hid.mk (HI.out.keep HB.out)
          go_loopw [6, 7] (fun v i wr => ∃ m : Nat, m ≤ na ∧ i = .int .i64 ((m : Int) - 1) ∧ Hid (ApS uz wr h (ls.drop m).reverse v)) (fun _ i _ => ((intOf i) + 1).toNat)
          case atStart => exact ⟨na, Nat.le_refl _, by go_num, ApS.none HNN.out⟩
          case round =>
            obtain ⟨m, hm, rfl, HS⟩ := hrel
            cases m with
            | succ k =>
              rw [show (((k + 1 : Nat)) : Int) - 1 = (k : Int) from by omega]
              have hr0 : (0 : Int) ≤ (k : Int) := by omega
              have hr1 : (k : Int) < (na : Int) := by omega
              have hkl : k < ls.length := by rw [HNN.out]; omega
              have hlen : ((ls.drop (k + 1)).reverse).length = na - (k + 1) := by rw [List.length_reverse, List.length_drop, HNN.out]
              have hup := rev_up hkl
              obtain ⟨so, sc, hv, c, hown, hin⟩ := HS.out.open hlen
              subst hv
              have HIN := Hid.mk hin
              have hsz := HS.out.1.size
              have hnb : (na - (k + 1)) + 1 ≤ maxLen := by unfold maxLen; omega
              obtain ⟨b, off, hio, hbl, hrow⟩ := HIz.out.row (by omega)
              subst hio
              obtain ⟨ik, inm, itx, iio, iN, iicap, iko, iK, ikcap, ⟨c0, c1, c2, c3, c4⟩, ht⟩ := item_at hrow hkl
              have HT := Hid.mk ht
              have k0 := cell_keep HS.out.1 c0
              have k1 := cell_keep HS.out.1 c1
              have k2 := cell_keep HS.out.1 c2
              have k3 := cell_keep HS.out.1 c3
              have k4 := cell_keep HS.out.1 c4
              clear hrow hbl ht hin c0 c1 c2 c3 c4
              go_wp2_with (at_builtin; go_loud (refine wpList_append_lies _ rfl _ _ 22 rfl uz.heap.size 25 i0 (.agg #[.int .i64 0, .string ⟨#[]⟩, .string ⟨#[]⟩, .slice none 0 0, .slice none 0 0]) 5 88 Try.underlying22 hi0 hz0 hz1 hz2 rfl (by decide) _ _ _ rfl (hown.alloc _) ⟨wr.heap.size, 0, none⟩ 1 1 [.int .i64 ik, .string inm, .string itx, .slice iio iN iicap, .slice iko iK ikcap] rfl rfl (new5 (heap_alloc_new wr _)) (by intro u hu; simp at hu; rcases hu with rfl | rfl | rfl | rfl | rfl <;> rfl) (by omega) hnb (by omega) (by simp; omega) (wr.heap.size + 1) (by simp) ?_; intro g3 cap3 w3 hown3 hgrow3 hat3 hlt3))
              have HN : Hid (ApS uz w3 h ((ls.drop k).reverse) (.slice (some ⟨g3, 0, none⟩) ((na - (k + 1)) + 1) cap3)) := by
                show ApS _ _ _ _ _
                rw [hup]
                exact ApS.next HS.out hlen c hown HIN.out HT.out hgrow3 hown3
              clear hown3 hgrow3 hat3 hlt3 hown k0 k1 k2 k3 k4
              go_wp2_with fail
              go_roundw
              case rel => exact ⟨k, by omega, by go_num, HN⟩
              case measure => simp [intOf]
            | zero =>
              rw [show (((0 : Nat)) : Int) - 1 = -1 from rfl]
              have hS := HS.out
              rw [List.drop_zero] at hS
              obtain ⟨so, cap, hv, hcp, _, hI⟩ := hS.row
              rw [List.length_reverse, HNN.out] at hv hcp
              subst hv
              have HIr := Hid.mk hI
              have HTa := Hid.mk (HTa.out.low hS.1)
              have HB := Hid.mk (HB.out.trans (hS.1.mono HB.out.size))
              clear hS hI HS
              go_wp2_with fail
              refine (HSa.out wr ga HTa.out).mono ?_
              rintro e x1 ⟨gb, nb, rfl, ht, _, hb⟩
              obtain rfl : nb = na := by rw [← ht.len]; exact HL1.out
              have HTb := Hid.mk ht
              have HTa := Hid.mk (HTa.out.low hb)
              have HIr := Hid.mk (HIr.out.keep hb)
              have HB := Hid.mk (HB.out.trans (hb.mono HB.out.size))
              clear ht hb
              go_wp2_with fail
              refine (HSr.out x1 so cap HIr.out hcp).mono ?_
              rintro e x2 ⟨gc, nc, rfl, ht, _, hb⟩
              obtain rfl : nc = nb := by rw [← ht.len]; exact HL1.out
              have HTc := Hid.mk ht
              have HTa := Hid.mk (HTa.out.low hb)
              have HTb := Hid.mk (HTb.out.low hb)
              have HB := Hid.mk (HB.out.trans (hb.mono HB.out.size))
              clear ht hb
              go_wp2_with fail
              refine (HSb.out x2 HB.out).mono ?_
              rintro e x3 ⟨gd, nd, rfl, ht, _, hb⟩
              obtain rfl : nd = nc := by rw [← ht.len]; exact HL1.out
              have HTd := Hid.mk ht
              have HTa := Hid.mk (HTa.out.low hb)
              have HTb := Hid.mk (HTb.out.low hb)
              have HTc := Hid.mk (HTc.out.low hb)
              have HB := Hid.mk (HB.out.trans (hb.mono HB.out.size))
              clear ht hb
              go_wp2_with fail
              refine (HSv.out x3 gb ga HTb.out HTa.out).mono ?_
              rintro e x4 ⟨rfl, hb⟩
              have HTa := Hid.mk (HTa.out.low hb)
              have HTc := Hid.mk (HTc.out.low hb)
              have HTd := Hid.mk (HTd.out.low hb)
              have HB := Hid.mk (HB.out.trans (hb.mono HB.out.size))
              clear hb
              go_wp2_with fail
              refine (HSv.out x4 gc ga HTc.out HTa.out).mono ?_
              rintro e x5 ⟨rfl, hb⟩
              have HTa := Hid.mk (HTa.out.low hb)
              have HTd := Hid.mk (HTd.out.low hb)
              have HB := Hid.mk (HB.out.trans (hb.mono HB.out.size))
              clear hb
              go_wp2_with fail
              refine (HSv.out x5 gd ga HTd.out HTa.out).mono ?_
              rintro e x6 ⟨rfl, hb⟩
              have HB := Hid.mk (HB.out.trans (hb.mono HB.out.size))
              clear hb
              go_wp2_with fail
              go_ret
              exact ⟨rfl, HB.out⟩
end Go.Proofs.Ytmknelkgfnklfaa
