import Derived.Test.YtmknelkgfnklfaaZZr
namespace Go.Proofs.Ytmknelkgfnklfaa
open Go.RowKit Go.Shelf Go.Sort
set_option linter.unusedVariables false
set_option linter.unusedSimpArgs false
attribute [local go_sem] Oper.semAt_some

theorem TwL.at {w : World} {h g n cap : Nat} {us : List VT} (H : TwL w h g n cap us) {i : Nat} (hi : i < us.length) :
    ∃ (k : Int) (nm t : ByteArray) (io : Option Addr) (N icap : Nat) (ko : Option Addr) (K kcap : Nat), (w.cell? ⟨g, i * 5, none⟩ = some (.int .i64 k) ∧ w.cell? ⟨g, i * 5 + 1, none⟩ = some (.string nm) ∧ w.cell? ⟨g, i * 5 + 2, none⟩ = some (.string t) ∧ w.cell? ⟨g, i * 5 + 3, none⟩ = some (.slice io N icap) ∧ w.cell? ⟨g, i * 5 + 4, none⟩ = some (.slice ko K kcap)) ∧ InH w h us[i] (.agg #[.int .i64 k, .string nm, .string t, .slice io N icap, .slice ko K kcap]) := by
  obtain ⟨b, off, e, hl, hrow⟩ := H.toI.row (by omega)
  simp only [Option.some.injEq, Addr.mk.injEq] at e
  obtain ⟨rfl, rfl, _⟩ := e
  obtain ⟨k, nm, t, io, N, ic, ko, K, kc, hc, ht⟩ := item_at hrow hi
  simp only [Nat.zero_add] at hc
  exact ⟨k, nm, t, io, N, ic, ko, K, kc, hc, ht⟩

theorem flatV_up {G : List (List VT)} {k : Nat} (h : k < G.length) : (G.take (k + 1)).flatten = (G.take k).flatten ++ G[k] := by
  rw [List.take_succ_eq_append_getElem h, List.flatten_append]; simp
theorem flatV_le {G : List (List VT)} (k : Nat) : (G.take k).flatten.length ≤ G.flatten.length := by
  conv => rhs; rw [← List.take_append_drop k G, List.flatten_append, List.length_append]
  omega
theorem parts_flat (ls : List VT) (G : List (List Nat)) : (G.map (pick ls)).flatten = pick ls G.flatten := by
  induction G with
  | nil => rfl
  | cons g G ih => rw [List.map_cons, List.flatten_cons, List.flatten_cons, pick_app, ih]
theorem parts_head {ls : List VT} {G : List (List Nat)} (hne : ∀ g ∈ G, 0 < g.length) {i : Nat} (hi : i < (G.map (pick ls)).length) (h0 : 0 < ((G.map (pick ls))[i]).length) (hf : i < (pick ls (heads G)).length) : ((G.map (pick ls))[i])[0] = (pick ls (heads G))[i] := by
  have hiG : i < G.length := by simpa using hi
  have hg := hne G[i] (List.getElem_mem hiG)
  simp [pick, heads, List.getD, hg]

theorem parts_ne {ls : List VT} {G : List (List Nat)} (hne : ∀ g ∈ G, 0 < g.length) {i : Nat} (hi : i < (G.map (pick ls)).length) : 0 < ((G.map (pick ls))[i]).length := by
  rw [List.getElem_map, pick_len]
  exact hne _ (List.getElem_mem _)

/-- what OrderParts knows of its groups -/
structure PtF (h M : Nat) (gs : List (List VT)) (us2 us3 : List VT) : Prop where
  m : gs.length = M
  ne : ∀ i, (hi : i < gs.length) → 0 < gs[i].length
  l2 : us2.length = M
  hd : ∀ i, (hi : i < gs.length) → (h0 : 0 < gs[i].length) → (h2 : i < us2.length) → gs[i][0] = us2[i]
  fl : gs.flatten = us3
  b : us3.length ≤ 524288

set_option maxRecDepth 100000 in
set_option maxHeartbeats 3200000 in
theorem w_OrderParts (h : Nat) (io : Option Addr) (N icap : Nat) (ko : Option Addr) (K kcap : Nat) (ls ks : List VT) (w : World) (hi : IIn w h io ls) (hN : ls.length = N) (hcap : N ≤ icap) (hN2 : N ≤ 524288) (hk : IIn w h ko ks) (hK : ks.length = K) (hkcap : K ≤ kcap) (hK2 : K ≤ 524288) (hsz1 : ∀ T ∈ ls, szN h T ≤ 1048577) :
    Calls Try.prog 7 #[.slice io N icap, .slice ko K kcap] w fun e w' => e = .returned (.bool true) ∧ Below w.heap.size w w' := by
  obtain ⟨i0, hi0, hz0, hz1, hz2⟩ := info_parts Try.infoV
  have HI := Hid.mk hi
  have HK := Hid.mk hk
  have HNN := Hid.mk hN
  have HKK := Hid.mk hK
  have HF := Hid.mk (fun u (hb : Below w.heap.size w u) => w_All h (w_rFormed h) io N icap ls u (HI.out.keep hb) HNN.out hcap (by omega))
  have HG := Hid.mk (fun u (hb : Below w.heap.size w u) => w_All h (w_rFormed h) ko K kcap ks u (HK.out.keep hb) HKK.out hkcap (by omega))
  cases hf : ls.all (formN h) with
  | false =>
    rw [hf] at HF
    clear hf HG hi hN hk hK hsz1
    go_enter Try.func7, Try.ntmps7
    go_wp2_with fail
    refine (w_OrderKnown w).mono ?_
    rintro e u1 ⟨rfl, hb⟩
    have HB := Hid.mk hb
    clear hb
    go_wp2_with fail
    refine (HF.out u1 HB.out).mono ?_
    rintro e u2 ⟨rfl, hb⟩
    have HB := Hid.mk (HB.out.trans (hb.mono HB.out.size))
    clear hb
    go_wp2_with fail
    go_ret
    exact ⟨rfl, HB.out⟩
  | true =>
    rw [hf] at HF
    cases hg : ks.all (formN h) with
    | false =>
      rw [hg] at HG
      clear hf hg hi hN hk hK hsz1
      go_enter Try.func7, Try.ntmps7
      go_wp2_with fail
      refine (w_OrderKnown w).mono ?_
      rintro e u1 ⟨rfl, hb⟩
      have HB := Hid.mk hb
      clear hb
      go_wp2_with fail
      refine (HF.out u1 HB.out).mono ?_
      rintro e u2 ⟨rfl, hb⟩
      have HB := Hid.mk (HB.out.trans (hb.mono HB.out.size))
      clear hb
      go_wp2_with fail
      refine (HG.out u2 HB.out).mono ?_
      rintro e u3 ⟨rfl, hb⟩
      have HB := Hid.mk (HB.out.trans (hb.mono HB.out.size))
      clear hb
      go_wp2_with fail
      go_ret
      exact ⟨rfl, HB.out⟩
    | true =>
      rw [hg] at HG
      by_cases hNK : N = K
      · have fl := all_iff.1 hf
        have fk := all_iff.1 hg
        have e0 : gpE h ls ks = 0 := gpE_ok fl fk (by rw [hN, hK, hNK])
        have H1 := Hid.mk (fun u (hb : Below w.heap.size w u) => w_Group h io N icap ko K kcap ls ks u (HI.out.keep hb) HNN.out hcap (by omega) (HK.out.keep hb) HKK.out hkcap (by omega) hsz1)
        have H2 := Hid.mk (fun u (hb : Below w.heap.size w u) => w_SortBy h io N icap ko K kcap ls ks u (HI.out.keep hb) HNN.out hcap (by omega) (HK.out.keep hb) HKK.out hkcap (by omega) hsz1)
        have H3 := Hid.mk (fun u (hb : Below w.heap.size w u) => w_Unique h io N icap ko K kcap ls ks u (HI.out.keep hb) HNN.out hcap (by omega) (HK.out.keep hb) HKK.out hkcap (by omega) hsz1)
        rw [e0] at H1 H2 H3
        obtain ⟨M, hM⟩ : ∃ M, (grL h ls ks).length = M := ⟨_, rfl⟩
        have HP : Hid (PtF h M (grL h ls ks) (unL h ls ks) (sbL h ls ks)) := by
          refine ⟨hM, fun i hi => parts_ne gpL_ne hi, ?_, fun i hi h0 h2 => parts_head gpL_ne hi h0 h2, parts_flat ls _, ?_⟩
          · unfold unL; rw [pick_len, heads_len, ← hM]; unfold grL; rw [List.length_map]
          · unfold sbL; rw [pick_len]; exact Nat.le_trans gpL_len (by rw [hN]; exact hN2)
        rw [hM] at H1
        generalize grL h ls ks = gs at *
        generalize sbL h ls ks = us3 at *
        generalize unL h ls ks = us2 at *
        have hMb : M ≤ 524288 := by
          have h1 := HP.out.fl
          have h2 : gs.length ≤ gs.flatten.length := by
            have hne := HP.out.ne
            clear HP H1 H2 H3 hM h1
            induction gs with
            | nil => exact Nat.zero_le _
            | cons g gs ih =>
              have a := hne 0 (by simp)
              have a' : 0 < g.length := a
              have b := ih (fun i hi => hne (i + 1) (by simpa using hi))
              rw [List.flatten_cons, List.length_append, List.length_cons]; omega
          have h3 := HP.out.b
          rw [h1, hM] at h2
          omega
        subst hNK
        have y1 : ((N : Int) != (N : Int)) = false := by simp
        have y2 : ((M : Int) != (M : Int)) = false := by simp
        clear hf hg hi hN hk hK hsz1 fl fk e0 hM
        go_enter Try.func7, Try.ntmps7
        go_wp2_with fail
        refine (w_OrderKnown w).mono ?_
        rintro e u1 ⟨rfl, hb⟩
        have HB := Hid.mk hb
        clear hb
        go_wp2_with fail
        refine (HF.out u1 HB.out).mono ?_
        rintro e u2 ⟨rfl, hb⟩
        have HB := Hid.mk (HB.out.trans (hb.mono HB.out.size))
        clear hb
        go_wp2_with fail
        refine (HG.out u2 HB.out).mono ?_
        rintro e u3 ⟨rfl, hb⟩
        have HB := Hid.mk (HB.out.trans (hb.mono HB.out.size))
        clear hb
        go_wp2_with fail
        refine (H1.out u3 HB.out).mono ?_
        rintro e u4 ⟨so, cap, rfl, hgs, hb⟩
        have HGs := Hid.mk hgs
        have HB := Hid.mk (HB.out.trans (hb.mono HB.out.size))
        clear hgs hb
        go_wp2_with fail
        refine (H2.out u4 HB.out).mono ?_
        rintro e u5 ⟨g3, n3, rfl, ht, _, hb⟩
        have HT3 := Hid.mk ht
        have HGs := Hid.mk (HGs.out.keep hb)
        have HB := Hid.mk (HB.out.trans (hb.mono HB.out.size))
        clear ht hb
        go_wp2_with fail
        refine (H3.out u5 HB.out).mono ?_
        rintro e x3 ⟨g2, n2, rfl, ht, _, hb⟩
        obtain rfl : n2 = M := by rw [← ht.len]; exact HP.out.l2
        have HT2 := Hid.mk ht
        have HT3 := Hid.mk (HT3.out.low hb)
        have HGs := Hid.mk (HGs.out.keep hb)
        have HB := Hid.mk (HB.out.trans (hb.mono HB.out.size))
        clear ht hb
        have hcapM : n2 ≤ cap := by have := HGs.out.fit; rw [HP.out.m] at this; exact this
        go_wp2_with fail
        go_loopw [11, 12] (fun v i wr => ∃ k : Nat, k ≤ n2 ∧ i = .int .i64 (k : Int) ∧ Hid (ApS x3 wr h (gs.take k).flatten v)) (fun _ i _ => n2 - (intOf i).toNat)
        case atStart => exact ⟨0, Nat.zero_le _, rfl, ApS.start x3 h⟩
        case round =>
          obtain ⟨i, hi, rfl, HS⟩ := hrel
          by_cases hlt : i < n2
          · have hq1 : (i : Int) < (n2 : Int) := by omega
            have hq0 : (0 : Int) ≤ (i : Int) := by omega
            have hil : i < gs.length := by rw [HP.out.m]; exact hlt
            have hi2 : i < us2.length := by rw [HP.out.l2]; exact hlt
            obtain ⟨gb, hso, hgl, hgc⟩ := HGs.out.row (by omega)
            subst hso
            obtain ⟨gi, ci, ti⟩ := hgc i hil
            have hpos := HP.out.ne i hil
            obtain ⟨jk, jnm, jtx, jio, jN, jicap, jko, jK, jkcap, ⟨d0, d1, d2, d3, d4⟩, hu⟩ := HT2.out.at hi2
            obtain ⟨ik, inm, itx, iio, iN, iicap, iko, iK, ikcap, ⟨c0, c1, c2, c3, c4⟩, ht⟩ := ti.at (i := 0) hpos
            simp only [Nat.zero_mul, Nat.zero_add] at c0 c1 c2 c3 c4
            have HC : Hid (∀ (d : Nat) (os : Array Obj), Calls Try.prog 26 #[.agg #[.int .i64 ik, .string inm, .string itx, .slice iio iN iicap, .slice iko iK ikcap], .agg #[.int .i64 jk, .string jnm, .string jtx, .slice jio jN jicap, .slice jko jK jkcap]] (grow (redrawn wr d) os) fun e w' => e = .returned (.bool true) ∧ Below (grow (redrawn wr d) os).heap.size (grow (redrawn wr d) os) w') := fun d os => by
              have e := HP.out.hd i hil hpos hi2
              have hh := w_SameValue h (gs[i][0]) us2[i] _ _ (grow (redrawn wr d) os) ((ht.keep HS.out.1).keep (below_regrown wr d os)) ((hu.keep HS.out.1).keep (below_regrown wr d os))
              rw [e, sm_yes] at hh
              exact hh
            obtain ⟨q, hq⟩ : ∃ q, gs[i].length = q + 1 := ⟨gs[i].length - 1, by omega⟩
            rw [hq] at ci ti
            have HTi := Hid.mk ti
            have HCi := Hid.mk ci
            have HGi := Hid.mk (flatV_up hil)
            have HQ := Hid.mk hq
            have hfl : (gs.take i).flatten.length + (q + 1) ≤ 524288 := by
              have h1 := flatV_le (G := gs) (i + 1)
              rw [HGi.out, List.length_append, hq, HP.out.fl] at h1
              have := HP.out.b
              omega
            obtain ⟨gg, hgg⟩ : ∃ gg, gs[i] = gg := ⟨_, rfl⟩
            rw [hgg] at HTi HGi HQ
            have w0 := cell_keep HS.out.1 ci
            have k0 := cell_keep HS.out.1 c0
            have k1 := cell_keep HS.out.1 c1
            have k2 := cell_keep HS.out.1 c2
            have k3 := cell_keep HS.out.1 c3
            have k4 := cell_keep HS.out.1 c4
            have m0 := cell_keep HS.out.1 d0
            have m1 := cell_keep HS.out.1 d1
            have m2 := cell_keep HS.out.1 d2
            have m3 := cell_keep HS.out.1 d3
            have m4 := cell_keep HS.out.1 d4
            have W0 := fun d os => cell_regrown w0 d os
            have R0 := fun d os => cell_regrown k0 d os
            have R1 := fun d os => cell_regrown k1 d os
            have R2 := fun d os => cell_regrown k2 d os
            have R3 := fun d os => cell_regrown k3 d os
            have R4 := fun d os => cell_regrown k4 d os
            have S0 := fun d os => cell_regrown m0 d os
            have S1 := fun d os => cell_regrown m1 d os
            have S2 := fun d os => cell_regrown m2 d os
            have S3 := fun d os => cell_regrown m3 d os
            have S4 := fun d os => cell_regrown m4 d os
            have b1 : ((q : Int) + 1 == 0) = false := by rw [beq_eq_false_iff_ne]; omega
            have b2 : 0 < (q : Int) + 1 := by omega
            clear hgl hgc hpos ht hu c0 c1 c2 c3 c4 d0 d1 d2 d3 d4 ci ti hq w0 k0 k1 k2 k3 k4 m0 m1 m2 m3 m4
            clear hgg hil hi2
            go_wp2_with fail
            refine wp_region_quiet_below (by kernel_rfl) (by kernel_rfl) ?_
            repeat (go_big_quiet_step (exact Calls.regrown_of (HC.out _ _)))
            refine wpQuiet_nil ?_
            intro v5 hw'
            have HS0 : Hid (ApS x3 v5 h ((gs.take i).flatten ++ gg.take 0) _) := Hid.mk ((HS.out.low (by
              obtain ⟨⟨dq, osq⟩, rfl⟩ := hw'
              exact below_regrown wr dq osq)).zero gg)
            clear hw' W0 R0 R1 R2 R3 R4 S0 S1 S2 S3 S4 HC HS
            go_wp2_with fail
            go_loopw [11, 13] (fun v j wr => ∃ k : Nat, k ≤ q + 1 ∧ j = .int .i64 (k : Int) ∧ Hid (ApS x3 wr h ((gs.take i).flatten ++ gg.take k) v)) (fun _ j _ => q + 1 - (intOf j).toNat)
            case atStart => exact ⟨0, Nat.zero_le _, rfl, HS0⟩
            case round =>
              clear HS0
              obtain ⟨k, hk, rfl, HS⟩ := hrel
              have w0 := cell_keep HS.out.1 HCi.out
              by_cases hltk : k < q + 1
              · have hr1 : (k : Int) < (q : Int) + 1 := by omega
                have hr0 : (0 : Int) ≤ (k : Int) := by omega
                have hkl : k < gg.length := by rw [HQ.out]; exact hltk
                obtain ⟨L, hL⟩ : ∃ L, (gs.take i).flatten.length = L := ⟨_, rfl⟩
                have hlen : ((gs.take i).flatten ++ gg.take k).length = L + k := by rw [List.length_append, List.length_take, hL]; omega
                have hup : (gs.take i).flatten ++ gg.take (k + 1) = (gs.take i).flatten ++ gg.take k ++ [gg[k]] := by rw [List.take_succ_eq_append_getElem hkl, List.append_assoc]
                rw [hL] at hfl
                clear hL
                obtain ⟨so2, sc2, hv, c, hown, hin⟩ := HS.out.open hlen
                subst hv
                have HIN := Hid.mk hin
                have hsz := HS.out.1.size
                have hnb : L + k + 1 ≤ maxLen := by unfold maxLen; omega
                obtain ⟨ik, inm, itx, iio, iN, iicap, iko, iK, ikcap, ⟨c0, c1, c2, c3, c4⟩, ht⟩ := HTi.out.at hkl
                have HT := Hid.mk ht
                have k0 := cell_keep HS.out.1 c0
                have k1 := cell_keep HS.out.1 c1
                have k2 := cell_keep HS.out.1 c2
                have k3 := cell_keep HS.out.1 c3
                have k4 := cell_keep HS.out.1 c4
                clear ht hin c0 c1 c2 c3 c4
                go_wp2_with (at_builtin; go_loud (refine wpList_append_lies _ rfl _ _ 22 rfl x3.heap.size 25 i0 (.agg #[.int .i64 0, .string ⟨#[]⟩, .string ⟨#[]⟩, .slice none 0 0, .slice none 0 0]) 5 88 Try.underlying22 hi0 hz0 hz1 hz2 rfl (by decide) _ _ _ rfl (hown.alloc _) ⟨wr.heap.size, 0, none⟩ 1 1 [.int .i64 ik, .string inm, .string itx, .slice iio iN iicap, .slice iko iK ikcap] rfl rfl (new5 (heap_alloc_new wr _)) (by intro u hu; simp at hu; rcases hu with rfl | rfl | rfl | rfl | rfl <;> rfl) (by omega) hnb (by omega) (by simp; omega) (wr.heap.size + 1) (by simp) ?_; intro ga cap3 w3 hown3 hgrow3 hat3 hlt3))
                have HN : Hid (ApS x3 w3 h ((gs.take i).flatten ++ gg.take (k + 1)) (.slice (some ⟨ga, 0, none⟩) (L + k + 1) cap3)) := by
                  show ApS _ _ _ _ _
                  rw [hup]
                  exact ApS.next HS.out hlen c hown HIN.out HT.out hgrow3 hown3
                clear hown3 hgrow3 hat3 hlt3 hown k0 k1 k2 k3 k4 w0
                go_wp2_with fail
                go_roundw
                case rel => exact ⟨k + 1, by omega, by go_num, HN⟩
                case measure => simp [intOf]; omega
              · have hr1 : ¬ (k : Int) < (q : Int) + 1 := by omega
                have hS := HS.out
                rw [List.take_of_length_le (l := gg) (by rw [HQ.out]; omega), ← HGi.out] at hS
                have HSn := Hid.mk hS
                clear hS HS
                go_wp2_with fail
                go_roundw
                case rel => exact ⟨i + 1, by omega, by go_num, HSn⟩
                case measure => simp [intOf]; omega
          · have hq1 : ¬ (i : Int) < (n2 : Int) := by omega
            have hS := HS.out
            rw [List.take_of_length_le (by rw [HP.out.m]; omega), HP.out.fl] at hS
            obtain ⟨so2, cap2, hv, hcp, _, hI⟩ := hS.row
            obtain ⟨L, hL⟩ : ∃ L, us3.length = L := ⟨_, rfl⟩
            rw [hL] at hv hcp
            subst hv
            have hb3 := HP.out.b
            have HT3 := Hid.mk (HT3.out.low hS.1)
            have hn3 := HT3.out.len
            have HC := Hid.mk (w_SameValues h so2 L cap2 us3 (some ⟨g3, 0, none⟩) n3 n3 us3 wr hI HT3.out.toI hL hn3 hcp (Nat.le_refl _) (by omega) (by omega))
            rw [sm_yes] at HC
            have HB := Hid.mk (HB.out.trans (hS.1.mono HB.out.size))
            clear hS hI HS hL hn3 hb3
            go_wp2_with fail
            refine HC.out.mono ?_
            rintro e x6 ⟨rfl, hb⟩
            have HB := Hid.mk (HB.out.trans (hb.mono HB.out.size))
            clear hb
            go_wp2_with fail
            go_ret
            exact ⟨rfl, HB.out⟩
      · have y1 : ((N : Int) != (K : Int)) = true := by simp; omega
        have y2 : ¬ (N : Int) = (K : Int) := by omega
        clear hf hg hi hN hk hK hsz1
        go_enter Try.func7, Try.ntmps7
        go_wp2_with fail
        refine (w_OrderKnown w).mono ?_
        rintro e u1 ⟨rfl, hb⟩
        have HB := Hid.mk hb
        clear hb
        go_wp2_with fail
        refine (HF.out u1 HB.out).mono ?_
        rintro e u2 ⟨rfl, hb⟩
        have HB := Hid.mk (HB.out.trans (hb.mono HB.out.size))
        clear hb
        go_wp2_with fail
        refine (HG.out u2 HB.out).mono ?_
        rintro e u3 ⟨rfl, hb⟩
        have HB := Hid.mk (HB.out.trans (hb.mono HB.out.size))
        clear hb
        go_wp2_with fail
        go_ret
        exact ⟨rfl, HB.out⟩
end Go.Proofs.Ytmknelkgfnklfaa
