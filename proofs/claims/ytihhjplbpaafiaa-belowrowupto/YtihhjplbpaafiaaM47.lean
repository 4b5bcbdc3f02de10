import Derived.Test.YtihhjplbpaafiaaM44
import Derived.Test.YtihhjplbpaafiaaM46
namespace Go.Proofs.Ytihhjplbpaafiaa
open Go.RowKit Go.Shelf Go.Sort
set_option linter.unusedVariables false
set_option linter.unusedSimpArgs false
attribute [local go_sem] Oper.semAt_some


theorem form_keys {h : Nat} {T : VT} (hf : formN (h + 1) T = true) (h6 : T.kind = 6) : T.keys.length = T.items.length := by
  rcases form_open hf with (rfl | rfl | rfl) | ⟨n, rfl, _⟩ | ⟨n, rfl, _⟩ | ⟨i, rfl, hi⟩ | ⟨i, ks, rfl, hl, _, _, hi⟩
  · simp [VT.kind] at h6
  · simp [VT.kind] at h6
  · simp [VT.kind] at h6
  · simp [VT.kind] at h6
  · simp [VT.kind] at h6
  · simp [VT.kind] at h6
  · exact hl
set_option maxRecDepth 100000 in
set_option maxHeartbeats 12800000 in
theorem w_rInObj (h : Nat) (ih : IvOk h) (hv : Nat) (V : VT) (ob : OB) (kd : Int) (nm tx : ByteArray) (io : Option Addr) (NI icap : Nat) (vo : Option Addr) (NK vcap : Nat) (ko : Option Addr) (kc : Nat) (fo : Option Addr) (fc : Nat) (mo : Option Addr) (mc : Nat) (c0 c1 c2 c3 c4 c5 c6 c7 c8 : Value) (w : World)
    (hI : InH w (hv + 1) V (.agg #[.int .i64 kd, .string nm, .string tx, .slice io NI icap, .slice vo NK vcap])) (hf : formN (hv + 1) V = true) (h6 : V.kind = 6) (hO : InO w h ob ko kc fo fc mo mc c0 c1 c2 c3 c4 c5 c6 c7 c8) (ga : (ob.names.length = ob.fields.length ∧ ob.names.length = ob.must.length) ∧ (∀ f ∈ ob.fields, goodT h f) ∧ goodT h ob.rest) :
    Calls Try.prog 31 #[.agg #[.int .i64 kd, .string nm, .string tx, .slice io NI icap, .slice vo NK vcap], .agg #[.slice ko ob.names.length kc, .slice fo ob.fields.length fc, .slice mo ob.must.length mc, c0, c1, c2, c3, c4, c5, c6, c7, c8]] w fun e w' => e = .returned (.bool (inOb (inN h) V ob)) ∧ Below w.heap.size w w' := by
  have hlen := form_keys hf h6
  have hII := hI
  obtain ⟨io', icap', vo', vcap', ev, a1, a2, a3, a4, a5, a6, a7, hk, hi⟩ := hII
  simp only [Value.agg.injEq, Array.mk.injEq, List.cons.injEq, Value.int.injEq, Value.string.injEq, Value.slice.injEq, and_true, true_and] at ev
  obtain ⟨ekd, enm, etx, ⟨rfl, eNI, rfl⟩, ⟨rfl, eNK, rfl⟩⟩ := ev
  have HGT := Hid.mk (fun (s : ByteArray) (u : World) (hu : Below w.heap.size w u) => w_rGet hv V _ s u (hI.keep hu))
  have HGM := Hid.mk (fun (s : ByteArray) (x : VT) (hx : getV V s = some x) => formN_item hf x (by unfold getV at hx; rw [if_pos h6] at hx; exact getL_mem hx))
  have HIV := Hid.mk (fun (x : VT) (A : TT) (vx va : Value) (u : World) (hxi : InH u hv x vx) (fx : formN hv x = true) (gA : goodT h A) (hA : InT u h A va) => ih hv x A vx va u hxi fx gA hA)
  have HNM := Hid.mk (fun u (hu : Below w.heap.size w u) => hO.nm.keep hu)
  have HMS := Hid.mk (fun u (hu : Below w.heap.size w u) => hO.ms.keep hu)
  have HFD := Hid.mk (fun u (hu : Below w.heap.size w u) => (⟨(hO.keep hu).fd⟩ : TyIn u h fo ob.fields))
  have HRS := Hid.mk (fun u (hu : Below w.heap.size w u) => hO.rest.keep hu)
  have HKS := Hid.mk (fun u (hu : Below w.heap.size w u) => hk.keep hu)
  have HIT := Hid.mk (fun u (hu : Below w.heap.size w u) => (⟨hi⟩ : IIn w hv io V.items).keep hu)
  have HFI := Hid.mk (formN_item hf)
  have HGF := Hid.mk ga.2.1
  have HGR := Hid.mk ga.2.2
  have hor := hO.rest
  obtain ⟨sa, sb, sc, sd, ⟨seo, sen, sec⟩, sf, ⟨sgo, sgn, sgc⟩, ⟨sio, sinn, sic⟩, ⟨sjo, sjn, sjc⟩, eshs⟩ := inT_shape hor
  simp only [Value.agg.injEq, Array.mk.injEq, List.cons.injEq, and_true] at eshs
  obtain ⟨rfl, rfl, rfl, rfl, rfl, rfl, rfl, rfl, rfl⟩ := eshs
  have HL1 := Hid.mk ga.1.1
  have HL2 := Hid.mk ga.1.2
  have HLK := Hid.mk hlen
  have hcap := hO.caps
  have hln := hO.lens.1
  have e1 := ga.1.1
  have e2 := ga.1.2
  obtain ⟨R, hR⟩ : ∃ R, inOb (inN h) V ob = R := ⟨_, rfl⟩
  have HR : Hid (R = ((ob.names.zip (ob.fields.zip ob.must)).all (inF (inN h) V) && (V.keys.zip V.items).all fun p => hasK ob.names p.1 || inN h p.2 ob.rest)) := hR.symm
  rw [hR, ← e1, ← e2]
  rw [← e1, ← e2] at hcap
  obtain ⟨K1, hK1⟩ : ∃ K, ob.names.length = K := ⟨_, rfl⟩
  have HK1 := Hid.mk hK1
  rw [hK1] at hcap hln ⊢
  obtain ⟨hc1, hc2, hc3⟩ := hcap
  have HNI := Hid.mk eNI
  have HNK := Hid.mk eNK
  have b1 : NI ≤ icap := by rw [eNI]; exact a5
  have b2 : NK ≤ vcap := by rw [eNK]; exact a6
  have b3 : NI ≤ 140737488355328 := by rw [eNI]; exact a3
  have b4 : NK ≤ 140737488355328 := by rw [eNK]; exact a4
  clear hlen hI hf h6 hO ga hor e1 e2 hR hK1 ekd enm etx eNI eNK hk hi a1 a2 a3 a4 a5 a6 a7 ih
  have HX := Hid.mk (bx2_two w #[.int .i64 kd, .string nm, .string tx, .slice io NI icap, .slice vo NK vcap] #[.slice ko K1 kc, .slice fo K1 fc, .slice mo K1 mc, .bool sa, .bool sb, .bool sc, .bool sd, .slice seo sen sec, .bool sf, .slice sgo sgn sgc, .slice sio sinn sic, .slice sjo sjn sjc] 33 56)
  obtain ⟨W0, hW0⟩ : ∃ W0, (w.alloc (.cells #[.int .i64 kd, .string nm, .string tx, .slice io NI icap, .slice vo NK vcap] 33)).alloc (.cells #[.slice ko K1 kc, .slice fo K1 fc, .slice mo K1 mc, .bool sa, .bool sb, .bool sc, .bool sd, .slice seo sen sec, .bool sf, .slice sgo sgn sgc, .slice sio sinn sic, .slice sjo sjn sjc] 56) = W0 := ⟨_, rfl⟩
  rw [hW0] at HX
  obtain ⟨L1, hL1⟩ : ∃ L, ob.names.zip (ob.fields.zip ob.must) = L := ⟨_, rfl⟩
  rw [hL1] at HR
  have HLL : Hid (L1.length = K1) := by
    show _ = _
    have q1 := HL1.out
    have q2 := HL2.out
    have q3 := HK1.out
    rw [← hL1, List.length_zip, List.length_zip]
    omega
  have HLE : Hid (∀ k, (hk : k < L1.length) → ∃ (g1 : k < ob.names.length) (g2 : k < ob.fields.length) (g3 : k < ob.must.length), L1[k] = (ob.names[k], ob.fields[k], ob.must[k])) := fun k hk => by
    have q0 := HLL.out
    have q1 := HL1.out
    have q2 := HL2.out
    have q3 := HK1.out
    subst hL1
    exact ⟨by omega, by omega, by omega, by rw [List.getElem_zip, List.getElem_zip]⟩
  clear hL1
  go_enter Try.func31, Try.ntmps31
  go_wp2_with fail
  try rw [hW0]
  clear hW0
  go_loopw [5] (fun i wr => ∃ k : Nat, k ≤ K1 ∧ i = .int .i64 (k : Int) ∧ Hid (Bx2 w wr #[.int .i64 kd, .string nm, .string tx, .slice io NI icap, .slice vo NK vcap] #[.slice ko K1 kc, .slice fo K1 fc, .slice mo K1 mc, .bool sa, .bool sb, .bool sc, .bool sd, .slice seo sen sec, .bool sf, .slice sgo sgn sgc, .slice sio sinn sic, .slice sjo sjn sjc]) ∧ Hid ((L1.take k).all (inF (inN h) V) = true)) (fun i _ => K1 - (intOf i).toNat)
  case atStart => exact ⟨0, Nat.zero_le _, rfl, HX, rfl⟩
  case round =>
    clear HX
    obtain ⟨k, hk, rfl, HX, HQ⟩ := hrel
    have q0 : wr.cell? ⟨w.heap.size + 1, 0, none⟩ = some (.slice ko K1 kc) := HX.out.two 0
    by_cases hlt : k < K1
    · have hl1 : (k : Int) < (K1 : Int) := by omega
      have hl0 : (0 : Int) ≤ (k : Int) := by omega
      have hkl : k < L1.length := by rw [HLL.out]; exact hlt
      obtain ⟨g1, g2, g3, hz⟩ := HLE.out k hkl
      obtain ⟨y0, y1, y2, yo, yN, yc, zo, zN, zc, hyx, hyc⟩ := HGT.out ob.names[k] wr HX.out.below
      have HYX := Hid.mk hyx
      have HC := Hid.mk hyc
      obtain ⟨nb, noff, hno, hnb, hnrow⟩ := (HNM.out wr HX.out.below).row (by omega)
      have x0 := hnrow k g1
      rw [show ob.names.getD k .empty = ob.names[k] by simp [List.getD, g1]] at x0
      obtain ⟨fb, foff, hfo, hfb, hfrow⟩ := (HFD.out wr HX.out.below).row (by omega)
      obtain ⟨d0, d1, d2, d3, d4, d5, d6, d7, d8, hf9, hfT⟩ := hfrow k g2
      obtain ⟨mb, moff, hmo, hmb, hmrow⟩ := (HMS.out wr HX.out.below).row (by omega)
      have m0 := hmrow k g3
      subst hno hfo hmo
      obtain ⟨ta, tb, tc, td, ⟨teo, ten, tec⟩, tf, ⟨tgo, tgn, tgc⟩, ⟨tio, tinn, tic⟩, ⟨tjo, tjn, tjc⟩, esht⟩ := inT_shape hfT
      simp only [Value.agg.injEq, Array.mk.injEq, List.cons.injEq, and_true] at esht
      obtain ⟨rfl, rfl, rfl, rfl, rfl, rfl, rfl, rfl, rfl⟩ := esht
      have HF9 := Hid.mk (fun u (hu : Below wr.heap.size wr u) => hf9.keep hu hfb)
      have HM0 := Hid.mk (fun u (hu : Below wr.heap.size wr u) => (hu.cell (p := ⟨_, _, _⟩) hmb).trans m0)
      have HFT := Hid.mk (fun u (hu : Below wr.heap.size wr u) => hfT.keep hu)
      have HU := Hid.mk (zall_up (f := inF (inN h) V) hkl)
      have HNo : Hid (inF (inN h) V L1[k] = false → R = false) := fun hh => by rw [HR.out, zall_no (f := inF (inN h) V) hkl hh]; rfl
      rw [hz] at HU HNo
      have HGF2 := Hid.mk (HGF.out _ (List.getElem_mem g2))
      have HGM2 := Hid.mk (HGM.out ob.names[k])
      generalize ob.names[k] = nk at *
      generalize ob.fields[k] = fk at *
      generalize ob.must[k] = mk at *
      clear hyx hyc hnrow hfrow hmrow hf9 hfT m0 hz hkl g1 g2 g3
      have p0 : wr.cell? ⟨w.heap.size, 0, none⟩ = some (.int .i64 kd) := HX.out.one 0
      have p1 : wr.cell? ⟨w.heap.size, 1, none⟩ = some (.string nm) := HX.out.one 1
      have p2 : wr.cell? ⟨w.heap.size, 2, none⟩ = some (.string tx) := HX.out.one 2
      have p3 : wr.cell? ⟨w.heap.size, 3, none⟩ = some (.slice io NI icap) := HX.out.one 3
      have p4 : wr.cell? ⟨w.heap.size, 4, none⟩ = some (.slice vo NK vcap) := HX.out.one 4
      have Ax0 := fun d os => cell_regrown x0 d os
      have Ap0 := fun d os => cell_regrown p0 d os
      have Ap1 := fun d os => cell_regrown p1 d os
      have Ap2 := fun d os => cell_regrown p2 d os
      have Ap3 := fun d os => cell_regrown p3 d os
      have Ap4 := fun d os => cell_regrown p4 d os
      have Aq0 := fun d os => cell_regrown q0 d os
      obtain ⟨th, hth⟩ : ∃ th, (getV V nk).isSome = th := ⟨_, rfl⟩
      rw [hth] at HC
      have HTH := Hid.mk hth
      clear hth
      have HSS : Hid (∀ u, Below wr.heap.size wr u → u.cell? ⟨w.heap.size, 0, none⟩ = some (.int .i64 kd) ∧ u.cell? ⟨w.heap.size, 1, none⟩ = some (.string nm) ∧ u.cell? ⟨w.heap.size, 2, none⟩ = some (.string tx) ∧ u.cell? ⟨w.heap.size, 3, none⟩ = some (.slice io NI icap) ∧ u.cell? ⟨w.heap.size, 4, none⟩ = some (.slice vo NK vcap) ∧ u.cell? ⟨w.heap.size + 1, 0, none⟩ = some (.slice (some ⟨nb, noff, none⟩) K1 kc) ∧ u.cell? ⟨nb, noff + k, none⟩ = some (.string nk)) := fun u hu => ⟨(hu.cell (p := ⟨_, _, _⟩) (World.block_lt_of_cell? _ _ p0)).trans p0, (hu.cell (p := ⟨_, _, _⟩) (World.block_lt_of_cell? _ _ p1)).trans p1, (hu.cell (p := ⟨_, _, _⟩) (World.block_lt_of_cell? _ _ p2)).trans p2, (hu.cell (p := ⟨_, _, _⟩) (World.block_lt_of_cell? _ _ p3)).trans p3, (hu.cell (p := ⟨_, _, _⟩) (World.block_lt_of_cell? _ _ p4)).trans p4, (hu.cell (p := ⟨_, _, _⟩) (World.block_lt_of_cell? _ _ q0)).trans q0, (hu.cell (p := ⟨_, _, _⟩) (World.block_lt_of_cell? _ _ x0)).trans x0⟩
      clear Ax0 Aq0 Ap0 Ap1 Ap2 Ap3 Ap4
      go_wp2_with fail
      have KEY : ∀ (B : Nat) (W8 : World), Hid (Below wr.heap.size wr W8 ∧ (∀ j, W8.cell? ⟨B, j, none⟩ = (#[.int .i64 y0, .string y1, .string y2, .slice yo yN yc, .slice zo zN zc] : Array Value)[j]?)) → (?PP : Nat → World → Prop) B W8 := ?key
      have HD := Hid.mk ((Below.refl wr.heap.size wr).drew)
      refine wp_region_held_drew (S := fun u => u.cell? ⟨w.heap.size, 0, none⟩ = some (.int .i64 kd) ∧ u.cell? ⟨w.heap.size, 1, none⟩ = some (.string nm) ∧ u.cell? ⟨w.heap.size, 2, none⟩ = some (.string tx) ∧ u.cell? ⟨w.heap.size, 3, none⟩ = some (.slice io NI icap) ∧ u.cell? ⟨w.heap.size, 4, none⟩ = some (.slice vo NK vcap) ∧ u.cell? ⟨w.heap.size + 1, 0, none⟩ = some (.slice (some ⟨nb, noff, none⟩) K1 kc) ∧ u.cell? ⟨nb, noff + k, none⟩ = some (.string nk)) (by kernel_rfl) (HSS.out _ HD.out) (fun hHeld => ?_)
      refine wpAnyH_take (i := 0) (oi := _) (v := .agg #[.int .i64 kd, .string nm, .string tx, .slice io NI icap, .slice vo NK vcap]) rfl (by kernel_rfl) (by kernel_rfl) (by kernel_rfl) (fun _ _ _ h => h) (Or.inl ⟨by rfl, ?_⟩) (by assumption) ?_
      · intro w hSw
        go_simp
      try simp only [Act.put, List.setIfInBounds_toArray, List.set_cons_zero, List.set_cons_succ]
      refine wpAnyH_take (i := 1) (oi := _) (v := .pointer (some ⟨w.heap.size + 1, 0, none⟩)) rfl (by kernel_rfl) (by kernel_rfl) (by kernel_rfl) (fun _ _ _ h => h) (Or.inl ⟨by rfl, ?_⟩) (by assumption) ?_
      · intro w hSw
        go_simp
      try simp only [Act.put, List.setIfInBounds_toArray, List.set_cons_zero, List.set_cons_succ]
      refine wpAnyH_take (i := 2) (oi := _) (v := .slice (some ⟨nb, noff, none⟩) K1 kc) rfl (by kernel_rfl) (by kernel_rfl) (by kernel_rfl) (fun _ _ _ h => h) (Or.inl ⟨by rfl, ?_⟩) (by assumption) ?_
      · intro w hSw
        go_simp
      try simp only [Act.put, List.setIfInBounds_toArray, List.set_cons_zero, List.set_cons_succ]
      refine wpAnyH_take (i := 3) (oi := _) (v := .int .i64 (k : Int)) rfl (by kernel_rfl) (by kernel_rfl) (by kernel_rfl) (fun _ _ _ h => h) (Or.inl ⟨by rfl, ?_⟩) (by assumption) ?_
      · intro w hSw
        go_simp
      try simp only [Act.put, List.setIfInBounds_toArray, List.set_cons_zero, List.set_cons_succ]
      refine wpAnyH_take (i := 4) (oi := _) (v := .pointer (some ⟨nb, noff + k, none⟩)) rfl (by kernel_rfl) (by kernel_rfl) (by kernel_rfl) (fun _ _ _ h => h) (Or.inl ⟨by rfl, ?_⟩) (by assumption) ?_
      · intro w hSw
        go_simp
      try simp only [Act.put, List.setIfInBounds_toArray, List.set_cons_zero, List.set_cons_succ]
      refine wpAnyH_take (i := 5) (oi := _) (v := .string nk) rfl (by kernel_rfl) (by kernel_rfl) (by kernel_rfl) (fun _ _ _ h => h) (Or.inl ⟨by rfl, ?_⟩) (by assumption) ?_
      · intro w hSw
        go_simp
      try simp only [Act.put, List.setIfInBounds_toArray, List.set_cons_zero, List.set_cons_succ]
      refine wpAnyH_ready (rs := [6, 10]) (by kernel_rfl) (by simp) ?_
      refine AllReadyH.cons (o := _) rfl (fun K hK => ?_) ?_
      · skip
        go_simp
        go_at_call 47
        refine (HC.out _ (HD.out)).mono ?_
        rintro e w4 ⟨rfl, hq⟩
        have HB4 := Hid.mk ((HD.out).trans (hq.mono (HD.out).size))
        have HQ4 := Hid.mk hq
        clear hq
        go_wp2_with fail
        refine hK.out _ _ (HSS.out _ HB4.out) (fun hHeld => ?_)
        clear hK K
        try simp only [Act.put, List.setIfInBounds_toArray, List.set_cons_zero, List.set_cons_succ]
        refine wpAnyH_take (i := 7) (oi := _) (v := .tuple #[.agg #[.int .i64 y0, .string y1, .string y2, .slice yo yN yc, .slice zo zN zc], .bool th]) rfl (by kernel_rfl) (by kernel_rfl) (by kernel_rfl) (fun _ _ _ h => h) (Or.inl ⟨by rfl, ?_⟩) (by assumption) ?_
        · intro w hSw
          go_simp
        try simp only [Act.put, List.setIfInBounds_toArray, List.set_cons_zero, List.set_cons_succ]
        refine wpAnyH_take (i := 8) (oi := _) (v := .agg #[.int .i64 y0, .string y1, .string y2, .slice yo yN yc, .slice zo zN zc]) rfl (by kernel_rfl) (by kernel_rfl) (by kernel_rfl) (fun _ _ _ h => h) (Or.inl ⟨by rfl, ?_⟩) (by assumption) ?_
        · intro w hSw
          go_simp
        try simp only [Act.put, List.setIfInBounds_toArray, List.set_cons_zero, List.set_cons_succ]
        refine wpAnyH_take (i := 9) (oi := _) (v := .bool th) rfl (by kernel_rfl) (by kernel_rfl) (by kernel_rfl) (fun _ _ _ h => h) (Or.inl ⟨by rfl, ?_⟩) (by assumption) ?_
        · intro w hSw
          go_simp
        try simp only [Act.put, List.setIfInBounds_toArray, List.set_cons_zero, List.set_cons_succ]
        refine wpAnyH_ready (rs := [10]) (by kernel_rfl) (by simp) ?_
        refine AllReadyH.cons (o := _) rfl (fun K hK => ?_) AllReadyH.nil
        go_simp
        have HB5 := Hid.mk (HB4.out.trans ((below1 w4 (.cells #[.int .i64 0, .string ⟨#[]⟩, .string ⟨#[]⟩, .slice none 0 0, .slice none 0 0] 33)).mono HB4.out.size))
        refine hK.out _ _ (HSS.out _ HB5.out) (fun hHeld => ?_)
        clear hK K
        try simp only [Act.put, List.setIfInBounds_toArray, List.set_cons_zero, List.set_cons_succ]
        refine wpAnyH_ready (rs := [11]) (by kernel_rfl) (by simp) ?_
        refine AllReadyH.cons (o := _) rfl (fun K hK => ?_) AllReadyH.nil
        go_simp
        have HF6 : Hid (Below wr.heap.size wr (w4.alloc (.cells #[.int .i64 y0, .string y1, .string y2, .slice yo yN yc, .slice zo zN zc] 33)) ∧ (∀ j, (w4.alloc (.cells #[.int .i64 y0, .string y1, .string y2, .slice yo yN yc, .slice zo zN zc] 33)).cell? ⟨w4.heap.size, j, none⟩ = (#[.int .i64 y0, .string y1, .string y2, .slice yo yN yc, .slice zo zN zc] : Array Value)[j]?)) := ⟨HB4.out.trans ((below1 w4 (.cells #[.int .i64 y0, .string y1, .string y2, .slice yo yN yc, .slice zo zN zc] 33)).mono HB4.out.size), fun j => cell_of_row _ _ j _ _ (0, 0) (World.alloc_heap_new w4 _)⟩
        have HB6 := Hid.mk HF6.out.1
        generalize w4.alloc (.cells #[.int .i64 y0, .string y1, .string y2, .slice yo yN yc, .slice zo zN zc] 33) = W8 at HF6 HB6 ⊢
        generalize w4.heap.size = B at HF6 ⊢
        refine hK.out _ _ (HSS.out _ HB6.out) (fun hHeld => ?_)
        clear hK K
        try simp only [Act.put, List.setIfInBounds_toArray, List.set_cons_zero, List.set_cons_succ]
        refine wpAnyH_ready (rs := [12]) (by kernel_rfl) (by simp) ?_
        refine AllReadyH.cons (o := _) rfl (fun K hK => ?_) AllReadyH.nil
        go_simp
        refine hK.out _ _ (HSS.out _ HB6.out) (fun hHeld => ?_)
        clear hK K
        try simp only [Act.put, List.setIfInBounds_toArray, List.set_cons_zero, List.set_cons_succ]
        refine wpAnyH_done (by kernel_rfl) ?_ _
        exact KEY _ _ HF6
      refine AllReadyH.cons (o := _) rfl (fun K hK => ?_) AllReadyH.nil
      have HZ1 := Hid.mk (HD.out.trans ((below1 wr.drew (.cells #[.int .i64 0, .string ⟨#[]⟩, .string ⟨#[]⟩, .slice none 0 0, .slice none 0 0] 33)).mono HD.out.size))
      go_simp
      refine hK.out _ _ (HSS.out _ HZ1.out) (fun hHeld => ?_)
      clear hK K
      try simp only [Act.put, List.setIfInBounds_toArray, List.set_cons_zero, List.set_cons_succ]
      refine wpAnyH_ready (rs := [6]) (by kernel_rfl) (by simp) ?_
      refine AllReadyH.cons (o := _) rfl (fun K hK => ?_) AllReadyH.nil
      go_simp
      go_at_call 47
      refine (HC.out _ (HZ1.out)).mono ?_
      rintro e w4 ⟨rfl, hq⟩
      have HB4 := Hid.mk ((HZ1.out).trans (hq.mono (HZ1.out).size))
      have HQ4 := Hid.mk hq
      clear hq
      go_wp2_with fail
      refine hK.out _ _ (HSS.out _ HB4.out) (fun hHeld => ?_)
      clear hK K
      try simp only [Act.put, List.setIfInBounds_toArray, List.set_cons_zero, List.set_cons_succ]
      refine wpAnyH_take (i := 7) (oi := _) (v := .tuple #[.agg #[.int .i64 y0, .string y1, .string y2, .slice yo yN yc, .slice zo zN zc], .bool th]) rfl (by kernel_rfl) (by kernel_rfl) (by kernel_rfl) (fun _ _ _ h => h) (Or.inl ⟨by rfl, ?_⟩) (by assumption) ?_
      · intro w hSw
        go_simp
      try simp only [Act.put, List.setIfInBounds_toArray, List.set_cons_zero, List.set_cons_succ]
      refine wpAnyH_take (i := 8) (oi := _) (v := .agg #[.int .i64 y0, .string y1, .string y2, .slice yo yN yc, .slice zo zN zc]) rfl (by kernel_rfl) (by kernel_rfl) (by kernel_rfl) (fun _ _ _ h => h) (Or.inl ⟨by rfl, ?_⟩) (by assumption) ?_
      · intro w hSw
        go_simp
      try simp only [Act.put, List.setIfInBounds_toArray, List.set_cons_zero, List.set_cons_succ]
      refine wpAnyH_take (i := 9) (oi := _) (v := .bool th) rfl (by kernel_rfl) (by kernel_rfl) (by kernel_rfl) (fun _ _ _ h => h) (Or.inl ⟨by rfl, ?_⟩) (by assumption) ?_
      · intro w hSw
        go_simp
      try simp only [Act.put, List.setIfInBounds_toArray, List.set_cons_zero, List.set_cons_succ]
      have HA4 : Hid (w4.heap[wr.heap.size]? = some (.cells #[.int .i64 0, .string ⟨#[]⟩, .string ⟨#[]⟩, .slice none 0 0, .slice none 0 0] 33 (0, 0))) := by
        have h1 := HQ4.out.block wr.heap.size (by show wr.heap.size < (wr.drew.alloc _).heap.size; rw [World.size_alloc]; exact Nat.lt_succ_self _)
        exact h1.trans (World.alloc_heap_new wr.drew _)
      have g0 := cell_of_row _ _ 0 _ _ _ HA4.out
      have f0 := frozen5i (j := 0) HA4.out
      have g1 := cell_of_row _ _ 1 _ _ _ HA4.out
      have f1 := frozen5i (j := 1) HA4.out
      have g2 := cell_of_row _ _ 2 _ _ _ HA4.out
      have f2 := frozen5i (j := 2) HA4.out
      have g3 := cell_of_row _ _ 3 _ _ _ HA4.out
      have f3 := frozen5i (j := 3) HA4.out
      have g4 := cell_of_row _ _ 4 _ _ _ HA4.out
      have f4 := frozen5i (j := 4) HA4.out
      refine wpAnyH_ready (rs := [11]) (by kernel_rfl) (by simp) ?_
      refine AllReadyH.cons (o := _) rfl (fun K hK => ?_) AllReadyH.nil
      go_simp
      generalize hz9 : ((((w4.setCell ⟨wr.heap.size, 0, none⟩ (.int .i64 y0)).setCell ⟨wr.heap.size, 1, none⟩ (.string y1)).setCell ⟨wr.heap.size, 2, none⟩ (.string y2)).setCell ⟨wr.heap.size, 3, none⟩ (.slice yo yN yc)).setCell ⟨wr.heap.size, 4, none⟩ (.slice zo zN zc) = W8
      have e7 := rbox5i w4 _ _ _ _ _ _ _ _ _ _ _ _ HA4.out W8 hz9.symm
      have HF6 : Hid (Below wr.heap.size wr W8 ∧ (∀ j, W8.cell? ⟨wr.heap.size, j, none⟩ = (#[.int .i64 y0, .string y1, .string y2, .slice yo yN yc, .slice zo zN zc] : Array Value)[j]?)) := ⟨by rw [← hz9]; exact (((((HB4.out.setCell (p := ⟨wr.heap.size, 0, none⟩) (Nat.le_refl _) _).setCell (p := ⟨wr.heap.size, 1, none⟩) (Nat.le_refl _) _).setCell (p := ⟨wr.heap.size, 2, none⟩) (Nat.le_refl _) _).setCell (p := ⟨wr.heap.size, 3, none⟩) (Nat.le_refl _) _).setCell (p := ⟨wr.heap.size, 4, none⟩) (Nat.le_refl _) _), fun j => cell_of_row _ _ j _ _ (0, 0) e7⟩
      have HB6 := Hid.mk HF6.out.1
      clear hz9 e7 g0 f0 g1 f1 g2 f2 g3 f3 g4 f4
      have HC6 := Hid.mk HF6.out.2
      clear HF6
      generalize wr.heap.size = B at HC6 ⊢
      have HF6 := Hid.mk (And.intro HB6.out HC6.out)
      refine hK.out _ _ (HSS.out _ HB6.out) (fun hHeld => ?_)
      clear hK K
      try simp only [Act.put, List.setIfInBounds_toArray, List.set_cons_zero, List.set_cons_succ]
      refine wpAnyH_ready (rs := [12]) (by kernel_rfl) (by simp) ?_
      refine AllReadyH.cons (o := _) rfl (fun K hK => ?_) AllReadyH.nil
      go_simp
      refine hK.out _ _ (HSS.out _ HB6.out) (fun hHeld => ?_)
      clear hK K
      try simp only [Act.put, List.setIfInBounds_toArray, List.set_cons_zero, List.set_cons_succ]
      refine wpAnyH_done (by kernel_rfl) ?_ _
      exact KEY _ _ HF6
      case key =>
      intro B W8 HF8
      have HB8 := Hid.mk HF8.out.1
      have HX8 := Hid.mk (HX.out.keep HB8.out)
      clear x0 q0 HC HSS p0 p1 p2 p3 p4
      go_wp2_with fail
      have e0 : W8.cell? ⟨B, 0, none⟩ = some (.int .i64 y0) := HF8.out.2 0
      have e1 : W8.cell? ⟨B, 1, none⟩ = some (.string y1) := HF8.out.2 1
      have e2 : W8.cell? ⟨B, 2, none⟩ = some (.string y2) := HF8.out.2 2
      have e3 : W8.cell? ⟨B, 3, none⟩ = some (.slice yo yN yc) := HF8.out.2 3
      have e4 : W8.cell? ⟨B, 4, none⟩ = some (.slice zo zN zc) := HF8.out.2 4
      have q1 : W8.cell? ⟨w.heap.size + 1, 1, none⟩ = some (.slice (some ⟨fb, foff, none⟩) K1 fc) := HX8.out.two 1
      have q2 : W8.cell? ⟨w.heap.size + 1, 2, none⟩ = some (.slice (some ⟨mb, moff, none⟩) K1 mc) := HX8.out.two 2
      obtain ⟨r0, r1, r2, r3, r4, r5, r6, r7, r8⟩ := HF9.out W8 HB8.out
      have rm := HM0.out W8 HB8.out
      have Ae0 := fun d os => cell_regrown e0 d os
      have Ae1 := fun d os => cell_regrown e1 d os
      have Ae2 := fun d os => cell_regrown e2 d os
      have Ae3 := fun d os => cell_regrown e3 d os
      have Ae4 := fun d os => cell_regrown e4 d os
      have Aq1 := fun d os => cell_regrown q1 d os
      have Aq2 := fun d os => cell_regrown q2 d os
      have Ar0 := fun d os => cell_regrown r0 d os
      have Ar1 := fun d os => cell_regrown r1 d os
      have Ar2 := fun d os => cell_regrown r2 d os
      have Ar3 := fun d os => cell_regrown r3 d os
      have Ar4 := fun d os => cell_regrown r4 d os
      have Ar5 := fun d os => cell_regrown r5 d os
      have Ar6 := fun d os => cell_regrown r6 d os
      have Ar7 := fun d os => cell_regrown r7 d os
      have Ar8 := fun d os => cell_regrown r8 d os
      have Arm := fun d os => cell_regrown rm d os
      cases th with
      | true =>
        obtain ⟨x, hx⟩ : ∃ x, getV V nk = some x := Option.isSome_iff_exists.1 HTH.out
        have HCI := Hid.mk (fun (d : Nat) (os : Array Obj) => HIV.out x fk _ _ (grow (redrawn W8 d) os) (((HYX.out x hx).keep HB8.out).keep (below_regrown W8 d os)) (HGM2.out x hx) HGF2.out ((HFT.out W8 HB8.out).keep (below_regrown W8 d os)))
        have hin : inF (inN h) V (nk, fk, mk) = inN h x fk := by unfold inF; simp only [hx]
        rw [hin] at HU HNo
        obtain ⟨r, hr⟩ : ∃ r, inN h x fk = r := ⟨_, rfl⟩
        rw [hr] at HU HNo HCI
        clear hin hr hx HTH
        cases r with
        | true =>
          have HN : Hid ((L1.take (k + 1)).all (inF (inN h) V) = true) := by show _ = _; rw [HU.out, HQ.out]; rfl
          clear HU HNo HQ
          refine wp_region_quiet_below (by kernel_rfl) (by kernel_rfl) ?_
          repeat (go_big_quiet_step (exact Calls.regrown_of (HCI.out _ _)))
          refine wpQuiet_nil ?_
          intro w7 hw'
          have hbw7 : Below W8.heap.size W8 w7 := by
            obtain ⟨⟨dq, osq⟩, rfl⟩ := hw'
            exact below_regrown W8 dq osq
          clear hw'
          have HX7 := Hid.mk (HX8.out.keep hbw7)
          clear hbw7 Ae0 e0 Ae1 e1 Ae2 e2 Ae3 e3 Ae4 e4 Aq1 q1 Aq2 q2 Ar0 r0 Ar1 r1 Ar2 r2 Ar3 r3 Ar4 r4 Ar5 r5 Ar6 r6 Ar7 r7 Ar8 r8 Arm rm
          go_wp2_with fail
          go_roundw
          case rel => exact ⟨k + 1, hlt, by go_num, HX7, HN⟩
          case measure => simp [intOf]; omega
        | false =>
          have HF := Hid.mk (HNo.out rfl)
          clear HU HNo HQ
          refine wp_region_quiet_below (by kernel_rfl) (by kernel_rfl) ?_
          repeat (go_big_quiet_step (exact Calls.regrown_of (HCI.out _ _)))
          refine wpQuiet_nil ?_
          intro w7 hw'
          have hbw7 : Below W8.heap.size W8 w7 := by
            obtain ⟨⟨dq, osq⟩, rfl⟩ := hw'
            exact below_regrown W8 dq osq
          clear hw'
          have HX7 := Hid.mk (HX8.out.keep hbw7)
          clear hbw7 Ae0 e0 Ae1 e1 Ae2 e2 Ae3 e3 Ae4 e4 Aq1 q1 Aq2 q2 Ar0 r0 Ar1 r1 Ar2 r2 Ar3 r3 Ar4 r4 Ar5 r5 Ar6 r6 Ar7 r7 Ar8 r8 Arm rm
          go_wp2_with fail
          go_ret
          exact ⟨by rw [HF.out]; rfl, HX7.out.below⟩
      | false =>
        have hx : getV V nk = none := by
          have := HTH.out
          cases e : getV V nk with
          | none => rfl
          | some x => rw [e] at this; cases this
        have hin : inF (inN h) V (nk, fk, mk) = !mk := by unfold inF; simp only [hx]
        rw [hin] at HU HNo
        clear hin hx HTH
        cases mk with
        | false =>
          have HN : Hid ((L1.take (k + 1)).all (inF (inN h) V) = true) := by show _ = _; rw [HU.out, HQ.out]; rfl
          clear HU HNo HQ
          refine wp_region_quiet_below (by kernel_rfl) (by kernel_rfl) ?_
          repeat (go_big_quiet_step (fail))
          refine wpQuiet_nil ?_
          intro w7 hw'
          have hbw7 : Below W8.heap.size W8 w7 := by
            obtain ⟨⟨dq, osq⟩, rfl⟩ := hw'
            exact below_regrown W8 dq osq
          clear hw'
          have HX7 := Hid.mk (HX8.out.keep hbw7)
          clear hbw7 Ae0 e0 Ae1 e1 Ae2 e2 Ae3 e3 Ae4 e4 Aq1 q1 Aq2 q2 Ar0 r0 Ar1 r1 Ar2 r2 Ar3 r3 Ar4 r4 Ar5 r5 Ar6 r6 Ar7 r7 Ar8 r8 Arm rm
          go_wp2_with fail
          go_roundw
          case rel => exact ⟨k + 1, hlt, by go_num, HX7, HN⟩
          case measure => simp [intOf]; omega
        | true =>
          have HF := Hid.mk (HNo.out rfl)
          clear HU HNo HQ
          refine wp_region_quiet_below (by kernel_rfl) (by kernel_rfl) ?_
          repeat (go_big_quiet_step (fail))
          refine wpQuiet_nil ?_
          intro w7 hw'
          have hbw7 : Below W8.heap.size W8 w7 := by
            obtain ⟨⟨dq, osq⟩, rfl⟩ := hw'
            exact below_regrown W8 dq osq
          clear hw'
          have HX7 := Hid.mk (HX8.out.keep hbw7)
          clear hbw7 Ae0 e0 Ae1 e1 Ae2 e2 Ae3 e3 Ae4 e4 Aq1 q1 Aq2 q2 Ar0 r0 Ar1 r1 Ar2 r2 Ar3 r3 Ar4 r4 Ar5 r5 Ar6 r6 Ar7 r7 Ar8 r8 Arm rm
          go_wp2_with fail
          go_ret
          exact ⟨by rw [HF.out]; rfl, HX7.out.below⟩
    · have hl1 : ¬ (k : Int) < (K1 : Int) := by omega
      have HR2 : Hid (R = (V.keys.zip V.items).all fun p => hasK ob.names p.1 || inN h p.2 ob.rest) := by
        show _ = _
        have e := HQ.out
        rw [List.take_of_length_le (by rw [HLL.out]; omega)] at e
        rw [HR.out, e]; rfl
      clear HQ HR HLL HLE HGT HGM HFD HMS HGF
      obtain ⟨L2, hL2⟩ : ∃ L, V.keys.zip V.items = L := ⟨_, rfl⟩
      rw [hL2] at HR2
      have HLL : Hid (L2.length = NK) := by
        show _ = _
        have q1 := HLK.out
        have q2 := HNK.out
        rw [← hL2, List.length_zip]
        omega
      have HLE : Hid (∀ j, (hj : j < L2.length) → ∃ (g1 : j < V.keys.length) (g2 : j < V.items.length), L2[j] = (V.keys[j], V.items[j])) := fun j hj => by
        have q0 := HLL.out
        have q1 := HLK.out
        have q2 := HNK.out
        subst hL2
        exact ⟨by omega, by omega, by rw [List.getElem_zip]⟩
      have HE : Hid (NI = NK) := by
        show _ = _
        rw [HNI.out, HNK.out, HLK.out]
      clear hL2
      go_wp2_with fail
      go_loopw [8] (fun i wr => ∃ j : Nat, j ≤ NK ∧ i = .int .i64 (j : Int) ∧ Hid (Bx2 w wr #[.int .i64 kd, .string nm, .string tx, .slice io NI icap, .slice vo NK vcap] #[.slice ko K1 kc, .slice fo K1 fc, .slice mo K1 mc, .bool sa, .bool sb, .bool sc, .bool sd, .slice seo sen sec, .bool sf, .slice sgo sgn sgc, .slice sio sinn sic, .slice sjo sjn sjc]) ∧ Hid ((L2.take j).all (fun p => hasK ob.names p.1 || inN h p.2 ob.rest) = true)) (fun i _ => NK - (intOf i).toNat)
      case atStart => exact ⟨0, Nat.zero_le _, rfl, HX, rfl⟩
      case round =>
        clear HX hlt hl1 hk q0
        obtain ⟨j, hk, rfl, HX, HQ⟩ := hrel
        have p4 : wr.cell? ⟨w.heap.size, 4, none⟩ = some (.slice vo NK vcap) := HX.out.one 4
        by_cases hlt : j < NK
        · have hl1 : (j : Int) < (NK : Int) := by omega
          have hl0 : (0 : Int) ≤ (j : Int) := by omega
          have hl2 : (j : Int) < (NI : Int) := by have := HE.out; omega
          have hkl : j < L2.length := by rw [HLL.out]; exact hlt
          obtain ⟨g1, g2, hz⟩ := HLE.out j hkl
          obtain ⟨vb, voff, hvo, hvb, hvrow⟩ := (HKS.out wr HX.out.below).row (by omega)
          have x0 := hvrow j g1
          rw [show V.keys.getD j .empty = V.keys[j] by simp [List.getD, g1]] at x0
          obtain ⟨ib, ioff, hio, hib, hirow⟩ := (HIT.out wr HX.out.below).row (by omega)
          obtain ⟨v0, v1, v2, v3, v4, ⟨i0, i1, i2, i3, i4⟩, ht⟩ := hirow j g2
          obtain ⟨ik, inm, itx, iio, iN, iicap, iko, iK, ikcap, rfl, rfl, rfl, rfl, rfl⟩ := ht.shape
          subst hvo hio
          have HCH := Hid.mk (fun (d : Nat) (os : Array Obj) => (w_rHas ko K1 kc ob.names V.keys[j] (grow (redrawn wr d) os) ((HNM.out wr HX.out.below).keep (below_regrown wr d os)) HK1.out hc1 hln).mono (fun e w' kq => (⟨kq.1, by rw [kq.2]; exact Below.refl _ _⟩ : e = .returned (.bool (hasK ob.names V.keys[j])) ∧ Below (grow (redrawn wr d) os).heap.size (grow (redrawn wr d) os) w')))
          have HCI := Hid.mk (fun (d : Nat) (os : Array Obj) => HIV.out V.items[j] ob.rest _ _ (grow (redrawn wr d) os) (ht.keep (below_regrown wr d os)) (HFI.out _ (List.getElem_mem g2)) HGR.out ((HRS.out wr HX.out.below).keep (below_regrown wr d os)))
          have HU := Hid.mk (zall_up (f := fun p => hasK ob.names p.1 || inN h p.2 ob.rest) hkl)
          have HNo : Hid ((hasK ob.names L2[j].1 || inN h L2[j].2 ob.rest) = false → R = false) := fun hh => by rw [HR2.out]; exact zall_no (f := fun p => hasK ob.names p.1 || inN h p.2 ob.rest) hkl hh
          rw [hz] at HU HNo
          simp only [] at HU HNo
          obtain ⟨hb, hhb⟩ : ∃ b, hasK ob.names V.keys[j] = b := ⟨_, rfl⟩
          obtain ⟨r, hr⟩ : ∃ r, inN h V.items[j] ob.rest = r := ⟨_, rfl⟩
          rw [hhb] at HU HNo HCH
          rw [hr] at HU HNo HCI
          generalize V.keys[j] = kj at *
          clear hhb hr hz hvrow hirow ht hkl g1 g2
          have q0 : wr.cell? ⟨w.heap.size + 1, 0, none⟩ = some (.slice ko K1 kc) := HX.out.two 0
          have q3 : wr.cell? ⟨w.heap.size + 1, 3, none⟩ = some (.bool sa) := HX.out.two 3
          have q4 : wr.cell? ⟨w.heap.size + 1, 4, none⟩ = some (.bool sb) := HX.out.two 4
          have q5 : wr.cell? ⟨w.heap.size + 1, 5, none⟩ = some (.bool sc) := HX.out.two 5
          have q6 : wr.cell? ⟨w.heap.size + 1, 6, none⟩ = some (.bool sd) := HX.out.two 6
          have q7 : wr.cell? ⟨w.heap.size + 1, 7, none⟩ = some (.slice seo sen sec) := HX.out.two 7
          have q8 : wr.cell? ⟨w.heap.size + 1, 8, none⟩ = some (.bool sf) := HX.out.two 8
          have q9 : wr.cell? ⟨w.heap.size + 1, 9, none⟩ = some (.slice sgo sgn sgc) := HX.out.two 9
          have q10 : wr.cell? ⟨w.heap.size + 1, 10, none⟩ = some (.slice sio sinn sic) := HX.out.two 10
          have q11 : wr.cell? ⟨w.heap.size + 1, 11, none⟩ = some (.slice sjo sjn sjc) := HX.out.two 11
          have p3 : wr.cell? ⟨w.heap.size, 3, none⟩ = some (.slice (some ⟨ib, ioff, none⟩) NI icap) := HX.out.one 3
          have Ax0 := fun d os => cell_regrown x0 d os
          have Ap3 := fun d os => cell_regrown p3 d os
          have Ap4 := fun d os => cell_regrown p4 d os
          have Aq0 := fun d os => cell_regrown q0 d os
          have Aq3 := fun d os => cell_regrown q3 d os
          have Aq4 := fun d os => cell_regrown q4 d os
          have Aq5 := fun d os => cell_regrown q5 d os
          have Aq6 := fun d os => cell_regrown q6 d os
          have Aq7 := fun d os => cell_regrown q7 d os
          have Aq8 := fun d os => cell_regrown q8 d os
          have Aq9 := fun d os => cell_regrown q9 d os
          have Aq10 := fun d os => cell_regrown q10 d os
          have Aq11 := fun d os => cell_regrown q11 d os
          have Ai0 := fun d os => cell_regrown i0 d os
          have Ai1 := fun d os => cell_regrown i1 d os
          have Ai2 := fun d os => cell_regrown i2 d os
          have Ai3 := fun d os => cell_regrown i3 d os
          have Ai4 := fun d os => cell_regrown i4 d os
          cases hb with
          | true =>
            have HN : Hid ((L2.take (j + 1)).all (fun p => hasK ob.names p.1 || inN h p.2 ob.rest) = true) := by show _ = _; rw [HU.out, HQ.out]; rfl
            clear HU HNo HQ
            go_wp2_with fail
            refine wp_region_quiet_below (by kernel_rfl) (by kernel_rfl) ?_
            iterate 8 (go_big_quiet_step (exact Calls.regrown_of (HCH.out _ _)))
            repeat (go_big_quiet_step (fail))
            refine wpQuiet_nil ?_
            intro w7 hw'
            have hbw7 : Below wr.heap.size wr w7 := by
              obtain ⟨⟨dq, osq⟩, rfl⟩ := hw'
              exact below_regrown wr dq osq
            clear hw'
            have HX7 := Hid.mk (HX.out.keep hbw7)
            clear hbw7 Ax0 x0 Ap3 p3 Ap4 p4 Aq0 q0 Aq3 q3 Aq4 q4 Aq5 q5 Aq6 q6 Aq7 q7 Aq8 q8 Aq9 q9 Aq10 q10 Aq11 q11 Ai0 i0 Ai1 i1 Ai2 i2 Ai3 i3 Ai4 i4
            go_wp2_with fail
            go_roundw
            case rel => exact ⟨j + 1, hlt, by go_num, HX7, HN⟩
            case measure => simp [intOf]; omega
          | false =>
            cases r with
            | true =>
              have HN : Hid ((L2.take (j + 1)).all (fun p => hasK ob.names p.1 || inN h p.2 ob.rest) = true) := by show _ = _; rw [HU.out, HQ.out]; rfl
              clear HU HNo HQ
              go_wp2_with fail
              refine wp_region_quiet_below (by kernel_rfl) (by kernel_rfl) ?_
              iterate 8 (go_big_quiet_step (exact Calls.regrown_of (HCH.out _ _)))
              repeat (go_big_quiet_step (exact Calls.regrown_of (HCI.out _ _)))
              refine wpQuiet_nil ?_
              intro w7 hw'
              have hbw7 : Below wr.heap.size wr w7 := by
                obtain ⟨⟨dq, osq⟩, rfl⟩ := hw'
                exact below_regrown wr dq osq
              clear hw'
              have HX7 := Hid.mk (HX.out.keep hbw7)
              clear hbw7 Ax0 x0 Ap3 p3 Ap4 p4 Aq0 q0 Aq3 q3 Aq4 q4 Aq5 q5 Aq6 q6 Aq7 q7 Aq8 q8 Aq9 q9 Aq10 q10 Aq11 q11 Ai0 i0 Ai1 i1 Ai2 i2 Ai3 i3 Ai4 i4
              go_wp2_with fail
              go_roundw
              case rel => exact ⟨j + 1, hlt, by go_num, HX7, HN⟩
              case measure => simp [intOf]; omega
            | false =>
              have HF := Hid.mk (HNo.out rfl)
              clear HU HNo HQ
              go_wp2_with fail
              refine wp_region_quiet_below (by kernel_rfl) (by kernel_rfl) ?_
              iterate 8 (go_big_quiet_step (exact Calls.regrown_of (HCH.out _ _)))
              repeat (go_big_quiet_step (exact Calls.regrown_of (HCI.out _ _)))
              refine wpQuiet_nil ?_
              intro w7 hw'
              have hbw7 : Below wr.heap.size wr w7 := by
                obtain ⟨⟨dq, osq⟩, rfl⟩ := hw'
                exact below_regrown wr dq osq
              clear hw'
              have HX7 := Hid.mk (HX.out.keep hbw7)
              clear hbw7 Ax0 x0 Ap3 p3 Ap4 p4 Aq0 q0 Aq3 q3 Aq4 q4 Aq5 q5 Aq6 q6 Aq7 q7 Aq8 q8 Aq9 q9 Aq10 q10 Aq11 q11 Ai0 i0 Ai1 i1 Ai2 i2 Ai3 i3 Ai4 i4
              go_wp2_with fail
              go_ret
              exact ⟨by rw [HF.out]; rfl, HX7.out.below⟩
        · have hl1 : ¬ (j : Int) < (NK : Int) := by omega
          have HF : Hid (R = true) := by
            show _ = _
            have e := HQ.out
            rw [List.take_of_length_le (by rw [HLL.out]; omega)] at e
            rw [HR2.out, e]
          clear HQ
          go_wp2_with fail
          go_ret
          exact ⟨by rw [HF.out]; rfl, HX.out.below⟩
end Go.Proofs.Ytihhjplbpaafiaa
namespace Go.Proofs.Ytihhjplbpaafiaa
open Go.RowKit Go.Shelf Go.Sort
set_option linter.unusedVariables false
set_option linter.unusedSimpArgs false
attribute [local go_sem] Oper.semAt_some


set_option maxRecDepth 100000 in
set_option maxHeartbeats 6400000 in
theorem in_all (kd : Int) (nm tx : ByteArray) (io : Option Addr) (NI icap : Nat) (vo : Option Addr) (NK vcap : Nat) (sb sc sd : Bool) (seo : Option Addr) (sen sec : Nat) (sf : Bool) (sgo : Option Addr) (sgn sgc : Nat) (sio : Option Addr) (sinn sic : Nat) (sjo : Option Addr) (sjn sjc : Nat) (w : World) :
    Calls Try.prog 12 #[.agg #[.int .i64 kd, .string nm, .string tx, .slice io NI icap, .slice vo NK vcap], .agg #[.bool true, .bool sb, .bool sc, .bool sd, .slice seo sen sec, .bool sf, .slice sgo sgn sgc, .slice sio sinn sic, .slice sjo sjn sjc]] w fun e w' => e = .returned (.bool (true)) ∧ Below w.heap.size w w' := by
  have HX := Hid.mk (bx2_two w #[.int .i64 kd, .string nm, .string tx, .slice io NI icap, .slice vo NK vcap] #[.bool true, .bool sb, .bool sc, .bool sd, .slice seo sen sec, .bool sf, .slice sgo sgn sgc, .slice sio sinn sic, .slice sjo sjn sjc] 33 27)
  obtain ⟨W0, hW0⟩ : ∃ W0, (w.alloc (.cells #[.int .i64 kd, .string nm, .string tx, .slice io NI icap, .slice vo NK vcap] 33)).alloc (.cells #[.bool true, .bool sb, .bool sc, .bool sd, .slice seo sen sec, .bool sf, .slice sgo sgn sgc, .slice sio sinn sic, .slice sjo sjn sjc] 27) = W0 := ⟨_, rfl⟩
  rw [hW0] at HX
  have p0 : W0.cell? ⟨w.heap.size, 0, none⟩ = some (.int .i64 kd) := HX.out.one 0
  have q0 : W0.cell? ⟨w.heap.size + 1, 0, none⟩ = some (.bool true) := HX.out.two 0
  go_enter Try.func12, Try.ntmps12
  go_wp2_with fail
  go_ret
  exact ⟨by first | rfl | simp, HX.out.below⟩

set_option maxRecDepth 100000 in
set_option maxHeartbeats 6400000 in
theorem in_k0 (nm tx : ByteArray) (io : Option Addr) (NI icap : Nat) (vo : Option Addr) (NK vcap : Nat) (sb sc sd : Bool) (seo : Option Addr) (sen sec : Nat) (sf : Bool) (sgo : Option Addr) (sgn sgc : Nat) (sio : Option Addr) (sinn sic : Nat) (sjo : Option Addr) (sjn sjc : Nat) (w : World) :
    Calls Try.prog 12 #[.agg #[.int .i64 0, .string nm, .string tx, .slice io NI icap, .slice vo NK vcap], .agg #[.bool false, .bool sb, .bool sc, .bool sd, .slice seo sen sec, .bool sf, .slice sgo sgn sgc, .slice sio sinn sic, .slice sjo sjn sjc]] w fun e w' => e = .returned (.bool (sb)) ∧ Below w.heap.size w w' := by
  have HX := Hid.mk (bx2_two w #[.int .i64 0, .string nm, .string tx, .slice io NI icap, .slice vo NK vcap] #[.bool false, .bool sb, .bool sc, .bool sd, .slice seo sen sec, .bool sf, .slice sgo sgn sgc, .slice sio sinn sic, .slice sjo sjn sjc] 33 27)
  obtain ⟨W0, hW0⟩ : ∃ W0, (w.alloc (.cells #[.int .i64 0, .string nm, .string tx, .slice io NI icap, .slice vo NK vcap] 33)).alloc (.cells #[.bool false, .bool sb, .bool sc, .bool sd, .slice seo sen sec, .bool sf, .slice sgo sgn sgc, .slice sio sinn sic, .slice sjo sjn sjc] 27) = W0 := ⟨_, rfl⟩
  rw [hW0] at HX
  have p0 : W0.cell? ⟨w.heap.size, 0, none⟩ = some (.int .i64 0) := HX.out.one 0
  have q0 : W0.cell? ⟨w.heap.size + 1, 0, none⟩ = some (.bool false) := HX.out.two 0
  have q1 : W0.cell? ⟨w.heap.size + 1, 1, none⟩ = some (.bool sb) := HX.out.two 1
  go_enter Try.func12, Try.ntmps12
  go_wp2_with fail
  go_ret
  exact ⟨by first | rfl | simp, HX.out.below⟩

set_option maxRecDepth 100000 in
set_option maxHeartbeats 6400000 in
theorem in_k1 (nm tx : ByteArray) (io : Option Addr) (NI icap : Nat) (vo : Option Addr) (NK vcap : Nat) (sb sc sd : Bool) (seo : Option Addr) (sen sec : Nat) (sf : Bool) (sgo : Option Addr) (sgn sgc : Nat) (sio : Option Addr) (sinn sic : Nat) (sjo : Option Addr) (sjn sjc : Nat) (w : World) :
    Calls Try.prog 12 #[.agg #[.int .i64 1, .string nm, .string tx, .slice io NI icap, .slice vo NK vcap], .agg #[.bool false, .bool sb, .bool sc, .bool sd, .slice seo sen sec, .bool sf, .slice sgo sgn sgc, .slice sio sinn sic, .slice sjo sjn sjc]] w fun e w' => e = .returned (.bool (sc)) ∧ Below w.heap.size w w' := by
  have HX := Hid.mk (bx2_two w #[.int .i64 1, .string nm, .string tx, .slice io NI icap, .slice vo NK vcap] #[.bool false, .bool sb, .bool sc, .bool sd, .slice seo sen sec, .bool sf, .slice sgo sgn sgc, .slice sio sinn sic, .slice sjo sjn sjc] 33 27)
  obtain ⟨W0, hW0⟩ : ∃ W0, (w.alloc (.cells #[.int .i64 1, .string nm, .string tx, .slice io NI icap, .slice vo NK vcap] 33)).alloc (.cells #[.bool false, .bool sb, .bool sc, .bool sd, .slice seo sen sec, .bool sf, .slice sgo sgn sgc, .slice sio sinn sic, .slice sjo sjn sjc] 27) = W0 := ⟨_, rfl⟩
  rw [hW0] at HX
  have p0 : W0.cell? ⟨w.heap.size, 0, none⟩ = some (.int .i64 1) := HX.out.one 0
  have q0 : W0.cell? ⟨w.heap.size + 1, 0, none⟩ = some (.bool false) := HX.out.two 0
  have q2 : W0.cell? ⟨w.heap.size + 1, 2, none⟩ = some (.bool sc) := HX.out.two 2
  go_enter Try.func12, Try.ntmps12
  go_wp2_with fail
  go_ret
  exact ⟨by first | rfl | simp, HX.out.below⟩

set_option maxRecDepth 100000 in
set_option maxHeartbeats 6400000 in
theorem in_k2 (nm tx : ByteArray) (io : Option Addr) (NI icap : Nat) (vo : Option Addr) (NK vcap : Nat) (sb sc sd : Bool) (seo : Option Addr) (sen sec : Nat) (sf : Bool) (sgo : Option Addr) (sgn sgc : Nat) (sio : Option Addr) (sinn sic : Nat) (sjo : Option Addr) (sjn sjc : Nat) (w : World) :
    Calls Try.prog 12 #[.agg #[.int .i64 2, .string nm, .string tx, .slice io NI icap, .slice vo NK vcap], .agg #[.bool false, .bool sb, .bool sc, .bool sd, .slice seo sen sec, .bool sf, .slice sgo sgn sgc, .slice sio sinn sic, .slice sjo sjn sjc]] w fun e w' => e = .returned (.bool (sd)) ∧ Below w.heap.size w w' := by
  have HX := Hid.mk (bx2_two w #[.int .i64 2, .string nm, .string tx, .slice io NI icap, .slice vo NK vcap] #[.bool false, .bool sb, .bool sc, .bool sd, .slice seo sen sec, .bool sf, .slice sgo sgn sgc, .slice sio sinn sic, .slice sjo sjn sjc] 33 27)
  obtain ⟨W0, hW0⟩ : ∃ W0, (w.alloc (.cells #[.int .i64 2, .string nm, .string tx, .slice io NI icap, .slice vo NK vcap] 33)).alloc (.cells #[.bool false, .bool sb, .bool sc, .bool sd, .slice seo sen sec, .bool sf, .slice sgo sgn sgc, .slice sio sinn sic, .slice sjo sjn sjc] 27) = W0 := ⟨_, rfl⟩
  rw [hW0] at HX
  have p0 : W0.cell? ⟨w.heap.size, 0, none⟩ = some (.int .i64 2) := HX.out.one 0
  have q0 : W0.cell? ⟨w.heap.size + 1, 0, none⟩ = some (.bool false) := HX.out.two 0
  have q3 : W0.cell? ⟨w.heap.size + 1, 3, none⟩ = some (.bool sd) := HX.out.two 3
  go_enter Try.func12, Try.ntmps12
  go_wp2_with fail
  go_ret
  exact ⟨by first | rfl | simp, HX.out.below⟩

set_option maxRecDepth 100000 in
set_option maxHeartbeats 6400000 in
theorem in_k3 (nm tx : ByteArray) (io : Option Addr) (NI icap : Nat) (vo : Option Addr) (NK vcap : Nat) (sb sc sd : Bool) (seo : Option Addr) (sen sec : Nat) (sf : Bool) (sgo : Option Addr) (sgn sgc : Nat) (sio : Option Addr) (sinn sic : Nat) (sjo : Option Addr) (sjn sjc : Nat) (w : World) (r : Bool) (hsc : sen ≤ sec) (HZ : Hid (sen = 0 → r = false)) (HS : Hid (0 < sen → ∃ (lo hi : ByteArray) (b off : Nat), seo = some ⟨b, off, none⟩ ∧ b < w.heap.size ∧ w.cell? ⟨b, off, none⟩ = some (.string lo) ∧ w.cell? ⟨b, off + 1, none⟩ = some (.string hi) ∧ ∀ u, Below w.heap.size w u → Calls Try.prog 29 #[.string nm, .agg #[.string lo, .string hi]] u fun e w' => e = .returned (.bool r) ∧ Below u.heap.size u w')) :
    Calls Try.prog 12 #[.agg #[.int .i64 3, .string nm, .string tx, .slice io NI icap, .slice vo NK vcap], .agg #[.bool false, .bool sb, .bool sc, .bool sd, .slice seo sen sec, .bool sf, .slice sgo sgn sgc, .slice sio sinn sic, .slice sjo sjn sjc]] w fun e w' => e = .returned (.bool (r)) ∧ Below w.heap.size w w' := by
  have HX := Hid.mk (bx2_two w #[.int .i64 3, .string nm, .string tx, .slice io NI icap, .slice vo NK vcap] #[.bool false, .bool sb, .bool sc, .bool sd, .slice seo sen sec, .bool sf, .slice sgo sgn sgc, .slice sio sinn sic, .slice sjo sjn sjc] 33 27)
  obtain ⟨W0, hW0⟩ : ∃ W0, (w.alloc (.cells #[.int .i64 3, .string nm, .string tx, .slice io NI icap, .slice vo NK vcap] 33)).alloc (.cells #[.bool false, .bool sb, .bool sc, .bool sd, .slice seo sen sec, .bool sf, .slice sgo sgn sgc, .slice sio sinn sic, .slice sjo sjn sjc] 27) = W0 := ⟨_, rfl⟩
  rw [hW0] at HX
  have p0 : W0.cell? ⟨w.heap.size, 0, none⟩ = some (.int .i64 3) := HX.out.one 0
  have q0 : W0.cell? ⟨w.heap.size + 1, 0, none⟩ = some (.bool false) := HX.out.two 0
  have q4 : W0.cell? ⟨w.heap.size + 1, 4, none⟩ = some (.slice seo sen sec) := HX.out.two 4
  have p1 : W0.cell? ⟨w.heap.size, 1, none⟩ = some (.string nm) := HX.out.one 1
  by_cases hn : 0 < sen
  · have hn1 : (0 : Int) < (sen : Int) := by omega
    obtain ⟨lo, hi, b, off, hso, hbl, k0, k1, hc⟩ := HS.out hn
    subst hso
    replace k0 := (HX.out.below.cell (p := ⟨_, _, _⟩) hbl).trans k0
    replace k1 := (HX.out.below.cell (p := ⟨_, _, _⟩) hbl).trans k1
    have HC := Hid.mk (fun (d : Nat) (os : Array Obj) => hc (grow (redrawn W0 d) os) (HX.out.below.trans ((below_regrown W0 d os).mono HX.out.below.size)))
    clear hc
    have Ap1 := fun d os => cell_regrown p1 d os
    have Aq4 := fun d os => cell_regrown q4 d os
    have Ak0 := fun d os => cell_regrown k0 d os
    have Ak1 := fun d os => cell_regrown k1 d os
    have d1 : decide ((0 : Int) < (sen : Int)) = true := decide_eq_true hn1
    have d2 : decide (0 < sen) = true := decide_eq_true hn
    go_enter Try.func12, Try.ntmps12
    go_wp2_with fail
    refine wp_region_quiet_below (by kernel_rfl) (by kernel_rfl) ?_
    repeat (go_big_quiet_step (exact Calls.regrown_of (HC.out _ _)))
    refine wpQuiet_nil ?_
    intro w9 hw'
    have hbw9 : Below W0.heap.size W0 w9 := by
      obtain ⟨⟨dq, osq⟩, rfl⟩ := hw'
      exact below_regrown W0 dq osq
    clear hw'
    have HX9 := Hid.mk (HX.out.keep hbw9)
    clear hbw9 hW0 Ap1 p1 Aq4 q4 Ak0 k0 Ak1 k1
    go_wp2_with fail
    go_ret
    exact ⟨by first | rfl | simp, HX9.out.below⟩
  · have hn0 : sen = 0 := by omega
    subst hn0
    obtain rfl := HZ.out rfl
    have Aq4 := fun d os => cell_regrown q4 d os
    go_enter Try.func12, Try.ntmps12
    go_wp2_with fail
    refine wp_region_quiet_below (by kernel_rfl) (by kernel_rfl) ?_
    repeat (go_big_quiet_step (fail))
    refine wpQuiet_nil ?_
    intro w9 hw'
    have hbw9 : Below W0.heap.size W0 w9 := by
      obtain ⟨⟨dq, osq⟩, rfl⟩ := hw'
      exact below_regrown W0 dq osq
    clear hw'
    have HX9 := Hid.mk (HX.out.keep hbw9)
    clear hbw9 hW0 Aq4 q4
    go_wp2_with fail
    go_ret
    exact ⟨by first | rfl | simp, HX9.out.below⟩

set_option maxRecDepth 100000 in
set_option maxHeartbeats 6400000 in
theorem in_k4 (nm tx : ByteArray) (io : Option Addr) (NI icap : Nat) (vo : Option Addr) (NK vcap : Nat) (sb sc sd : Bool) (seo : Option Addr) (sen sec : Nat) (sf : Bool) (sgo : Option Addr) (sgn sgc : Nat) (sio : Option Addr) (sinn sic : Nat) (sjo : Option Addr) (sjn sjc : Nat) (w : World) (ts : List ByteArray) (hkt : KIn w sgo ts) (hts : ts.length = sgn) (hgc : sgn ≤ sgc) (hg2 : sgn ≤ 140737488355328) :
    Calls Try.prog 12 #[.agg #[.int .i64 4, .string nm, .string tx, .slice io NI icap, .slice vo NK vcap], .agg #[.bool false, .bool sb, .bool sc, .bool sd, .slice seo sen sec, .bool sf, .slice sgo sgn sgc, .slice sio sinn sic, .slice sjo sjn sjc]] w fun e w' => e = .returned (.bool (sf || hasK ts tx)) ∧ Below w.heap.size w w' := by
  have HX := Hid.mk (bx2_two w #[.int .i64 4, .string nm, .string tx, .slice io NI icap, .slice vo NK vcap] #[.bool false, .bool sb, .bool sc, .bool sd, .slice seo sen sec, .bool sf, .slice sgo sgn sgc, .slice sio sinn sic, .slice sjo sjn sjc] 33 27)
  obtain ⟨W0, hW0⟩ : ∃ W0, (w.alloc (.cells #[.int .i64 4, .string nm, .string tx, .slice io NI icap, .slice vo NK vcap] 33)).alloc (.cells #[.bool false, .bool sb, .bool sc, .bool sd, .slice seo sen sec, .bool sf, .slice sgo sgn sgc, .slice sio sinn sic, .slice sjo sjn sjc] 27) = W0 := ⟨_, rfl⟩
  rw [hW0] at HX
  have p0 : W0.cell? ⟨w.heap.size, 0, none⟩ = some (.int .i64 4) := HX.out.one 0
  have q0 : W0.cell? ⟨w.heap.size + 1, 0, none⟩ = some (.bool false) := HX.out.two 0
  have q5 : W0.cell? ⟨w.heap.size + 1, 5, none⟩ = some (.bool sf) := HX.out.two 5
  cases sf with
  | true =>
    have HF : Hid ((true || hasK ts tx) = true) := by show _ = _; simp
    go_enter Try.func12, Try.ntmps12
    go_wp2_with fail
    go_ret
    exact ⟨by rw [HF.out]; rfl, HX.out.below⟩
  | false =>
    obtain ⟨R, hR⟩ : ∃ R, (false || hasK ts tx) = R := ⟨_, rfl⟩
    have HR : Hid (R = ts.any fun k => eqS k tx) := by show _ = _; rw [← hR]; rfl
    rw [hR]
    clear hR
    have HKT := Hid.mk hkt
    have HM := Hid.mk hts
    clear hkt hts
    go_enter Try.func12, Try.ntmps12
    go_wp2_with fail
    try rw [hW0]
    clear hW0
    go_loopw [5] (fun i wr => ∃ k : Nat, k ≤ sgn ∧ i = .int .i64 (k : Int) ∧ Hid (Bx2 w wr #[.int .i64 4, .string nm, .string tx, .slice io NI icap, .slice vo NK vcap] (#[.bool false, .bool sb, .bool sc, .bool sd, .slice seo sen sec, .bool false, .slice sgo sgn sgc, .slice sio sinn sic, .slice sjo sjn sjc])) ∧ Hid ((ts.take k).any (fun k => eqS k tx) = false)) (fun i _ => sgn - (intOf i).toNat)
    case atStart => exact ⟨0, Nat.zero_le _, rfl, HX, rfl⟩
    case round =>
      clear p0 q0 q5 HX
      obtain ⟨k, hk, rfl, HX, HQ⟩ := hrel
      have q6 : wr.cell? ⟨w.heap.size + 1, 6, none⟩ = some (.slice sgo sgn sgc) := HX.out.two 6
      have p2 : wr.cell? ⟨w.heap.size, 2, none⟩ = some (.string tx) := HX.out.one 2
      by_cases hlt : k < sgn
      · have hl1 : (k : Int) < (sgn : Int) := by omega
        have hl0 : (0 : Int) ≤ (k : Int) := by omega
        have hka : k < ts.length := by rw [HM.out]; exact hlt
        obtain ⟨b, off, hko, hbl, hrow⟩ := (HKT.out.keep HX.out.below).row (by omega)
        subst hko
        have c0 := hrow k hka
        rw [show ts.getD k ByteArray.empty = ts[k] by simp [List.getD, hka]] at c0
        have HU := Hid.mk (any_up (f := fun k => eqS k tx) hka)
        have HY := Hid.mk (fun hh => any_yes (f := fun k => eqS k tx) hka hh)
        have he : eqS ts[k] tx = (ts[k].toList == tx.toList) := rfl
        simp only [he] at HU HY
        generalize ts[k] = x at *
        clear hrow hka he
        have Ap2 := fun d os => cell_regrown p2 d os
        have Aq6 := fun d os => cell_regrown q6 d os
        have Ac0 := fun d os => cell_regrown c0 d os
        cases hx : (x.toList == tx.toList) with
        | true =>
          have HF : Hid (R = true) := by show _ = _; rw [HR.out]; exact HY.out hx
          clear HU HY HQ
          go_wp2_with fail
          refine wp_region_quiet_below (by kernel_rfl) (by kernel_rfl) ?_
          repeat (go_big_quiet_step (fail))
          refine wpQuiet_nil ?_
          intro w9 hw'
          have hbw9 : Below wr.heap.size wr w9 := by
            obtain ⟨⟨dq, osq⟩, rfl⟩ := hw'
            exact below_regrown wr dq osq
          clear hw'
          have HX9 := Hid.mk (HX.out.keep hbw9)
          clear hbw9 Ap2 p2 Aq6 q6 Ac0 c0
          go_wp2_with fail
          go_ret
          exact ⟨by rw [HF.out]; rfl, HX9.out.below⟩
        | false =>
          have HN : Hid ((ts.take (k + 1)).any (fun k => eqS k tx) = false) := by show _ = _; rw [HU.out, HQ.out, hx]; rfl
          clear HU HY HQ
          go_wp2_with fail
          refine wp_region_quiet_below (by kernel_rfl) (by kernel_rfl) ?_
          repeat (go_big_quiet_step (fail))
          refine wpQuiet_nil ?_
          intro w9 hw'
          have hbw9 : Below wr.heap.size wr w9 := by
            obtain ⟨⟨dq, osq⟩, rfl⟩ := hw'
            exact below_regrown wr dq osq
          clear hw'
          have HX9 := Hid.mk (HX.out.keep hbw9)
          clear hbw9 Ap2 p2 Aq6 q6 Ac0 c0
          go_wp2_with fail
          go_roundw
          case rel => exact ⟨k + 1, hlt, by go_num, HX9, HN⟩
          case measure => simp [intOf]; omega
      · have hl1 : ¬ (k : Int) < (sgn : Int) := by omega
        have HF : Hid (R = false) := by
          show _ = _
          have e := HQ.out
          rw [List.take_of_length_le (by rw [HM.out]; omega)] at e
          rw [HR.out, e]
        clear HQ
        go_wp2_with fail
        go_ret
        exact ⟨by rw [HF.out]; rfl, HX.out.below⟩

set_option maxRecDepth 100000 in
set_option maxHeartbeats 6400000 in
theorem in_k5 (nm tx : ByteArray) (io : Option Addr) (NI icap : Nat) (vo : Option Addr) (NK vcap : Nat) (sb sc sd : Bool) (seo : Option Addr) (sen sec : Nat) (sf : Bool) (sgo : Option Addr) (sgn sgc : Nat) (sio : Option Addr) (sinn sic : Nat) (sjo : Option Addr) (sjn sjc : Nat) (w : World) (r : Bool) (hsc : sinn ≤ sic) (HZ : Hid (sinn = 0 → r = false)) (HS : Hid (0 < sinn → ∃ (b off : Nat) (ta tb tc td : Bool) (teo : Option Addr) (ten tec : Nat) (tf : Bool) (tgo : Option Addr) (tgn tgc : Nat) (tio : Option Addr) (tinn tic : Nat) (tjo : Option Addr) (tjn tjc : Nat) (m1 n1 : Int), sio = some ⟨b, off, none⟩ ∧ b < w.heap.size ∧ w.cell? ⟨b, off, none⟩ = some (.bool ta) ∧ w.cell? ⟨b, off + 1, none⟩ = some (.bool tb) ∧ w.cell? ⟨b, off + 2, none⟩ = some (.bool tc) ∧ w.cell? ⟨b, off + 3, none⟩ = some (.bool td) ∧ w.cell? ⟨b, off + 4, none⟩ = some (.slice teo ten tec) ∧ w.cell? ⟨b, off + 5, none⟩ = some (.bool tf) ∧ w.cell? ⟨b, off + 6, none⟩ = some (.slice tgo tgn tgc) ∧ w.cell? ⟨b, off + 7, none⟩ = some (.slice tio tinn tic) ∧ w.cell? ⟨b, off + 8, none⟩ = some (.slice tjo tjn tjc) ∧ w.cell? ⟨b, off + 9, none⟩ = some (.int .i64 m1) ∧ w.cell? ⟨b, off + 10, none⟩ = some (.int .i64 n1) ∧ ∀ u, Below w.heap.size w u → Calls Try.prog 30 #[.slice io NI icap, .agg #[.bool ta, .bool tb, .bool tc, .bool td, .slice teo ten tec, .bool tf, .slice tgo tgn tgc, .slice tio tinn tic, .slice tjo tjn tjc, .int .i64 m1, .int .i64 n1]] u fun e w' => e = .returned (.bool r) ∧ Below u.heap.size u w')) :
    Calls Try.prog 12 #[.agg #[.int .i64 5, .string nm, .string tx, .slice io NI icap, .slice vo NK vcap], .agg #[.bool false, .bool sb, .bool sc, .bool sd, .slice seo sen sec, .bool sf, .slice sgo sgn sgc, .slice sio sinn sic, .slice sjo sjn sjc]] w fun e w' => e = .returned (.bool (r)) ∧ Below w.heap.size w w' := by
  have HX := Hid.mk (bx2_two w #[.int .i64 5, .string nm, .string tx, .slice io NI icap, .slice vo NK vcap] #[.bool false, .bool sb, .bool sc, .bool sd, .slice seo sen sec, .bool sf, .slice sgo sgn sgc, .slice sio sinn sic, .slice sjo sjn sjc] 33 27)
  obtain ⟨W0, hW0⟩ : ∃ W0, (w.alloc (.cells #[.int .i64 5, .string nm, .string tx, .slice io NI icap, .slice vo NK vcap] 33)).alloc (.cells #[.bool false, .bool sb, .bool sc, .bool sd, .slice seo sen sec, .bool sf, .slice sgo sgn sgc, .slice sio sinn sic, .slice sjo sjn sjc] 27) = W0 := ⟨_, rfl⟩
  rw [hW0] at HX
  have p0 : W0.cell? ⟨w.heap.size, 0, none⟩ = some (.int .i64 5) := HX.out.one 0
  have q0 : W0.cell? ⟨w.heap.size + 1, 0, none⟩ = some (.bool false) := HX.out.two 0
  have q7 : W0.cell? ⟨w.heap.size + 1, 7, none⟩ = some (.slice sio sinn sic) := HX.out.two 7
  have p3 : W0.cell? ⟨w.heap.size, 3, none⟩ = some (.slice io NI icap) := HX.out.one 3
  by_cases hn : 0 < sinn
  · have hn1 : (0 : Int) < (sinn : Int) := by omega
    obtain ⟨b, off, ta, tb, tc, td, teo, ten, tec, tf, tgo, tgn, tgc, tio, tinn, tic, tjo, tjn, tjc, m1, n1, hso, hbl, k0, k1, k2, k3, k4, k5, k6, k7, k8, k9, k10, hc⟩ := HS.out hn
    subst hso
    replace k0 := (HX.out.below.cell (p := ⟨_, _, _⟩) hbl).trans k0
    replace k1 := (HX.out.below.cell (p := ⟨_, _, _⟩) hbl).trans k1
    replace k2 := (HX.out.below.cell (p := ⟨_, _, _⟩) hbl).trans k2
    replace k3 := (HX.out.below.cell (p := ⟨_, _, _⟩) hbl).trans k3
    replace k4 := (HX.out.below.cell (p := ⟨_, _, _⟩) hbl).trans k4
    replace k5 := (HX.out.below.cell (p := ⟨_, _, _⟩) hbl).trans k5
    replace k6 := (HX.out.below.cell (p := ⟨_, _, _⟩) hbl).trans k6
    replace k7 := (HX.out.below.cell (p := ⟨_, _, _⟩) hbl).trans k7
    replace k8 := (HX.out.below.cell (p := ⟨_, _, _⟩) hbl).trans k8
    replace k9 := (HX.out.below.cell (p := ⟨_, _, _⟩) hbl).trans k9
    replace k10 := (HX.out.below.cell (p := ⟨_, _, _⟩) hbl).trans k10
    have HC := Hid.mk (fun (d : Nat) (os : Array Obj) => hc (grow (redrawn W0 d) os) (HX.out.below.trans ((below_regrown W0 d os).mono HX.out.below.size)))
    clear hc
    have Ap3 := fun d os => cell_regrown p3 d os
    have Aq7 := fun d os => cell_regrown q7 d os
    have Ak0 := fun d os => cell_regrown k0 d os
    have Ak1 := fun d os => cell_regrown k1 d os
    have Ak2 := fun d os => cell_regrown k2 d os
    have Ak3 := fun d os => cell_regrown k3 d os
    have Ak4 := fun d os => cell_regrown k4 d os
    have Ak5 := fun d os => cell_regrown k5 d os
    have Ak6 := fun d os => cell_regrown k6 d os
    have Ak7 := fun d os => cell_regrown k7 d os
    have Ak8 := fun d os => cell_regrown k8 d os
    have Ak9 := fun d os => cell_regrown k9 d os
    have Ak10 := fun d os => cell_regrown k10 d os
    have d1 : decide ((0 : Int) < (sinn : Int)) = true := decide_eq_true hn1
    have d2 : decide (0 < sinn) = true := decide_eq_true hn
    go_enter Try.func12, Try.ntmps12
    go_wp2_with fail
    refine wp_region_quiet_below (by kernel_rfl) (by kernel_rfl) ?_
    repeat (go_big_quiet_step (exact Calls.regrown_of (HC.out _ _)))
    refine wpQuiet_nil ?_
    intro w9 hw'
    have hbw9 : Below W0.heap.size W0 w9 := by
      obtain ⟨⟨dq, osq⟩, rfl⟩ := hw'
      exact below_regrown W0 dq osq
    clear hw'
    have HX9 := Hid.mk (HX.out.keep hbw9)
    clear hbw9 hW0 Ap3 p3 Aq7 q7 Ak0 k0 Ak1 k1 Ak2 k2 Ak3 k3 Ak4 k4 Ak5 k5 Ak6 k6 Ak7 k7 Ak8 k8 Ak9 k9 Ak10 k10
    go_wp2_with fail
    go_ret
    exact ⟨by first | rfl | simp, HX9.out.below⟩
  · have hn0 : sinn = 0 := by omega
    subst hn0
    obtain rfl := HZ.out rfl
    have Aq7 := fun d os => cell_regrown q7 d os
    go_enter Try.func12, Try.ntmps12
    go_wp2_with fail
    refine wp_region_quiet_below (by kernel_rfl) (by kernel_rfl) ?_
    repeat (go_big_quiet_step (fail))
    refine wpQuiet_nil ?_
    intro w9 hw'
    have hbw9 : Below W0.heap.size W0 w9 := by
      obtain ⟨⟨dq, osq⟩, rfl⟩ := hw'
      exact below_regrown W0 dq osq
    clear hw'
    have HX9 := Hid.mk (HX.out.keep hbw9)
    clear hbw9 hW0 Aq7 q7
    go_wp2_with fail
    go_ret
    exact ⟨by first | rfl | simp, HX9.out.below⟩

set_option maxRecDepth 100000 in
set_option maxHeartbeats 6400000 in
theorem in_k6 (nm tx : ByteArray) (io : Option Addr) (NI icap : Nat) (vo : Option Addr) (NK vcap : Nat) (sb sc sd : Bool) (seo : Option Addr) (sen sec : Nat) (sf : Bool) (sgo : Option Addr) (sgn sgc : Nat) (sio : Option Addr) (sinn sic : Nat) (sjo : Option Addr) (sjn sjc : Nat) (w : World) (h : Nat) (os : List OB) (f : OB → Bool) (hob : ObIn w h sjo os) (hos : os.length = sjn) (hgc : sjn ≤ sjc) (hg2 : sjn ≤ 140737488355328) (HIO : Hid (∀ i, (hi : i < os.length) → ∀ (ko : Option Addr) (kc : Nat) (fo : Option Addr) (fc : Nat) (mo : Option Addr) (mc : Nat) (c0 c1 c2 c3 c4 c5 c6 c7 c8 : Value) u, Below w.heap.size w u → InO u h os[i] ko kc fo fc mo mc c0 c1 c2 c3 c4 c5 c6 c7 c8 → Calls Try.prog 31 #[.agg #[.int .i64 6, .string nm, .string tx, .slice io NI icap, .slice vo NK vcap], .agg #[.slice ko os[i].names.length kc, .slice fo os[i].fields.length fc, .slice mo os[i].must.length mc, c0, c1, c2, c3, c4, c5, c6, c7, c8]] u fun e w' => e = .returned (.bool (f os[i])) ∧ Below u.heap.size u w')) :
    Calls Try.prog 12 #[.agg #[.int .i64 6, .string nm, .string tx, .slice io NI icap, .slice vo NK vcap], .agg #[.bool false, .bool sb, .bool sc, .bool sd, .slice seo sen sec, .bool sf, .slice sgo sgn sgc, .slice sio sinn sic, .slice sjo sjn sjc]] w fun e w' => e = .returned (.bool (os.any f)) ∧ Below w.heap.size w w' := by
  have HX := Hid.mk (bx2_two w #[.int .i64 6, .string nm, .string tx, .slice io NI icap, .slice vo NK vcap] #[.bool false, .bool sb, .bool sc, .bool sd, .slice seo sen sec, .bool sf, .slice sgo sgn sgc, .slice sio sinn sic, .slice sjo sjn sjc] 33 27)
  obtain ⟨W0, hW0⟩ : ∃ W0, (w.alloc (.cells #[.int .i64 6, .string nm, .string tx, .slice io NI icap, .slice vo NK vcap] 33)).alloc (.cells #[.bool false, .bool sb, .bool sc, .bool sd, .slice seo sen sec, .bool sf, .slice sgo sgn sgc, .slice sio sinn sic, .slice sjo sjn sjc] 27) = W0 := ⟨_, rfl⟩
  rw [hW0] at HX
  have p0 : W0.cell? ⟨w.heap.size, 0, none⟩ = some (.int .i64 6) := HX.out.one 0
  have q0 : W0.cell? ⟨w.heap.size + 1, 0, none⟩ = some (.bool false) := HX.out.two 0
  obtain ⟨R, hR⟩ : ∃ R, os.any f = R := ⟨_, rfl⟩
  have HR : Hid (R = os.any f) := hR.symm
  rw [hR]
  clear hR
  have HOB := Hid.mk hob
  have HM := Hid.mk hos
  clear hob hos
  go_enter Try.func12, Try.ntmps12
  go_wp2_with fail
  try rw [hW0]
  clear hW0
  go_loopw [6] (fun i wr => ∃ k : Nat, k ≤ sjn ∧ i = .int .i64 (k : Int) ∧ Hid (Bx2 w wr #[.int .i64 6, .string nm, .string tx, .slice io NI icap, .slice vo NK vcap] #[.bool false, .bool sb, .bool sc, .bool sd, .slice seo sen sec, .bool sf, .slice sgo sgn sgc, .slice sio sinn sic, .slice sjo sjn sjc]) ∧ Hid ((os.take k).any f = false)) (fun i _ => sjn - (intOf i).toNat)
  case atStart => exact ⟨0, Nat.zero_le _, rfl, HX, rfl⟩
  case round =>
    clear p0 q0 HX
    obtain ⟨k, hk, rfl, HX, HQ⟩ := hrel
    have p0 : wr.cell? ⟨w.heap.size, 0, none⟩ = some (.int .i64 6) := HX.out.one 0
    have p1 : wr.cell? ⟨w.heap.size, 1, none⟩ = some (.string nm) := HX.out.one 1
    have p2 : wr.cell? ⟨w.heap.size, 2, none⟩ = some (.string tx) := HX.out.one 2
    have p3 : wr.cell? ⟨w.heap.size, 3, none⟩ = some (.slice io NI icap) := HX.out.one 3
    have p4 : wr.cell? ⟨w.heap.size, 4, none⟩ = some (.slice vo NK vcap) := HX.out.one 4
    have q8 : wr.cell? ⟨w.heap.size + 1, 8, none⟩ = some (.slice sjo sjn sjc) := HX.out.two 8
    by_cases hlt : k < sjn
    · have hl1 : (k : Int) < (sjn : Int) := by omega
      have hl0 : (0 : Int) ≤ (k : Int) := by omega
      have hka : k < os.length := by rw [HM.out]; exact hlt
      obtain ⟨b, off, hko, hbl, hrow⟩ := (HOB.out.keep HX.out.below).row (by omega)
      subst hko
      obtain ⟨ko, kc, fo, fc, mo, mc, u0', u1', u2', u3', u4', u5', u6', u7', u8', ⟨x0, x1, x2⟩, ⟨x3, x4, x5, x6, x7, x8, x9, x10, x11⟩, ht⟩ := hrow k hka
      have htr := ht.rest
      obtain ⟨ta, tb, tc, td, ⟨teo, ten, tec⟩, tf, ⟨tgo, tgn, tgc⟩, ⟨tio, tinn, tic⟩, ⟨tjo, tjn, tjc⟩, esht⟩ := inT_shape htr
      simp only [Value.agg.injEq, Array.mk.injEq, List.cons.injEq, and_true] at esht
      obtain ⟨rfl, rfl, rfl, rfl, rfl, rfl, rfl, rfl, rfl⟩ := esht
      replace x4 : wr.cell? ⟨b, off + k * 12 + 4, none⟩ = _ := x4
      replace x5 : wr.cell? ⟨b, off + k * 12 + 5, none⟩ = _ := x5
      replace x6 : wr.cell? ⟨b, off + k * 12 + 6, none⟩ = _ := x6
      replace x7 : wr.cell? ⟨b, off + k * 12 + 7, none⟩ = _ := x7
      replace x8 : wr.cell? ⟨b, off + k * 12 + 8, none⟩ = _ := x8
      replace x9 : wr.cell? ⟨b, off + k * 12 + 9, none⟩ = _ := x9
      replace x10 : wr.cell? ⟨b, off + k * 12 + 10, none⟩ = _ := x10
      replace x11 : wr.cell? ⟨b, off + k * 12 + 11, none⟩ = _ := x11
      have HC := Hid.mk (fun (d : Nat) (os' : Array Obj) => HIO.out k hka ko kc fo fc mo mc _ _ _ _ _ _ _ _ _ (grow (redrawn wr d) os') (HX.out.below.trans ((below_regrown wr d os').mono HX.out.below.size)) (ht.keep (below_regrown wr d os')))
      have HU := Hid.mk (any_up (f := f) hka)
      have HY := Hid.mk (fun hh => any_yes (f := f) hka hh)
      obtain ⟨r, hr⟩ : ∃ r, f os[k] = r := ⟨_, rfl⟩
      rw [hr] at HU HY HC
      generalize os[k].names.length = K1 at *
      generalize os[k].fields.length = K2 at *
      generalize os[k].must.length = K3 at *
      clear hr hrow hka ht htr
      have Ap0 := fun d os => cell_regrown p0 d os
      have Ap1 := fun d os => cell_regrown p1 d os
      have Ap2 := fun d os => cell_regrown p2 d os
      have Ap3 := fun d os => cell_regrown p3 d os
      have Ap4 := fun d os => cell_regrown p4 d os
      have Aq8 := fun d os => cell_regrown q8 d os
      have Ax0 := fun d os => cell_regrown x0 d os
      have Ax1 := fun d os => cell_regrown x1 d os
      have Ax2 := fun d os => cell_regrown x2 d os
      have Ax3 := fun d os => cell_regrown x3 d os
      have Ax4 := fun d os => cell_regrown x4 d os
      have Ax5 := fun d os => cell_regrown x5 d os
      have Ax6 := fun d os => cell_regrown x6 d os
      have Ax7 := fun d os => cell_regrown x7 d os
      have Ax8 := fun d os => cell_regrown x8 d os
      have Ax9 := fun d os => cell_regrown x9 d os
      have Ax10 := fun d os => cell_regrown x10 d os
      have Ax11 := fun d os => cell_regrown x11 d os
      cases r with
      | true =>
        have HF : Hid (R = true) := by show _ = _; rw [HR.out]; exact HY.out rfl
        clear HU HY HQ
        go_wp2_with fail
        refine wp_region_quiet_below (by kernel_rfl) (by kernel_rfl) ?_
        repeat (go_big_quiet_step (exact Calls.regrown_of (HC.out _ _)))
        refine wpQuiet_nil ?_
        intro w9 hw'
        have hbw9 : Below wr.heap.size wr w9 := by
          obtain ⟨⟨dq, osq⟩, rfl⟩ := hw'
          exact below_regrown wr dq osq
        clear hw'
        have HX9 := Hid.mk (HX.out.keep hbw9)
        clear hbw9 Ap0 p0 Ap1 p1 Ap2 p2 Ap3 p3 Ap4 p4 Aq8 q8 Ax0 x0 Ax1 x1 Ax2 x2 Ax3 x3 Ax4 x4 Ax5 x5 Ax6 x6 Ax7 x7 Ax8 x8 Ax9 x9 Ax10 x10 Ax11 x11
        go_wp2_with fail
        go_ret
        exact ⟨by rw [HF.out]; rfl, HX9.out.below⟩
      | false =>
        have HN : Hid ((os.take (k + 1)).any f = false) := by show _ = _; rw [HU.out, HQ.out]; rfl
        clear HU HY HQ
        go_wp2_with fail
        refine wp_region_quiet_below (by kernel_rfl) (by kernel_rfl) ?_
        repeat (go_big_quiet_step (exact Calls.regrown_of (HC.out _ _)))
        refine wpQuiet_nil ?_
        intro w9 hw'
        have hbw9 : Below wr.heap.size wr w9 := by
          obtain ⟨⟨dq, osq⟩, rfl⟩ := hw'
          exact below_regrown wr dq osq
        clear hw'
        have HX9 := Hid.mk (HX.out.keep hbw9)
        clear hbw9 Ap0 p0 Ap1 p1 Ap2 p2 Ap3 p3 Ap4 p4 Aq8 q8 Ax0 x0 Ax1 x1 Ax2 x2 Ax3 x3 Ax4 x4 Ax5 x5 Ax6 x6 Ax7 x7 Ax8 x8 Ax9 x9 Ax10 x10 Ax11 x11
        go_wp2_with fail
        go_roundw
        case rel => exact ⟨k + 1, hlt, by go_num, HX9, HN⟩
        case measure => simp [intOf]; omega
    · have hl1 : ¬ (k : Int) < (sjn : Int) := by omega
      have HF : Hid (R = false) := by
        show _ = _
        have e := HQ.out
        rw [List.take_of_length_le (by rw [HM.out]; omega)] at e
        rw [HR.out, e]
      clear HQ
      go_wp2_with fail
      go_ret
      exact ⟨by rw [HF.out]; rfl, HX.out.below⟩
end Go.Proofs.Ytihhjplbpaafiaa
