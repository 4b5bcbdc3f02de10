import Derived.Test.YtahknjhphbpmiaaZTY9
namespace Go.Proofs.Ytahknjhphbpmiaa
open Go.RowKit Go.Shelf Go.Sort
set_option linter.unusedVariables false
set_option linter.unusedSimpArgs false
attribute [local go_sem] Oper.semAt_some


/-- an alternative's box -/
structure OBx (w u : World) (a0 a1 a2 a3 a4 a5 a6 a7 a8 a9 a10 a11 : Value) : Prop where
  below : Below w.heap.size w u
  c0 : u.cell? ⟨w.heap.size, 0, none⟩ = some a0
  c1 : u.cell? ⟨w.heap.size, 1, none⟩ = some a1
  c2 : u.cell? ⟨w.heap.size, 2, none⟩ = some a2
  c3 : u.cell? ⟨w.heap.size, 3, none⟩ = some a3
  c4 : u.cell? ⟨w.heap.size, 4, none⟩ = some a4
  c5 : u.cell? ⟨w.heap.size, 5, none⟩ = some a5
  c6 : u.cell? ⟨w.heap.size, 6, none⟩ = some a6
  c7 : u.cell? ⟨w.heap.size, 7, none⟩ = some a7
  c8 : u.cell? ⟨w.heap.size, 8, none⟩ = some a8
  c9 : u.cell? ⟨w.heap.size, 9, none⟩ = some a9
  c10 : u.cell? ⟨w.heap.size, 10, none⟩ = some a10
  c11 : u.cell? ⟨w.heap.size, 11, none⟩ = some a11
  lt : w.heap.size < u.heap.size
theorem OBx.keep {w u u' : World} {a0 a1 a2 a3 a4 a5 a6 a7 a8 a9 a10 a11 : Value} (x : OBx w u a0 a1 a2 a3 a4 a5 a6 a7 a8 a9 a10 a11) (hb : Below u.heap.size u u') : OBx w u' a0 a1 a2 a3 a4 a5 a6 a7 a8 a9 a10 a11 :=
  ⟨x.below.trans (hb.mono x.below.size), (hb.cell (p := ⟨_, _, _⟩) x.lt).trans x.c0, (hb.cell (p := ⟨_, _, _⟩) x.lt).trans x.c1, (hb.cell (p := ⟨_, _, _⟩) x.lt).trans x.c2, (hb.cell (p := ⟨_, _, _⟩) x.lt).trans x.c3, (hb.cell (p := ⟨_, _, _⟩) x.lt).trans x.c4, (hb.cell (p := ⟨_, _, _⟩) x.lt).trans x.c5, (hb.cell (p := ⟨_, _, _⟩) x.lt).trans x.c6, (hb.cell (p := ⟨_, _, _⟩) x.lt).trans x.c7, (hb.cell (p := ⟨_, _, _⟩) x.lt).trans x.c8, (hb.cell (p := ⟨_, _, _⟩) x.lt).trans x.c9, (hb.cell (p := ⟨_, _, _⟩) x.lt).trans x.c10, (hb.cell (p := ⟨_, _, _⟩) x.lt).trans x.c11, Nat.lt_of_lt_of_le x.lt hb.size⟩
theorem obx_new (w : World) (a0 a1 a2 a3 a4 a5 a6 a7 a8 a9 a10 a11 : Value) : OBx w (w.alloc (.cells #[a0, a1, a2, a3, a4, a5, a6, a7, a8, a9, a10, a11] 67)) a0 a1 a2 a3 a4 a5 a6 a7 a8 a9 a10 a11 :=
  ⟨(Below.refl _ _).alloc (Nat.le_refl _) _, by simp [go_sem], by simp [go_sem], by simp [go_sem], by simp [go_sem], by simp [go_sem], by simp [go_sem], by simp [go_sem], by simp [go_sem], by simp [go_sem], by simp [go_sem], by simp [go_sem], by simp [go_sem], by simp⟩
/-- an alternative, as a value -/
structure InO (W : World) (h : Nat) (o : OB) (ko : Option Addr) (kc : Nat) (fo : Option Addr) (fc : Nat) (mo : Option Addr) (mc : Nat) (c0 c1 c2 c3 c4 c5 c6 c7 c8 : Value) : Prop where
  caps : o.names.length ≤ kc ∧ o.fields.length ≤ fc ∧ o.must.length ≤ mc
  lens : o.names.length ≤ 140737488355328 ∧ o.fields.length ≤ 140737488355328 ∧ o.must.length ≤ 140737488355328 ∧ ∀ k ∈ o.names, k.size ≤ 140737488355328
  nm : KIn W ko o.names
  ms : BoIn W mo o.must
  fd : 0 < o.fields.length → ∃ b2 off2, fo = some ⟨b2, off2, none⟩ ∧ b2 < W.heap.size ∧ ∀ j, (hj : j < o.fields.length) → ∃ d0 d1 d2 d3 d4 d5 d6 d7 d8 : Value,
    C9 W b2 (off2 + j * 9) d0 d1 d2 d3 d4 d5 d6 d7 d8 ∧ InT W h o.fields[j] (.agg #[d0, d1, d2, d3, d4, d5, d6, d7, d8])
  rest : InT W h o.rest (.agg #[c0, c1, c2, c3, c4, c5, c6, c7, c8])
theorem InO.keep {W W' : World} {h : Nat} {o : OB} {ko : Option Addr} {kc : Nat} {fo : Option Addr} {fc : Nat} {mo : Option Addr} {mc : Nat} {c0 c1 c2 c3 c4 c5 c6 c7 c8 : Value} (x : InO W h o ko kc fo fc mo mc c0 c1 c2 c3 c4 c5 c6 c7 c8) (hb : Below W.heap.size W W') : InO W' h o ko kc fo fc mo mc c0 c1 c2 c3 c4 c5 c6 c7 c8 := by
  refine ⟨x.caps, x.lens, x.nm.keep hb, x.ms.keep hb, fun hf => ?_, x.rest.keep hb⟩
  obtain ⟨b2, off2, e3, hl2, hd⟩ := x.fd hf
  refine ⟨b2, off2, e3, Nat.lt_of_lt_of_le hl2 hb.size, fun j hj => ?_⟩
  obtain ⟨d0, d1, d2, d3, d4, d5, d6, d7, d8, k1, k2⟩ := hd j hj
  exact ⟨d0, d1, d2, d3, d4, d5, d6, d7, d8, k1.keep hb hl2, k2.keep hb⟩
theorem zall_up {α : Type} {l : List α} {f : α → Bool} {k : Nat} (hk : k < l.length) : (l.take (k + 1)).all f = ((l.take k).all f && f l[k]) := by
  rw [List.take_add_one, List.getElem?_eq_getElem hk, List.all_append]; simp only [Option.toList_some, List.all_cons, List.all_nil, Bool.and_true]
theorem zall_no {α : Type} {l : List α} {f : α → Bool} {k : Nat} (hk : k < l.length) (h : f l[k] = false) : l.all f = false := by
  rw [← Bool.not_eq_true]; intro h2
  have := List.all_eq_true.1 h2 _ (List.getElem_mem hk)
  rw [h] at this; cases this

set_option maxRecDepth 100000 in
set_option maxHeartbeats 6400000 in
theorem w_robject (h : Nat) (ih : FtOk h) (o : OB) (ko : Option Addr) (kc : Nat) (fo : Option Addr) (fc : Nat) (mo : Option Addr) (mc : Nat) (c0 c1 c2 c3 c4 c5 c6 c7 c8 : Value) (w : World) (hI : InO w h o ko kc fo fc mo mc c0 c1 c2 c3 c4 c5 c6 c7 c8) :
    Calls Try.prog 38 #[.agg #[.slice ko o.names.length kc, .slice fo o.fields.length fc, .slice mo o.must.length mc, c0, c1, c2, c3, c4, c5, c6, c7, c8]] w fun e w' => e = .returned (.bool (obOk (fmN h) o)) ∧ Below w.heap.size w w' := by
  obtain ⟨e0, e1, e2, e3, ⟨e4, e4n, e4c⟩, e5, ⟨e6, e6n, e6c⟩, ⟨e7, e7n, e7c⟩, ⟨e8, e8n, e8c⟩, esh⟩ := inT_shape hI.rest
  simp only [Value.agg.injEq, Array.mk.injEq, List.cons.injEq, and_true] at esh
  obtain ⟨rfl, rfl, rfl, rfl, rfl, rfl, rfl, rfl, rfl⟩ := esh
  have HI := Hid.mk hI
  have HIh := Hid.mk ih
  obtain ⟨hk1, hk2, hk3⟩ := hI.caps
  obtain ⟨hs1, hs2, hs3, hs4⟩ := hI.lens
  have HS4 := Hid.mk hs4
  have HG : Hid (obOk (fmN h) o = (decide (o.names.length = o.fields.length) && (decide (o.names.length = o.must.length) && ((rK o.names o.names.length && oK o.names o.names.length) && (fmN h o.rest && (o.fields.zip o.must).all fun p => fdOk (fmN h) p.1 p.2))))) := rfl
  have HRi := Hid.mk (fun (u : World) (hu : Below w.heap.size w u) => w_Rise ko o.names.length kc o.names u (hI.nm.keep hu) rfl hk1 hs1 hs4)
  have HRe := Hid.mk (fun (u : World) (hu : Below w.heap.size w u) => ih o.rest _ u (hI.rest.keep hu))
  obtain ⟨K, hK⟩ : ∃ K, o.names.length = K := ⟨_, rfl⟩
  obtain ⟨F, hF⟩ : ∃ F, o.fields.length = F := ⟨_, rfl⟩
  obtain ⟨M, hM⟩ : ∃ M, o.must.length = M := ⟨_, rfl⟩
  have HF := Hid.mk hF
  have HM := Hid.mk hM
  rw [hK] at HG HRi hk1 hs1 ⊢
  rw [hF] at HG hk2 hs2 ⊢
  rw [hM] at HG hk3 hs3 ⊢
  obtain ⟨R, hR⟩ : ∃ R, obOk (fmN h) o = R := ⟨_, rfl⟩
  rw [hR] at HG ⊢
  obtain ⟨ri, hri⟩ : ∃ r, (rK o.names K && oK o.names K) = r := ⟨_, rfl⟩
  rw [hri] at HG HRi
  obtain ⟨re, hre⟩ : ∃ r, fmN h o.rest = r := ⟨_, rfl⟩
  rw [hre] at HG HRe
  have HX := Hid.mk (obx_new w (.slice ko K kc) (.slice fo F fc) (.slice mo M mc) (.bool e0) (.bool e1) (.bool e2) (.bool e3) (.slice e4 e4n e4c) (.bool e5) (.slice e6 e6n e6c) (.slice e7 e7n e7c) (.slice e8 e8n e8c))
  obtain ⟨W0, hW0⟩ : ∃ W0, W0 = w.alloc (.cells #[.slice ko K kc, .slice fo F fc, .slice mo M mc, .bool e0, .bool e1, .bool e2, .bool e3, .slice e4 e4n e4c, .bool e5, .slice e6 e6n e6c, .slice e7 e7n e7c, .slice e8 e8n e8c] 67) := ⟨_, rfl⟩
  rw [← hW0] at HX
  have hW0' := hW0.symm
  clear hI ih hs4 hK hF hM hR hri hre hW0
  obtain ⟨_, x0, x1, x2, x3, x4, x5, x6, x7, x8, x9, x10, x11, _⟩ := HX.out
  by_cases l1 : K = F
  · subst l1
    by_cases l2 : K = M
    · subst l2
      cases ri with
      | false =>
        have HG' : Hid (R = false) := by show _ = _; rw [HG.out, Bool.false_and, Bool.and_false, Bool.and_false]; try rfl
        go_enter Try.func38, Try.ntmps38
        go_wp2_with fail
        refine (HRi.out _ HX.out.below).mono ?_
        rintro e v1 ⟨rfl, hq⟩
        have HX1 := Hid.mk (HX.out.keep hq)
        clear hq x0 x1 x2 x3 x4 x5 x6 x7 x8 x9 x10 x11 hW0'
        obtain ⟨_, x0, x1, x2, x3, x4, x5, x6, x7, x8, x9, x10, x11, _⟩ := HX1.out
        go_wp2_with fail
        go_ret
        exact ⟨by first | (rw [HG'.out]; rfl) | rw [HG'.out], HX1.out.below⟩
      | true =>
        cases re with
        | false =>
          have HG' : Hid (R = false) := by show _ = _; rw [HG.out, Bool.false_and, Bool.and_false, Bool.and_false, Bool.and_false]; try rfl
          go_enter Try.func38, Try.ntmps38
          go_wp2_with fail
          refine (HRi.out _ HX.out.below).mono ?_
          rintro e v1 ⟨rfl, hq⟩
          have HX1 := Hid.mk (HX.out.keep hq)
          clear hq x0 x1 x2 x3 x4 x5 x6 x7 x8 x9 x10 x11 hW0'
          obtain ⟨_, x0, x1, x2, x3, x4, x5, x6, x7, x8, x9, x10, x11, _⟩ := HX1.out
          go_wp2_with fail
          refine (HRe.out _ HX1.out.below).mono ?_
          rintro e v2 ⟨rfl, hq⟩
          have HX2 := Hid.mk (HX1.out.keep hq)
          clear hq x0 x1 x2 x3 x4 x5 x6 x7 x8 x9 x10 x11
          obtain ⟨_, x0, x1, x2, x3, x4, x5, x6, x7, x8, x9, x10, x11, _⟩ := HX2.out
          go_wp2_with fail
          go_ret
          exact ⟨by first | (rw [HG'.out]; rfl) | rw [HG'.out], HX2.out.below⟩
        | true =>
          obtain ⟨zs, hzs⟩ : ∃ zs, o.fields.zip o.must = zs := ⟨_, rfl⟩
          have HZL : Hid (zs.length = K) := by show _ = _; rw [← hzs, List.length_zip, HF.out, HM.out]; omega
          have HZ : Hid (∀ j, (hj : j < zs.length) → ∃ (h1 : j < o.fields.length) (h2 : j < o.must.length), zs[j] = (o.fields[j], o.must[j])) := by
            intro j hj
            subst hzs
            have := List.length_zip (l₁ := o.fields) (l₂ := o.must)
            exact ⟨by omega, by omega, by rw [List.getElem_zip]⟩
          have HG' : Hid (R = zs.all fun p => fdOk (fmN h) p.1 p.2) := by show _ = _; rw [HG.out, hzs]; simp
          clear hzs HG
          go_enter Try.func38, Try.ntmps38
          go_wp2_with fail
          refine (HRi.out _ HX.out.below).mono ?_
          rintro e v1 ⟨rfl, hq⟩
          have HX1 := Hid.mk (HX.out.keep hq)
          clear hq x0 x1 x2 x3 x4 x5 x6 x7 x8 x9 x10 x11 hW0'
          obtain ⟨_, x0, x1, x2, x3, x4, x5, x6, x7, x8, x9, x10, x11, _⟩ := HX1.out
          go_wp2_with fail
          refine (HRe.out _ HX1.out.below).mono ?_
          rintro e v2 ⟨rfl, hq⟩
          have HX2 := Hid.mk (HX1.out.keep hq)
          clear hq x0 x1 x2 x3 x4 x5 x6 x7 x8 x9 x10 x11
          obtain ⟨_, x0, x1, x2, x3, x4, x5, x6, x7, x8, x9, x10, x11, _⟩ := HX2.out
          go_wp2_with fail
          clear x0 x1 x2 x3 x4 x5 x6 x7 x8 x9 x10 x11
          go_loopw [3] (fun i wr => ∃ k : Nat, k ≤ K ∧ i = .int .i64 (k : Int) ∧ Hid (OBx w wr (.slice ko K kc) (.slice fo K fc) (.slice mo K mc) (.bool e0) (.bool e1) (.bool e2) (.bool e3) (.slice e4 e4n e4c) (.bool e5) (.slice e6 e6n e6c) (.slice e7 e7n e7c) (.slice e8 e8n e8c)) ∧ Hid ((zs.take k).all (fun p => fdOk (fmN h) p.1 p.2) = true)) (fun i _ => K - (intOf i).toNat)
          case atStart => exact ⟨0, Nat.zero_le _, rfl, HX2, rfl⟩
          case round =>
            clear HX HX1 HX2
            obtain ⟨k, hk, rfl, HB, HQ⟩ := hrel
            obtain ⟨_, x0, x1, x2, x3, x4, x5, x6, x7, x8, x9, x10, x11, _⟩ := HB.out
            by_cases hlt : k < K
            · have hl1 : (k : Int) < (K : Int) := by omega
              have hl0 : (0 : Int) ≤ (k : Int) := by omega
              have hkl : k < zs.length := by rw [HZL.out]; exact hlt
              obtain ⟨z1, z2, hz⟩ := HZ.out k hkl
              have hIk := HI.out.keep HB.out.below
              obtain ⟨fb, foff, hfo, hfl, hfd⟩ := hIk.fd (by omega)
              subst hfo
              obtain ⟨d0, d1, d2, d3, d4, d5, d6, d7, d8, hc9, hct⟩ := hfd k z1
              obtain ⟨mb, moff, hmo, hml, hmd⟩ := hIk.ms.row (by omega)
              subst hmo
              have y0 := hmd k z2
              have HC := Hid.mk (fun (u : World) (hu : Below wr.heap.size wr u) => HIh.out o.fields[k] _ u (hct.keep hu))
              have HV := Hid.mk (fun (u : World) (hu : Below wr.heap.size wr u) => w_rNever h o.fields[k] _ u (hct.keep hu))
              have HU : Hid ((zs.take (k + 1)).all (fun p => fdOk (fmN h) p.1 p.2) = (fmN h o.fields[k] && !(o.must[k] && o.fields[k].never))) := by
                show _ = _
                rw [zall_up hkl, HQ.out, hz]; rfl
              have HNo : Hid ((fmN h o.fields[k] && !(o.must[k] && o.fields[k].never)) = false → R = false) := fun hh => by
                rw [HG'.out]; exact zall_no hkl (by rw [hz]; exact hh)
              obtain ⟨g0, g1, g2, g3, ⟨g4, g4n, g4c⟩, g5, ⟨g6, g6n, g6c⟩, ⟨g7, g7n, g7c⟩, ⟨g8, g8n, g8c⟩, esh⟩ := inT_shape hct
              simp only [Value.agg.injEq, Array.mk.injEq, List.cons.injEq, and_true] at esh
              obtain ⟨rfl, rfl, rfl, rfl, rfl, rfl, rfl, rfl, rfl⟩ := esh
              obtain ⟨q0, q1, q2, q3, q4, q5, q6, q7, q8⟩ := hc9
              generalize fmN h o.fields[k] = ff at HC HU HNo
              generalize o.fields[k].never = fv at HV HU HNo
              generalize o.must[k] = fm at y0 HU HNo
              clear hIk hfd hct hmd z1 z2 hz hkl HQ
              cases ff with
              | false =>
                have HF' : Hid (R = false) := HNo.out (by simp)
                go_wp2_with fail
                refine (HC.out _ (Below.refl _ _)).mono ?_
                rintro e v3 ⟨rfl, hq⟩
                have HX3 := Hid.mk (HB.out.keep hq)
                clear hq x0 x1 x2 x3 x4 x5 x6 x7 x8 x9 x10 x11 y0 q0 q1 q2 q3 q4 q5 q6 q7 q8
                obtain ⟨_, x0, x1, x2, x3, x4, x5, x6, x7, x8, x9, x10, x11, _⟩ := HX3.out
                go_wp2_with fail
                go_ret
                exact ⟨by first | (rw [HF'.out]; rfl) | rw [HF'.out], HX3.out.below⟩
              | true =>
                cases fm with
                | false =>
                  have HU' : Hid ((zs.take (k + 1)).all (fun p => fdOk (fmN h) p.1 p.2) = true) := by show _ = _; rw [HU.out]; rfl
                  go_wp2_with fail
                  refine (HC.out _ (Below.refl _ _)).mono ?_
                  rintro e v3 ⟨rfl, hq⟩
                  have HX3 := Hid.mk (HB.out.keep hq)
                  have y0n := (hq.cell (p := ⟨_, _, _⟩) hml).trans y0
                  have q0n := (hq.cell (p := ⟨_, _, _⟩) hfl).trans q0
                  have q1n := (hq.cell (p := ⟨_, _, _⟩) hfl).trans q1
                  have q2n := (hq.cell (p := ⟨_, _, _⟩) hfl).trans q2
                  have q3n := (hq.cell (p := ⟨_, _, _⟩) hfl).trans q3
                  have q4n := (hq.cell (p := ⟨_, _, _⟩) hfl).trans q4
                  have q5n := (hq.cell (p := ⟨_, _, _⟩) hfl).trans q5
                  have q6n := (hq.cell (p := ⟨_, _, _⟩) hfl).trans q6
                  have q7n := (hq.cell (p := ⟨_, _, _⟩) hfl).trans q7
                  have q8n := (hq.cell (p := ⟨_, _, _⟩) hfl).trans q8
                  have HV2 := Hid.mk (fun (u : World) (hu : Below v3.heap.size v3 u) => HV.out u (hq.trans (hu.mono hq.size)))
                  have hb3 := Below.refl v3.heap.size v3
                  clear hq x0 x1 x2 x3 x4 x5 x6 x7 x8 x9 x10 x11 y0 q0 q1 q2 q3 q4 q5 q6 q7 q8
                  obtain ⟨_, x0, x1, x2, x3, x4, x5, x6, x7, x8, x9, x10, x11, _⟩ := HX3.out
                  go_wp2_with fail
                  go_roundw
                  case rel => exact ⟨k + 1, hlt, by go_num, HX3, HU'⟩
                  case measure => simp [intOf]; omega
                | true =>
                  cases fv with
                  | false =>
                    have HU' : Hid ((zs.take (k + 1)).all (fun p => fdOk (fmN h) p.1 p.2) = true) := by show _ = _; rw [HU.out]; rfl
                    go_wp2_with fail
                    refine (HC.out _ (Below.refl _ _)).mono ?_
                    rintro e v3 ⟨rfl, hq⟩
                    have HX3 := Hid.mk (HB.out.keep hq)
                    have y0n := (hq.cell (p := ⟨_, _, _⟩) hml).trans y0
                    have q0n := (hq.cell (p := ⟨_, _, _⟩) hfl).trans q0
                    have q1n := (hq.cell (p := ⟨_, _, _⟩) hfl).trans q1
                    have q2n := (hq.cell (p := ⟨_, _, _⟩) hfl).trans q2
                    have q3n := (hq.cell (p := ⟨_, _, _⟩) hfl).trans q3
                    have q4n := (hq.cell (p := ⟨_, _, _⟩) hfl).trans q4
                    have q5n := (hq.cell (p := ⟨_, _, _⟩) hfl).trans q5
                    have q6n := (hq.cell (p := ⟨_, _, _⟩) hfl).trans q6
                    have q7n := (hq.cell (p := ⟨_, _, _⟩) hfl).trans q7
                    have q8n := (hq.cell (p := ⟨_, _, _⟩) hfl).trans q8
                    have HV2 := Hid.mk (fun (u : World) (hu : Below v3.heap.size v3 u) => HV.out u (hq.trans (hu.mono hq.size)))
                    have hb3 := Below.refl v3.heap.size v3
                    clear hq x0 x1 x2 x3 x4 x5 x6 x7 x8 x9 x10 x11 y0 q0 q1 q2 q3 q4 q5 q6 q7 q8
                    obtain ⟨_, x0, x1, x2, x3, x4, x5, x6, x7, x8, x9, x10, x11, _⟩ := HX3.out
                    go_wp2_with fail
                    refine (HV2.out _ (Below.refl _ _)).mono ?_
                    rintro e v4 ⟨rfl, hq⟩
                    have HX4 := Hid.mk (HX3.out.keep hq)
                    clear hq x0 x1 x2 x3 x4 x5 x6 x7 x8 x9 x10 x11 y0n q0n q1n q2n q3n q4n q5n q6n q7n q8n
                    obtain ⟨_, x0, x1, x2, x3, x4, x5, x6, x7, x8, x9, x10, x11, _⟩ := HX4.out
                    go_wp2_with fail
                    go_roundw
                    case rel => exact ⟨k + 1, hlt, by go_num, HX4, HU'⟩
                    case measure => simp [intOf]; omega
                  | true =>
                    have HF' : Hid (R = false) := HNo.out (by simp)
                    go_wp2_with fail
                    refine (HC.out _ (Below.refl _ _)).mono ?_
                    rintro e v3 ⟨rfl, hq⟩
                    have HX3 := Hid.mk (HB.out.keep hq)
                    have y0n := (hq.cell (p := ⟨_, _, _⟩) hml).trans y0
                    have q0n := (hq.cell (p := ⟨_, _, _⟩) hfl).trans q0
                    have q1n := (hq.cell (p := ⟨_, _, _⟩) hfl).trans q1
                    have q2n := (hq.cell (p := ⟨_, _, _⟩) hfl).trans q2
                    have q3n := (hq.cell (p := ⟨_, _, _⟩) hfl).trans q3
                    have q4n := (hq.cell (p := ⟨_, _, _⟩) hfl).trans q4
                    have q5n := (hq.cell (p := ⟨_, _, _⟩) hfl).trans q5
                    have q6n := (hq.cell (p := ⟨_, _, _⟩) hfl).trans q6
                    have q7n := (hq.cell (p := ⟨_, _, _⟩) hfl).trans q7
                    have q8n := (hq.cell (p := ⟨_, _, _⟩) hfl).trans q8
                    have HV2 := Hid.mk (fun (u : World) (hu : Below v3.heap.size v3 u) => HV.out u (hq.trans (hu.mono hq.size)))
                    have hb3 := Below.refl v3.heap.size v3
                    clear hq x0 x1 x2 x3 x4 x5 x6 x7 x8 x9 x10 x11 y0 q0 q1 q2 q3 q4 q5 q6 q7 q8
                    obtain ⟨_, x0, x1, x2, x3, x4, x5, x6, x7, x8, x9, x10, x11, _⟩ := HX3.out
                    go_wp2_with fail
                    refine (HV2.out _ (Below.refl _ _)).mono ?_
                    rintro e v4 ⟨rfl, hq⟩
                    have HX4 := Hid.mk (HX3.out.keep hq)
                    clear hq x0 x1 x2 x3 x4 x5 x6 x7 x8 x9 x10 x11 y0n q0n q1n q2n q3n q4n q5n q6n q7n q8n
                    obtain ⟨_, x0, x1, x2, x3, x4, x5, x6, x7, x8, x9, x10, x11, _⟩ := HX4.out
                    go_wp2_with fail
                    go_ret
                    exact ⟨by first | (rw [HF'.out]; rfl) | rw [HF'.out], HX4.out.below⟩
            · have hl1 : ¬ (k : Int) < (K : Int) := by omega
              have HF' : Hid (R = true) := by show _ = _; rw [HG'.out, ← HQ.out, List.take_of_length_le (by rw [HZL.out]; omega)]
              go_wp2_with fail
              go_ret
              exact ⟨by first | (rw [HF'.out]; rfl) | rw [HF'.out], HB.out.below⟩
    · have l2i : ¬ (K : Int) = (M : Int) := by omega
      have HG' : Hid (R = false) := by show _ = _; rw [HG.out, decide_eq_false l2, Bool.false_and, Bool.and_false]; try rfl
      go_enter Try.func38, Try.ntmps38
      go_wp2_with fail
      go_ret
      exact ⟨by first | (rw [HG'.out]; rfl) | rw [HG'.out], HX.out.below⟩
  · have l1i : ¬ (K : Int) = (F : Int) := by omega
    have HG' : Hid (R = false) := by show _ = _; rw [HG.out, decide_eq_false l1, Bool.false_and]; try rfl
    go_enter Try.func38, Try.ntmps38
    go_wp2_with fail
    go_ret
    exact ⟨by first | (rw [HG'.out]; rfl) | rw [HG'.out], HX.out.below⟩
end Go.Proofs.Ytahknjhphbpmiaa
