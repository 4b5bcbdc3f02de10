import Derived.Test.YtihhjplbpaafiaaM21
namespace Go.Proofs.Ytihhjplbpaafiaa
open Go.RowKit Go.Shelf Go.Sort
set_option linter.unusedVariables false
set_option linter.unusedSimpArgs false
attribute [local go_sem] Oper.semAt_some

/-- Single answers -/
def SgOk (h : Nat) : Prop := ∀ (T : TT) (v : Value) (u : World), InT u h T v → Calls Try.prog 15 #[v] u fun e w' => (∃ r, e = .returned (.bool r)) ∧ Below u.heap.size u w'

set_option maxRecDepth 100000 in
set_option maxHeartbeats 6400000 in
theorem w_rSingle : ∀ h, SgOk h := by
  intro h
  induction h with
  | zero => intro T v w hI; exact hI.elim
  | succ h ih =>
    intro T v w hI
    obtain ⟨no, nc, xo, xc, ao, ac, oo, oc, rfl, ⟨a1, a2, a3, a4⟩, ⟨a5, a6, a7, a8⟩, _, _, hs, hk, ha, ho⟩ := hI
    have HI := Hid.mk (fun (T : TT) (v : Value) (u : World) (hI : InT u h T v) => ih T v u hI)
    obtain ⟨rs, hrs⟩ : ∃ rs, T.arrs = rs := ⟨_, rfl⟩
    obtain ⟨os, hos⟩ : ∃ os, T.objs = os := ⟨_, rfl⟩
    rw [hrs] at ha a3 a7 ⊢
    rw [hos] at ho a4 a8 ⊢
    obtain ⟨NA, hNA⟩ : ∃ NA, rs.length = NA := ⟨_, rfl⟩
    obtain ⟨NO, hNO⟩ : ∃ NO, os.length = NO := ⟨_, rfl⟩
    have HNA := Hid.mk hNA
    have HNO := Hid.mk hNO
    rw [hNA] at a3 a7 ⊢
    rw [hNO] at a4 a8 ⊢
    have HAr : Hid (∀ i, (hi : i < rs.length) → ∀ u, Below w.heap.size w u → ∃ b off, ao = some ⟨b, off, none⟩ ∧ ∃ c0 c1 c2 c3 c4 c5 c6 c7 c8 : Value, C9 u b (off + i * 11) c0 c1 c2 c3 c4 c5 c6 c7 c8 ∧ InT u h rs[i].item (.agg #[c0, c1, c2, c3, c4, c5, c6, c7, c8])) := by
      intro i hi u hu
      obtain ⟨b, off, e, hl, hc⟩ := ha (by omega)
      obtain ⟨c0, c1, c2, c3, c4, c5, c6, c7, c8, h1, _, _, h4⟩ := hc i hi
      exact ⟨b, off, e, c0, c1, c2, c3, c4, c5, c6, c7, c8, h1.keep hu hl, h4.keep hu⟩
    have HOb : Hid (∀ k, (hk : k < os.length) → ∀ u, Below w.heap.size w u → ∃ b off, oo = some ⟨b, off, none⟩ ∧ ∃ ko kc fo NF fc mo mc, os[k].fields.length = NF ∧ OB.At h os[k] u b (off + k * 12) ko kc fo NF fc mo mc) := by
      intro k hk u hu
      obtain ⟨b, off, e, hl, hc⟩ := ho (by omega)
      obtain ⟨ko, kc, fo, fc, mo, mc, c0, c1, c2, c3, c4, c5, c6, c7, c8, ⟨g1, g2, g3⟩, k1, ⟨_, k2, _⟩, ⟨_, k3, _, _⟩, _, _, h6, h7⟩ := hc k hk
      refine ⟨b, off, e, ko, kc, fo, _, fc, mo, mc, rfl, ?_⟩
      have hat : OB.At h os[k] w b (off + k * 12) ko kc fo os[k].fields.length fc mo mc := ⟨hl, g1, g2, g3, ⟨k2, k3⟩, ⟨c0, c1, c2, c3, c4, c5, c6, c7, c8, k1, h7⟩, fun fs hfs j hj => by
        subst hfs
        obtain ⟨b2, off2, e2, hl2, hd⟩ := h6 (by omega)
        obtain ⟨d0, d1, d2, d3, d4, d5, d6, d7, d8, q1, q2⟩ := hd j hj
        exact ⟨b2, off2, e2, hl2, d0, d1, d2, d3, d4, d5, d6, d7, d8, q1, q2⟩⟩
      exact hat.keep hu
    have HX := Hid.mk (tbx_new w (.bool T.all) (.bool T.nul) (.bool T.fls) (.bool T.tru) (.slice no T.nums.length nc) (.bool T.any) (.slice xo T.texts.length xc) (.slice ao NA ac) (.slice oo NO oc))
    generalize T.all = b0 at *
    generalize T.nul = b1 at *
    generalize T.fls = b2 at *
    generalize T.tru = b3 at *
    generalize T.any = b5 at *
    obtain ⟨nn, hnn'⟩ : ∃ nn, T.nums.length = nn := ⟨_, rfl⟩
    obtain ⟨nx, hnx'⟩ : ∃ nx, T.texts.length = nx := ⟨_, rfl⟩
    rw [hnn'] at HX a1 a5 ⊢
    rw [hnx'] at HX a2 a6 ⊢
    obtain ⟨W0, hW0⟩ : ∃ W0, W0 = w.alloc (.cells #[.bool b0, .bool b1, .bool b2, .bool b3, .slice no nn nc, .bool b5, .slice xo nx xc, .slice ao NA ac, .slice oo NO oc] 27) := ⟨_, rfl⟩
    rw [← hW0] at HX
    have hW0' := hW0.symm
    have z8 := HX.out.c8
    clear ih ha ho hs hk hrs hos hNA hNO hnn' hnx' hW0
    by_cases hone : 1 < NO
    · have hi1 : (1 : Int) < (NO : Int) := by omega
      clear hone
      go_enter Try.func15, Try.ntmps15
      go_wp2_with fail
      go_ret
      exact ⟨by first | exact ⟨_, rfl⟩ | exact .inl rfl | exact .inr rfl, HX.out.below⟩
    · have hi1 : ¬ (1 : Int) < (NO : Int) := by omega
      go_enter Try.func15, Try.ntmps15
      go_wp2_with fail
      clear hW0' z8
      go_loopw [3] (fun i wr => ∃ (k : Nat), k ≤ NA ∧ i = .int .i64 (k : Int) ∧ Hid (TBx w wr (.bool b0) (.bool b1) (.bool b2) (.bool b3) (.slice no nn nc) (.bool b5) (.slice xo nx xc) (.slice ao NA ac) (.slice oo NO oc))) (fun i _ => NA - (intOf i).toNat)
      case atStart => exact ⟨0, Nat.zero_le _, rfl, HX⟩
      case round =>
        clear HX
        obtain ⟨k, hk, rfl, HX1⟩ := hrel
        have g7 := HX1.out.c7
        by_cases hlt : k < NA
        · have hl1 : (k : Int) < (NA : Int) := by omega
          have hl0 : (0 : Int) ≤ (k : Int) := by omega
          have hkr : k < rs.length := by rw [HNA.out]; exact hlt
          obtain ⟨rb, roff, hao, c0, c1, c2, c3, c4, c5, c6, c7, c8, hc9, hct⟩ := HAr.out k hkr wr HX1.out.below
          subst hao
          obtain ⟨q0, q1, q2, q3, q4, q5, q6, q7, q8⟩ := hc9
          have HC := Hid.mk (HI.out rs[k].item _ wr hct)
          obtain ⟨e0, e1, e2, e3, e4, e5, e6, e7, e8, esh⟩ := inT_shape hct
          simp only [Value.agg.injEq, Array.mk.injEq, List.cons.injEq, and_true] at esh
          obtain ⟨rfl, rfl, rfl, rfl, rfl, rfl, rfl, rfl, rfl⟩ := esh
          clear hct
          go_wp2_with fail
          refine HC.out.mono ?_
          rintro e w4 ⟨⟨r, rfl⟩, hb4⟩
          have HX4 := Hid.mk (HX1.out.keep hb4)
          clear hb4 HC q0 q1 q2 q3 q4 q5 q6 q7 q8 g7
          cases r with
          | true =>
            go_wp2_with fail
            go_roundw
            case rel => exact ⟨k + 1, hlt, by go_num, HX4⟩
            case measure => simp [intOf]; omega
          | false =>
            go_wp2_with fail
            go_ret
            exact ⟨by first | exact ⟨_, rfl⟩ | exact .inl rfl | exact .inr rfl, HX4.out.below⟩
        · have hl1 : ¬ (k : Int) < (NA : Int) := by omega
          go_wp2_with fail
          clear g7 hlt hk hl1
          go_loopw [4] (fun i wr => ∃ (k : Nat), k ≤ NO ∧ i = .int .i64 (k : Int) ∧ Hid (TBx w wr (.bool b0) (.bool b1) (.bool b2) (.bool b3) (.slice no nn nc) (.bool b5) (.slice xo nx xc) (.slice ao NA ac) (.slice oo NO oc))) (fun i _ => NO - (intOf i).toNat)
          case atStart => exact ⟨0, Nat.zero_le _, rfl, HX1⟩
          case round =>
            clear HX1
            obtain ⟨k, hk, rfl, HX2⟩ := hrel
            have g8 := HX2.out.c8
            by_cases hlt : k < NO
            · have hl1 : (k : Int) < (NO : Int) := by omega
              have hl0 : (0 : Int) ≤ (k : Int) := by omega
              have hko : k < os.length := by rw [HNO.out]; exact hlt
              obtain ⟨ob, ooff, hoo, ko, kc, fo, NF, fc, mo, mc, hNF, hat⟩ := HOb.out k hko wr HX2.out.below
              subst hoo
              obtain ⟨fs, hfs⟩ : ∃ fs, os[k].fields = fs := ⟨_, rfl⟩
              have HFS := Hid.mk hfs
              have HNF : Hid (fs.length = NF) := by show _ = _; rw [← hfs]; exact hNF
              obtain ⟨r0, r1, r2, r3, r4, r5, r6, r7, r8, hr9, hrt⟩ := hat.rest
              obtain ⟨q0, q1, q2, q3, q4, q5, q6, q7, q8⟩ := hr9
              have HC := Hid.mk (HI.out os[k].rest _ wr hrt)
              obtain ⟨e0, e1, e2, e3, e4, e5, e6, e7, e8, esh⟩ := inT_shape hrt
              simp only [Value.agg.injEq, Array.mk.injEq, List.cons.injEq, and_true] at esh
              obtain ⟨rfl, rfl, rfl, rfl, rfl, rfl, rfl, rfl, rfl⟩ := esh
              have HAt := Hid.mk hat
              clear hat hrt hfs hNF
              go_wp2_with fail
              refine HC.out.mono ?_
              rintro e w9 ⟨⟨r, rfl⟩, hb9⟩
              have HX9 := Hid.mk (HX2.out.keep hb9)
              have HAt9 := Hid.mk (HAt.out.keep hb9)
              have hNFb : NF ≤ 140737488355328 := HAt9.out.cap.2
              have hNFc : NF ≤ fc := HAt9.out.cap.1
              clear hb9 HC q0 q1 q2 q3 q4 q5 q6 q7 q8 g8 HX2 HAt
              cases r with
              | false =>
                go_wp2_with fail
                go_ret
                exact ⟨by first | exact ⟨_, rfl⟩ | exact .inl rfl | exact .inr rfl, HX9.out.below⟩
              | true =>
                go_wp2_with fail
                go_loopw [5] (fun i wr => ∃ (j : Nat), j ≤ NF ∧ i = .int .i64 (j : Int) ∧ Hid (TBx w wr (.bool b0) (.bool b1) (.bool b2) (.bool b3) (.slice no nn nc) (.bool b5) (.slice xo nx xc) (.slice ao NA ac) (.slice (some ⟨ob, ooff, none⟩) NO oc)) ∧ Hid (OB.At h os[k] wr ob (ooff + k * 12) ko kc fo NF fc mo mc)) (fun i _ => NF - (intOf i).toNat)
                case atStart => exact ⟨0, Nat.zero_le _, rfl, HX9, HAt9⟩
                case round =>
                  clear HX9 HAt9
                  obtain ⟨j, hj, rfl, HX3, HAt3⟩ := hrel
                  have g8 := HX3.out.c8
                  have gf := HAt3.out.cf
                  by_cases hjl : j < NF
                  · have hj1 : (j : Int) < (NF : Int) := by omega
                    have hj0 : (0 : Int) ≤ (j : Int) := by omega
                    have hjf : j < fs.length := by rw [HNF.out]; exact hjl
                    obtain ⟨fb, foff, hfo, hfbl, d0, d1, d2, d3, d4, d5, d6, d7, d8, hd9, hdt⟩ := HAt3.out.field fs HFS.out j hjf
                    subst hfo
                    obtain ⟨q0, q1, q2, q3, q4, q5, q6, q7, q8⟩ := hd9
                    have HC := Hid.mk (HI.out fs[j] _ wr hdt)
                    obtain ⟨e0, e1, e2, e3, e4, e5, e6, e7, e8, esh⟩ := inT_shape hdt
                    simp only [Value.agg.injEq, Array.mk.injEq, List.cons.injEq, and_true] at esh
                    obtain ⟨rfl, rfl, rfl, rfl, rfl, rfl, rfl, rfl, rfl⟩ := esh
                    clear hdt
                    go_wp2_with fail
                    refine HC.out.mono ?_
                    rintro e w4 ⟨⟨r, rfl⟩, hb4⟩
                    have HX4 := Hid.mk (HX3.out.keep hb4)
                    have HAt4 := Hid.mk (HAt3.out.keep hb4)
                    clear hb4 HC q0 q1 q2 q3 q4 q5 q6 q7 q8 g8 gf
                    cases r with
                    | true =>
                      go_wp2_with fail
                      go_roundw
                      case rel => exact ⟨j + 1, hjl, by go_num, HX4, HAt4⟩
                      case measure => simp [intOf]; omega
                    | false =>
                      go_wp2_with fail
                      go_ret
                      exact ⟨by first | exact ⟨_, rfl⟩ | exact .inl rfl | exact .inr rfl, HX4.out.below⟩
                  · have hj1 : ¬ (j : Int) < (NF : Int) := by omega
                    go_wp2_with fail
                    go_roundw
                    case rel => exact ⟨k + 1, hlt, by go_num, HX3⟩
                    case measure => simp [intOf]; omega
            · have hl1 : ¬ (k : Int) < (NO : Int) := by omega
              go_wp2_with fail
              go_ret
              exact ⟨by first | exact ⟨_, rfl⟩ | exact .inl rfl | exact .inr rfl, HX2.out.below⟩
end Go.Proofs.Ytihhjplbpaafiaa
