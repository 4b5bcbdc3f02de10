import Derived.Test.YtoidodippmgbpaaM50
import Derived.Deep.RegionHeld3
namespace Go.Proofs.Ytoidodippmgbpaa
open Go.RowKit Go.Shelf Go.Sort Go.Maps
set_option linter.unusedVariables false
set_option linter.unusedSimpArgs false
attribute [local go_sem] Oper.semAt_some

set_option maxRecDepth 100000 in
set_option maxHeartbeats 12800000 in
theorem w_ValueMerges (h : Nat) (A : VT) (va : Value) (B : VT) (vb : Value) (C : VT) (vc : Value) (w : World) (hA : InH w h A va) (hB : InH w h B vb) (hC : InH w h C vc) :
    Calls Try.prog 3 #[va, vb, vc] w fun e w' => e = .returned (.bool true) ∧ Below w.heap.size w w' := by
  cases h with
  | zero => exact hA.elim
  | succ h =>
    obtain ⟨j0, hj0, hy0, hy1, hy2⟩ := info_parts Try.infoSt
    obtain ⟨i0, hi0, hz0, hz1, hz2⟩ := info_parts Try.infoV
    have HTa := Hid.mk hA
    obtain ⟨ioa, ica, koa, kca, rfl, a1, a2, a3, a4, a5, a6, a7, hka, hia⟩ := hA.open
    have HKa := Hid.mk hka
    have HIa := Hid.mk hia
    have HSa := Hid.mk a7
    have HCa := Hid.mk (And.intro a5 a6)
    have HMa : Hid (formN (h + 1) A = true → decide (szN (h + 1) A ≤ 10000) = true → A.kind = 6 → Sm h 10000 A) := fun f s k => ⟨k, f, of_decide_eq_true s⟩
    have HLa : Hid (Sm h 10000 A → A.items.length = A.keys.length) := fun s => s.obj.len.symm
    have HWa : Hid (Sm h 10000 A → A.keys.length ≤ 10000) := fun s => s.keys
    have HZa : Hid (Sm h 10000 A → ∀ y ∈ A.items, szN h y ≤ 100000) := fun s y hy => by
      have h1 := s.sz
      have h2 : 1 + A.keys.length + sumL (A.items.map (szN h)) ≤ 10000 := h1
      have h3 := sumL_mem (List.mem_map.2 ⟨_, hy, rfl⟩ : szN h y ∈ A.items.map (szN h))
      omega
    have HFa : Hid (∀ u, Below w.heap.size w u → Calls Try.prog 6 #[.agg #[.int .i64 A.kind, .string A.num, .string A.text, .slice ioa A.items.length ica, .slice koa A.keys.length kca]] u fun e w' => e = .returned (.bool (formN (h + 1) A)) ∧ Below u.heap.size u w') := fun u hu => w_rFormed (h + 1) A _ u (HTa.out.keep hu)
    have HDa : Hid (∀ u, Below w.heap.size w u → Calls Try.prog 5 #[.agg #[.int .i64 A.kind, .string A.num, .string A.text, .slice ioa A.items.length ica, .slice koa A.keys.length kca]] u fun e w' => e = .returned (.bool (decide (szN (h + 1) A ≤ 10000))) ∧ Below u.heap.size u w') := fun u hu => w_smallX (h + 1) A _ u (HTa.out.keep hu)
    have HTb := Hid.mk hB
    obtain ⟨iob, icb, kob, kcb, rfl, b1, b2, b3, b4, b5, b6, b7, hkb, hib⟩ := hB.open
    have HKb := Hid.mk hkb
    have HIb := Hid.mk hib
    have HSb := Hid.mk b7
    have HCb := Hid.mk (And.intro b5 b6)
    have HMb : Hid (formN (h + 1) B = true → decide (szN (h + 1) B ≤ 10000) = true → B.kind = 6 → Sm h 10000 B) := fun f s k => ⟨k, f, of_decide_eq_true s⟩
    have HLb : Hid (Sm h 10000 B → B.items.length = B.keys.length) := fun s => s.obj.len.symm
    have HWb : Hid (Sm h 10000 B → B.keys.length ≤ 10000) := fun s => s.keys
    have HZb : Hid (Sm h 10000 B → ∀ y ∈ B.items, szN h y ≤ 100000) := fun s y hy => by
      have h1 := s.sz
      have h2 : 1 + B.keys.length + sumL (B.items.map (szN h)) ≤ 10000 := h1
      have h3 := sumL_mem (List.mem_map.2 ⟨_, hy, rfl⟩ : szN h y ∈ B.items.map (szN h))
      omega
    have HFb : Hid (∀ u, Below w.heap.size w u → Calls Try.prog 6 #[.agg #[.int .i64 B.kind, .string B.num, .string B.text, .slice iob B.items.length icb, .slice kob B.keys.length kcb]] u fun e w' => e = .returned (.bool (formN (h + 1) B)) ∧ Below u.heap.size u w') := fun u hu => w_rFormed (h + 1) B _ u (HTb.out.keep hu)
    have HDb : Hid (∀ u, Below w.heap.size w u → Calls Try.prog 5 #[.agg #[.int .i64 B.kind, .string B.num, .string B.text, .slice iob B.items.length icb, .slice kob B.keys.length kcb]] u fun e w' => e = .returned (.bool (decide (szN (h + 1) B ≤ 10000))) ∧ Below u.heap.size u w') := fun u hu => w_smallX (h + 1) B _ u (HTb.out.keep hu)
    have HTc := Hid.mk hC
    obtain ⟨ioc, icc, koc, kcc, rfl, c1, c2, c3, c4, c5, c6, c7, hkc, hic⟩ := hC.open
    have HKc := Hid.mk hkc
    have HIc := Hid.mk hic
    have HSc := Hid.mk c7
    have HCc := Hid.mk (And.intro c5 c6)
    have HMc : Hid (formN (h + 1) C = true → decide (szN (h + 1) C ≤ 10000) = true → C.kind = 6 → Sm h 10000 C) := fun f s k => ⟨k, f, of_decide_eq_true s⟩
    have HLc : Hid (Sm h 10000 C → C.items.length = C.keys.length) := fun s => s.obj.len.symm
    have HWc : Hid (Sm h 10000 C → C.keys.length ≤ 10000) := fun s => s.keys
    have HZc : Hid (Sm h 10000 C → ∀ y ∈ C.items, szN h y ≤ 100000) := fun s y hy => by
      have h1 := s.sz
      have h2 : 1 + C.keys.length + sumL (C.items.map (szN h)) ≤ 10000 := h1
      have h3 := sumL_mem (List.mem_map.2 ⟨_, hy, rfl⟩ : szN h y ∈ C.items.map (szN h))
      omega
    have HFc : Hid (∀ u, Below w.heap.size w u → Calls Try.prog 6 #[.agg #[.int .i64 C.kind, .string C.num, .string C.text, .slice ioc C.items.length icc, .slice koc C.keys.length kcc]] u fun e w' => e = .returned (.bool (formN (h + 1) C)) ∧ Below u.heap.size u w') := fun u hu => w_rFormed (h + 1) C _ u (HTc.out.keep hu)
    have HDc : Hid (∀ u, Below w.heap.size w u → Calls Try.prog 5 #[.agg #[.int .i64 C.kind, .string C.num, .string C.text, .slice ioc C.items.length icc, .slice koc C.keys.length kcc]] u fun e w' => e = .returned (.bool (decide (szN (h + 1) C ≤ 10000))) ∧ Below u.heap.size u w') := fun u hu => w_smallX (h + 1) C _ u (HTc.out.keep hu)
    obtain ⟨fa, hfa⟩ : ∃ f, formN (h + 1) A = f := ⟨_, rfl⟩
    rw [hfa] at HFa HMa
    obtain ⟨sa, hsa⟩ : ∃ f, decide (szN (h + 1) A ≤ 10000) = f := ⟨_, rfl⟩
    rw [hsa] at HDa HMa
    obtain ⟨ka, hqa⟩ : ∃ f, A.kind = f := ⟨_, rfl⟩
    rw [hqa] at HDa HMa HFa HTa ⊢
    generalize A.num = na at *
    generalize A.text = ta at *
    obtain ⟨Na, hNa⟩ : ∃ f, A.items.length = f := ⟨_, rfl⟩
    rw [hNa] at HDa HCa HLa HFa HTa ⊢
    obtain ⟨Ka, hKa⟩ : ∃ f, A.keys.length = f := ⟨_, rfl⟩
    rw [hKa] at HDa HCa HLa HWa HFa HTa ⊢
    have HNa := Hid.mk hNa
    have HOa := Hid.mk hKa
    clear hfa hsa hqa hNa hKa a1 a2 a3 a4 a5 a6 a7 hka hia hA
    obtain ⟨fb, hfb⟩ : ∃ f, formN (h + 1) B = f := ⟨_, rfl⟩
    rw [hfb] at HFb HMb
    obtain ⟨sb, hsb⟩ : ∃ f, decide (szN (h + 1) B ≤ 10000) = f := ⟨_, rfl⟩
    rw [hsb] at HDb HMb
    obtain ⟨kb, hqb⟩ : ∃ f, B.kind = f := ⟨_, rfl⟩
    rw [hqb] at HDb HMb HFb HTb ⊢
    generalize B.num = nb at *
    generalize B.text = tb at *
    obtain ⟨Nb, hNb⟩ : ∃ f, B.items.length = f := ⟨_, rfl⟩
    rw [hNb] at HDb HCb HLb HFb HTb ⊢
    obtain ⟨Kb, hKb⟩ : ∃ f, B.keys.length = f := ⟨_, rfl⟩
    rw [hKb] at HDb HCb HLb HWb HFb HTb ⊢
    have HNb := Hid.mk hNb
    have HOb := Hid.mk hKb
    clear hfb hsb hqb hNb hKb b1 b2 b3 b4 b5 b6 b7 hkb hib hB
    obtain ⟨fc, hfc⟩ : ∃ f, formN (h + 1) C = f := ⟨_, rfl⟩
    rw [hfc] at HFc HMc
    obtain ⟨sc, hsc⟩ : ∃ f, decide (szN (h + 1) C ≤ 10000) = f := ⟨_, rfl⟩
    rw [hsc] at HDc HMc
    obtain ⟨kc, hqc⟩ : ∃ f, C.kind = f := ⟨_, rfl⟩
    rw [hqc] at HDc HMc HFc HTc ⊢
    generalize C.num = nc at *
    generalize C.text = tc at *
    obtain ⟨Nc, hNc⟩ : ∃ f, C.items.length = f := ⟨_, rfl⟩
    rw [hNc] at HDc HCc HLc HFc HTc ⊢
    obtain ⟨Kc, hKc⟩ : ∃ f, C.keys.length = f := ⟨_, rfl⟩
    rw [hKc] at HDc HCc HLc HWc HFc HTc ⊢
    have HNc := Hid.mk hNc
    have HOc := Hid.mk hKc
    clear hfc hsc hqc hNc hKc c1 c2 c3 c4 c5 c6 c7 hkc hic hC
    have HV0 := Hid.mk (vb3_new w #[.int .i64 ka, .string na, .string ta, .slice ioa Na ica, .slice koa Ka kca] #[.int .i64 kb, .string nb, .string tb, .slice iob Nb icb, .slice kob Kb kcb] #[.int .i64 kc, .string nc, .string tc, .slice ioc Nc icc, .slice koc Kc kcc])
    go_enter Try.func3, Try.ntmps3
    go_upto_region 1 with fail
    obtain ⟨W0, hW0⟩ : ∃ W, ((w.alloc (.cells #[.int .i64 ka, .string na, .string ta, .slice ioa Na ica, .slice koa Ka kca] 25)).alloc (.cells #[.int .i64 kb, .string nb, .string tb, .slice iob Nb icb, .slice kob Kb kcb] 25)).alloc (.cells #[.int .i64 kc, .string nc, .string tc, .slice ioc Nc icc, .slice koc Kc kcc] 25) = W := ⟨_, rfl⟩
    rw [hW0] at HV0
    rw [hW0]
    clear hW0
    go_wp2_with fail
    refine (w_lives W0).mono ?_
    rintro e u0 ⟨rfl, hb⟩
    have HV1 := Hid.mk (HV0.out.keep hb)
    clear hb HV0
    have x0 := cell_of_row _ _ 0 _ _ _ HV1.out.a
    have x1 := cell_of_row _ _ 1 _ _ _ HV1.out.a
    have x2 := cell_of_row _ _ 2 _ _ _ HV1.out.a
    have x3 := cell_of_row _ _ 3 _ _ _ HV1.out.a
    have x4 := cell_of_row _ _ 4 _ _ _ HV1.out.a
    go_wp2_with fail
    refine (HDa.out _ HV1.out.below).mono ?_
    rintro e u1 ⟨rfl, hb⟩
    have HV2 := Hid.mk (HV1.out.keep hb)
    clear x0 x1 x2 x3 x4
    clear hb HV1
    cases sa with
    | false =>
      go_wp2_with fail
      go_ret
      exact ⟨rfl, HV2.out.below⟩
    | true =>
      have x0 := cell_of_row _ _ 0 _ _ _ HV2.out.b
      have x1 := cell_of_row _ _ 1 _ _ _ HV2.out.b
      have x2 := cell_of_row _ _ 2 _ _ _ HV2.out.b
      have x3 := cell_of_row _ _ 3 _ _ _ HV2.out.b
      have x4 := cell_of_row _ _ 4 _ _ _ HV2.out.b
      go_wp2_with fail
      refine (HDb.out _ HV2.out.below).mono ?_
      rintro e u2 ⟨rfl, hb⟩
      have HV3 := Hid.mk (HV2.out.keep hb)
      clear x0 x1 x2 x3 x4
      clear hb HV2
      cases sb with
      | false =>
        go_wp2_with fail
        go_ret
        exact ⟨rfl, HV3.out.below⟩
      | true =>
        have x0 := cell_of_row _ _ 0 _ _ _ HV3.out.c
        have x1 := cell_of_row _ _ 1 _ _ _ HV3.out.c
        have x2 := cell_of_row _ _ 2 _ _ _ HV3.out.c
        have x3 := cell_of_row _ _ 3 _ _ _ HV3.out.c
        have x4 := cell_of_row _ _ 4 _ _ _ HV3.out.c
        go_wp2_with fail
        refine (HDc.out _ HV3.out.below).mono ?_
        rintro e u3 ⟨rfl, hb⟩
        have HV4 := Hid.mk (HV3.out.keep hb)
        clear x0 x1 x2 x3 x4
        clear hb HV3
        cases sc with
        | false =>
          go_wp2_with fail
          go_ret
          exact ⟨rfl, HV4.out.below⟩
        | true =>
          have x0 := cell_of_row _ _ 0 _ _ _ HV4.out.a
          have x1 := cell_of_row _ _ 1 _ _ _ HV4.out.a
          have x2 := cell_of_row _ _ 2 _ _ _ HV4.out.a
          have x3 := cell_of_row _ _ 3 _ _ _ HV4.out.a
          have x4 := cell_of_row _ _ 4 _ _ _ HV4.out.a
          go_wp2_with fail
          refine (HFa.out _ HV4.out.below).mono ?_
          rintro e u4 ⟨rfl, hb⟩
          have HV5 := Hid.mk (HV4.out.keep hb)
          clear x0 x1 x2 x3 x4
          clear hb HV4
          cases fa with
          | false =>
            go_wp2_with fail
            go_ret
            exact ⟨rfl, HV5.out.below⟩
          | true =>
            have x0 := cell_of_row _ _ 0 _ _ _ HV5.out.b
            have x1 := cell_of_row _ _ 1 _ _ _ HV5.out.b
            have x2 := cell_of_row _ _ 2 _ _ _ HV5.out.b
            have x3 := cell_of_row _ _ 3 _ _ _ HV5.out.b
            have x4 := cell_of_row _ _ 4 _ _ _ HV5.out.b
            go_wp2_with fail
            refine (HFb.out _ HV5.out.below).mono ?_
            rintro e u5 ⟨rfl, hb⟩
            have HV6 := Hid.mk (HV5.out.keep hb)
            clear x0 x1 x2 x3 x4
            clear hb HV5
            cases fb with
            | false =>
              go_wp2_with fail
              go_ret
              exact ⟨rfl, HV6.out.below⟩
            | true =>
              have x0 := cell_of_row _ _ 0 _ _ _ HV6.out.c
              have x1 := cell_of_row _ _ 1 _ _ _ HV6.out.c
              have x2 := cell_of_row _ _ 2 _ _ _ HV6.out.c
              have x3 := cell_of_row _ _ 3 _ _ _ HV6.out.c
              have x4 := cell_of_row _ _ 4 _ _ _ HV6.out.c
              go_wp2_with fail
              refine (HFc.out _ HV6.out.below).mono ?_
              rintro e u6 ⟨rfl, hb⟩
              have HV7 := Hid.mk (HV6.out.keep hb)
              clear x0 x1 x2 x3 x4
              clear hb HV6
              cases fc with
              | false =>
                go_wp2_with fail
                go_ret
                exact ⟨rfl, HV7.out.below⟩
              | true =>
                have ya := cell_of_row _ _ 0 _ _ _ HV7.out.a
                have yb := cell_of_row _ _ 0 _ _ _ HV7.out.b
                have yc := cell_of_row _ _ 0 _ _ _ HV7.out.c
                by_cases hqa : ka = 6
                case neg =>
                  have ga : (ka == 6) = false := by rw [beq_eq_false_iff_ne]; exact hqa
                  go_wp2_with fail
                  go_ret
                  exact ⟨rfl, HV7.out.below⟩
                subst hqa
                by_cases hqb : kb = 6
                case neg =>
                  have gb : (kb == 6) = false := by rw [beq_eq_false_iff_ne]; exact hqb
                  go_wp2_with fail
                  go_ret
                  exact ⟨rfl, HV7.out.below⟩
                subst hqb
                by_cases hqc : kc = 6
                case neg =>
                  have gc : (kc == 6) = false := by rw [beq_eq_false_iff_ne]; exact hqc
                  go_wp2_with fail
                  go_ret
                  exact ⟨rfl, HV7.out.below⟩
                subst hqc
                have hma := HMa.out (by first | trivial | rfl) (by first | trivial | rfl) (by first | trivial | rfl)
                obtain rfl : Ka = Na := (HLa.out hma).symm
                have HZZa := Hid.mk (HZa.out hma)
                have la : Ka ≤ 10000 := HWa.out hma
                have SMa := Hid.mk hma
                clear hma HMa HLa HWa HZa HFa HDa
                have hmb := HMb.out (by first | trivial | rfl) (by first | trivial | rfl) (by first | trivial | rfl)
                obtain rfl : Kb = Nb := (HLb.out hmb).symm
                have HZZb := Hid.mk (HZb.out hmb)
                have lb : Kb ≤ 10000 := HWb.out hmb
                have SMb := Hid.mk hmb
                clear hmb HMb HLb HWb HZb HFb HDb
                have hmc := HMc.out (by first | trivial | rfl) (by first | trivial | rfl) (by first | trivial | rfl)
                obtain rfl : Kc = Nc := (HLc.out hmc).symm
                have HZZc := Hid.mk (HZc.out hmc)
                have lc : Kc ≤ 10000 := HWc.out hmc
                have SMc := Hid.mk hmc
                clear hmc HMc HLc HWc HZc HFc HDc
                obtain ⟨W, hWW⟩ : ∃ W, u6 = W := ⟨_, rfl⟩
                rw [hWW] at HV7 ya yb yc
                rw [hWW]
                clear hWW
                have HB0 := Hid.mk HV7.out.below
                have HX0 : Hid (w.heap.size + 3 ≤ W.heap.size) := HV7.out.sz
                have Ba0a := Hid.mk HV7.out.a
                have Ba0b := Hid.mk HV7.out.b
                have Ba0c := Hid.mk HV7.out.c
                clear HV7
                have x0 := cell_of_row _ _ 0 _ _ _ Ba0b.out
                have x1 := cell_of_row _ _ 1 _ _ _ Ba0b.out
                have x2 := cell_of_row _ _ 2 _ _ _ Ba0b.out
                have x3 := cell_of_row _ _ 3 _ _ _ Ba0b.out
                have x4 := cell_of_row _ _ 4 _ _ _ Ba0b.out
                have y0 := cell_of_row _ _ 0 _ _ _ Ba0c.out
                have y1 := cell_of_row _ _ 1 _ _ _ Ba0c.out
                have y2 := cell_of_row _ _ 2 _ _ _ Ba0c.out
                have y3 := cell_of_row _ _ 3 _ _ _ Ba0c.out
                have y4 := cell_of_row _ _ 4 _ _ _ Ba0c.out
                go_wp2_with fail
                refine (w_MergeS SMb.out SMc.out (by omega) _ _ _ (HTb.out.keep HB0.out) (HTc.out.keep HB0.out)).mono ?_
                rintro e v5 ⟨kp, np, tp, iop, Np, icp, kop, Kp, kcp, rfl, HQ⟩
                obtain ⟨hT, hb⟩ := HQ.out
                clear x0 x1 x2 x3 x4 y0 y1 y2 y3 y4
                clear ya yb yc
                have HB1 := Hid.mk (below_more HB0.out hb)
                have HX1 : Hid (w.heap.size + 3 ≤ v5.heap.size) := Nat.le_trans HX0.out hb.size
                have Ba1a := Hid.mk (heap_low hb (Array.getElem?_eq_some_iff.1 Ba0a.out).1 Ba0a.out)
                have Ba1b := Hid.mk (heap_low hb (Array.getElem?_eq_some_iff.1 Ba0b.out).1 Ba0b.out)
                have Ba1c := Hid.mk (heap_low hb (Array.getElem?_eq_some_iff.1 Ba0c.out).1 Ba0c.out)
                clear HB0 HX0 Ba0a Ba0b Ba0c 
                have Tr1p := Hid.mk hT
                have SMp := Hid.mk (SMb.out.mg SMc.out)
                clear hT hb HQ
                go_upto_region 6 with fail
                obtain ⟨W5, hW⟩ : ∃ W, v5.alloc (.cells #[.int .i64 kp, .string np, .string tp, .slice iop Np icp, .slice kop Kp kcp] 25) = W := ⟨_, rfl⟩
                have hbW : Below v5.heap.size v5 W5 := by rw [← hW]; exact below1 _ _
                have hnew : W5.heap[v5.heap.size]? = some (.cells #[.int .i64 kp, .string np, .string tp, .slice iop Np icp, .slice kop Kp kcp] 25 (0, 0)) := by rw [← hW]; exact heap_alloc_new _ _
                rw [hW]
                have HB2 := Hid.mk (below_more HB1.out hbW)
                have HX2 : Hid (w.heap.size + 3 ≤ W5.heap.size) := Nat.le_trans HX1.out hbW.size
                have Ba2a := Hid.mk (heap_low hbW (Array.getElem?_eq_some_iff.1 Ba1a.out).1 Ba1a.out)
                have Ba2b := Hid.mk (heap_low hbW (Array.getElem?_eq_some_iff.1 Ba1b.out).1 Ba1b.out)
                have Ba2c := Hid.mk (heap_low hbW (Array.getElem?_eq_some_iff.1 Ba1c.out).1 Ba1c.out)
                have Tr2p := Hid.mk (Tr1p.out.keep hbW)
                clear HB1 HX1 Ba1a Ba1b Ba1c Tr1p
                have Ba2p := Hid.mk hnew
                clear hW hbW hnew
                have x0 := cell_of_row _ _ 0 _ _ _ Ba2a.out
                have x1 := cell_of_row _ _ 1 _ _ _ Ba2a.out
                have x2 := cell_of_row _ _ 2 _ _ _ Ba2a.out
                have x3 := cell_of_row _ _ 3 _ _ _ Ba2a.out
                have x4 := cell_of_row _ _ 4 _ _ _ Ba2a.out
                have y0 := cell_of_row _ _ 0 _ _ _ Ba2b.out
                have y1 := cell_of_row _ _ 1 _ _ _ Ba2b.out
                have y2 := cell_of_row _ _ 2 _ _ _ Ba2b.out
                have y3 := cell_of_row _ _ 3 _ _ _ Ba2b.out
                have y4 := cell_of_row _ _ 4 _ _ _ Ba2b.out
                go_wp2_with fail
                refine (w_MergeS SMa.out SMb.out (by omega) _ _ _ (HTa.out.keep HB2.out) (HTb.out.keep HB2.out)).mono ?_
                rintro e v6 ⟨kq, nq, tq, ioq, Nq, icq, koq, Kq, kcq, rfl, HQ⟩
                obtain ⟨hT, hb⟩ := HQ.out
                clear x0 x1 x2 x3 x4 y0 y1 y2 y3 y4
                have HB3 := Hid.mk (below_more HB2.out hb)
                have HX3 : Hid (w.heap.size + 3 ≤ v6.heap.size) := Nat.le_trans HX2.out hb.size
                have Ba3a := Hid.mk (heap_low hb (Array.getElem?_eq_some_iff.1 Ba2a.out).1 Ba2a.out)
                have Ba3b := Hid.mk (heap_low hb (Array.getElem?_eq_some_iff.1 Ba2b.out).1 Ba2b.out)
                have Ba3c := Hid.mk (heap_low hb (Array.getElem?_eq_some_iff.1 Ba2c.out).1 Ba2c.out)
                have Ba3p := Hid.mk (heap_low hb (Array.getElem?_eq_some_iff.1 Ba2p.out).1 Ba2p.out)
                have Tr3p := Hid.mk (Tr2p.out.keep hb)
                clear HB2 HX2 Ba2a Ba2b Ba2c Ba2p Tr2p
                have Tr3q := Hid.mk hT
                have SMq := Hid.mk (SMa.out.mg SMb.out)
                clear hT hb HQ
                go_upto_region 7 with fail
                obtain ⟨W6, hW⟩ : ∃ W, v6.alloc (.cells #[.int .i64 kq, .string nq, .string tq, .slice ioq Nq icq, .slice koq Kq kcq] 25) = W := ⟨_, rfl⟩
                have hbW : Below v6.heap.size v6 W6 := by rw [← hW]; exact below1 _ _
                have hnew : W6.heap[v6.heap.size]? = some (.cells #[.int .i64 kq, .string nq, .string tq, .slice ioq Nq icq, .slice koq Kq kcq] 25 (0, 0)) := by rw [← hW]; exact heap_alloc_new _ _
                rw [hW]
                have HB4 := Hid.mk (below_more HB3.out hbW)
                have HX4 : Hid (w.heap.size + 3 ≤ W6.heap.size) := Nat.le_trans HX3.out hbW.size
                have Ba4a := Hid.mk (heap_low hbW (Array.getElem?_eq_some_iff.1 Ba3a.out).1 Ba3a.out)
                have Ba4b := Hid.mk (heap_low hbW (Array.getElem?_eq_some_iff.1 Ba3b.out).1 Ba3b.out)
                have Ba4c := Hid.mk (heap_low hbW (Array.getElem?_eq_some_iff.1 Ba3c.out).1 Ba3c.out)
                have Ba4p := Hid.mk (heap_low hbW (Array.getElem?_eq_some_iff.1 Ba3p.out).1 Ba3p.out)
                have Tr4p := Hid.mk (Tr3p.out.keep hbW)
                have Tr4q := Hid.mk (Tr3q.out.keep hbW)
                clear HB3 HX3 Ba3a Ba3b Ba3c Ba3p Tr3p Tr3q
                have Ba4q := Hid.mk hnew
                clear hW hbW hnew
                have x0 := cell_of_row _ _ 0 _ _ _ Ba4a.out
                have x1 := cell_of_row _ _ 1 _ _ _ Ba4a.out
                have x2 := cell_of_row _ _ 2 _ _ _ Ba4a.out
                have x3 := cell_of_row _ _ 3 _ _ _ Ba4a.out
                have x4 := cell_of_row _ _ 4 _ _ _ Ba4a.out
                have y0 := cell_of_row _ _ 0 _ _ _ Ba4p.out
                have y1 := cell_of_row _ _ 1 _ _ _ Ba4p.out
                have y2 := cell_of_row _ _ 2 _ _ _ Ba4p.out
                have y3 := cell_of_row _ _ 3 _ _ _ Ba4p.out
                have y4 := cell_of_row _ _ 4 _ _ _ Ba4p.out
                go_wp2_with fail
                refine (w_MergeS SMa.out SMp.out (by omega) _ _ _ (HTa.out.keep HB4.out) Tr4p.out).mono ?_
                rintro e v7 ⟨kl, nl, tl, iol, Nl, icl, kol, Kl, kcl, rfl, HQ⟩
                obtain ⟨hT, hb⟩ := HQ.out
                clear x0 x1 x2 x3 x4 y0 y1 y2 y3 y4
                have HB5 := Hid.mk (below_more HB4.out hb)
                have HX5 : Hid (w.heap.size + 3 ≤ v7.heap.size) := Nat.le_trans HX4.out hb.size
                have Ba5a := Hid.mk (heap_low hb (Array.getElem?_eq_some_iff.1 Ba4a.out).1 Ba4a.out)
                have Ba5b := Hid.mk (heap_low hb (Array.getElem?_eq_some_iff.1 Ba4b.out).1 Ba4b.out)
                have Ba5c := Hid.mk (heap_low hb (Array.getElem?_eq_some_iff.1 Ba4c.out).1 Ba4c.out)
                have Ba5p := Hid.mk (heap_low hb (Array.getElem?_eq_some_iff.1 Ba4p.out).1 Ba4p.out)
                have Ba5q := Hid.mk (heap_low hb (Array.getElem?_eq_some_iff.1 Ba4q.out).1 Ba4q.out)
                have Tr5p := Hid.mk (Tr4p.out.keep hb)
                have Tr5q := Hid.mk (Tr4q.out.keep hb)
                clear HB4 HX4 Ba4a Ba4b Ba4c Ba4p Ba4q Tr4p Tr4q
                have Tr5l := Hid.mk hT
                have SMl := Hid.mk (SMa.out.mg SMp.out)
                clear hT hb HQ
                go_upto_region 8 with fail
                obtain ⟨W7, hW⟩ : ∃ W, v7.alloc (.cells #[.int .i64 kl, .string nl, .string tl, .slice iol Nl icl, .slice kol Kl kcl] 25) = W := ⟨_, rfl⟩
                have hbW : Below v7.heap.size v7 W7 := by rw [← hW]; exact below1 _ _
                have hnew : W7.heap[v7.heap.size]? = some (.cells #[.int .i64 kl, .string nl, .string tl, .slice iol Nl icl, .slice kol Kl kcl] 25 (0, 0)) := by rw [← hW]; exact heap_alloc_new _ _
                rw [hW]
                have HB6 := Hid.mk (below_more HB5.out hbW)
                have HX6 : Hid (w.heap.size + 3 ≤ W7.heap.size) := Nat.le_trans HX5.out hbW.size
                have Ba6a := Hid.mk (heap_low hbW (Array.getElem?_eq_some_iff.1 Ba5a.out).1 Ba5a.out)
                have Ba6b := Hid.mk (heap_low hbW (Array.getElem?_eq_some_iff.1 Ba5b.out).1 Ba5b.out)
                have Ba6c := Hid.mk (heap_low hbW (Array.getElem?_eq_some_iff.1 Ba5c.out).1 Ba5c.out)
                have Ba6p := Hid.mk (heap_low hbW (Array.getElem?_eq_some_iff.1 Ba5p.out).1 Ba5p.out)
                have Ba6q := Hid.mk (heap_low hbW (Array.getElem?_eq_some_iff.1 Ba5q.out).1 Ba5q.out)
                have Tr6p := Hid.mk (Tr5p.out.keep hbW)
                have Tr6q := Hid.mk (Tr5q.out.keep hbW)
                have Tr6l := Hid.mk (Tr5l.out.keep hbW)
                clear HB5 HX5 Ba5a Ba5b Ba5c Ba5p Ba5q Tr5p Tr5q Tr5l
                have Ba6l := Hid.mk hnew
                clear hW hbW hnew
                have x0 := cell_of_row _ _ 0 _ _ _ Ba6q.out
                have x1 := cell_of_row _ _ 1 _ _ _ Ba6q.out
                have x2 := cell_of_row _ _ 2 _ _ _ Ba6q.out
                have x3 := cell_of_row _ _ 3 _ _ _ Ba6q.out
                have x4 := cell_of_row _ _ 4 _ _ _ Ba6q.out
                have y0 := cell_of_row _ _ 0 _ _ _ Ba6c.out
                have y1 := cell_of_row _ _ 1 _ _ _ Ba6c.out
                have y2 := cell_of_row _ _ 2 _ _ _ Ba6c.out
                have y3 := cell_of_row _ _ 3 _ _ _ Ba6c.out
                have y4 := cell_of_row _ _ 4 _ _ _ Ba6c.out
                go_wp2_with fail
                refine (w_MergeS SMq.out SMc.out (by omega) _ _ _ Tr6q.out (HTc.out.keep HB6.out)).mono ?_
                rintro e v8 ⟨kr, nr, tr, ior, Nr, icr, kor, Kr, kcr, rfl, HQ⟩
                obtain ⟨hT, hb⟩ := HQ.out
                clear x0 x1 x2 x3 x4 y0 y1 y2 y3 y4
                have HB7 := Hid.mk (below_more HB6.out hb)
                have HX7 : Hid (w.heap.size + 3 ≤ v8.heap.size) := Nat.le_trans HX6.out hb.size
                have Ba7a := Hid.mk (heap_low hb (Array.getElem?_eq_some_iff.1 Ba6a.out).1 Ba6a.out)
                have Ba7b := Hid.mk (heap_low hb (Array.getElem?_eq_some_iff.1 Ba6b.out).1 Ba6b.out)
                have Ba7c := Hid.mk (heap_low hb (Array.getElem?_eq_some_iff.1 Ba6c.out).1 Ba6c.out)
                have Ba7p := Hid.mk (heap_low hb (Array.getElem?_eq_some_iff.1 Ba6p.out).1 Ba6p.out)
                have Ba7q := Hid.mk (heap_low hb (Array.getElem?_eq_some_iff.1 Ba6q.out).1 Ba6q.out)
                have Ba7l := Hid.mk (heap_low hb (Array.getElem?_eq_some_iff.1 Ba6l.out).1 Ba6l.out)
                have Tr7p := Hid.mk (Tr6p.out.keep hb)
                have Tr7q := Hid.mk (Tr6q.out.keep hb)
                have Tr7l := Hid.mk (Tr6l.out.keep hb)
                clear HB6 HX6 Ba6a Ba6b Ba6c Ba6p Ba6q Ba6l Tr6p Tr6q Tr6l
                have Tr7r := Hid.mk hT
                have SMr := Hid.mk (SMq.out.mg SMc.out)
                clear hT hb HQ
                go_upto_region 9 with fail
                obtain ⟨W8, hW⟩ : ∃ W, v8.alloc (.cells #[.int .i64 kr, .string nr, .string tr, .slice ior Nr icr, .slice kor Kr kcr] 25) = W := ⟨_, rfl⟩
                have hbW : Below v8.heap.size v8 W8 := by rw [← hW]; exact below1 _ _
                have hnew : W8.heap[v8.heap.size]? = some (.cells #[.int .i64 kr, .string nr, .string tr, .slice ior Nr icr, .slice kor Kr kcr] 25 (0, 0)) := by rw [← hW]; exact heap_alloc_new _ _
                rw [hW]
                have HB8 := Hid.mk (below_more HB7.out hbW)
                have HX8 : Hid (w.heap.size + 3 ≤ W8.heap.size) := Nat.le_trans HX7.out hbW.size
                have Ba8a := Hid.mk (heap_low hbW (Array.getElem?_eq_some_iff.1 Ba7a.out).1 Ba7a.out)
                have Ba8b := Hid.mk (heap_low hbW (Array.getElem?_eq_some_iff.1 Ba7b.out).1 Ba7b.out)
                have Ba8c := Hid.mk (heap_low hbW (Array.getElem?_eq_some_iff.1 Ba7c.out).1 Ba7c.out)
                have Ba8p := Hid.mk (heap_low hbW (Array.getElem?_eq_some_iff.1 Ba7p.out).1 Ba7p.out)
                have Ba8q := Hid.mk (heap_low hbW (Array.getElem?_eq_some_iff.1 Ba7q.out).1 Ba7q.out)
                have Ba8l := Hid.mk (heap_low hbW (Array.getElem?_eq_some_iff.1 Ba7l.out).1 Ba7l.out)
                have Tr8p := Hid.mk (Tr7p.out.keep hbW)
                have Tr8q := Hid.mk (Tr7q.out.keep hbW)
                have Tr8l := Hid.mk (Tr7l.out.keep hbW)
                have Tr8r := Hid.mk (Tr7r.out.keep hbW)
                clear HB7 HX7 Ba7a Ba7b Ba7c Ba7p Ba7q Ba7l Tr7p Tr7q Tr7l Tr7r
                have Ba8r := Hid.mk hnew
                clear hW hbW hnew
                go_upto_region 10 with fail
                obtain ⟨W9, hW⟩ : ∃ W, W8.alloc (.cells #[.int .i64 6, .string ⟨#[]⟩, .string ⟨#[]⟩, .slice none 0 0, .slice none 0 0] 25) = W := ⟨_, rfl⟩
                have hbW : Below W8.heap.size W8 W9 := by rw [← hW]; exact below1 _ _
                have hnew : W9.heap[W8.heap.size]? = some (.cells #[.int .i64 6, .string ⟨#[]⟩, .string ⟨#[]⟩, .slice none 0 0, .slice none 0 0] 25 (0, 0)) := by rw [← hW]; exact heap_alloc_new _ _
                rw [hW]
                have HB9 := Hid.mk (below_more HB8.out hbW)
                have HX9 : Hid (w.heap.size + 3 ≤ W9.heap.size) := Nat.le_trans HX8.out hbW.size
                have Ba9a := Hid.mk (heap_low hbW (Array.getElem?_eq_some_iff.1 Ba8a.out).1 Ba8a.out)
                have Ba9b := Hid.mk (heap_low hbW (Array.getElem?_eq_some_iff.1 Ba8b.out).1 Ba8b.out)
                have Ba9c := Hid.mk (heap_low hbW (Array.getElem?_eq_some_iff.1 Ba8c.out).1 Ba8c.out)
                have Ba9p := Hid.mk (heap_low hbW (Array.getElem?_eq_some_iff.1 Ba8p.out).1 Ba8p.out)
                have Ba9q := Hid.mk (heap_low hbW (Array.getElem?_eq_some_iff.1 Ba8q.out).1 Ba8q.out)
                have Ba9l := Hid.mk (heap_low hbW (Array.getElem?_eq_some_iff.1 Ba8l.out).1 Ba8l.out)
                have Ba9r := Hid.mk (heap_low hbW (Array.getElem?_eq_some_iff.1 Ba8r.out).1 Ba8r.out)
                have Tr9p := Hid.mk (Tr8p.out.keep hbW)
                have Tr9q := Hid.mk (Tr8q.out.keep hbW)
                have Tr9l := Hid.mk (Tr8l.out.keep hbW)
                have Tr9r := Hid.mk (Tr8r.out.keep hbW)
                clear HB8 HX8 Ba8a Ba8b Ba8c Ba8p Ba8q Ba8l Ba8r Tr8p Tr8q Tr8l Tr8r
                have Ba9z := Hid.mk hnew
                clear hW hbW hnew
                have Tr9z := Hid.mk (none_in W9 h)
                have SMz := Hid.mk (Sm.none h)
                have x0 := cell_of_row _ _ 0 _ _ _ Ba9a.out
                have x1 := cell_of_row _ _ 1 _ _ _ Ba9a.out
                have x2 := cell_of_row _ _ 2 _ _ _ Ba9a.out
                have x3 := cell_of_row _ _ 3 _ _ _ Ba9a.out
                have x4 := cell_of_row _ _ 4 _ _ _ Ba9a.out
                have y0 := cell_of_row _ _ 0 _ _ _ Ba9z.out
                have y1 := cell_of_row _ _ 1 _ _ _ Ba9z.out
                have y2 := cell_of_row _ _ 2 _ _ _ Ba9z.out
                have y3 := cell_of_row _ _ 3 _ _ _ Ba9z.out
                have y4 := cell_of_row _ _ 4 _ _ _ Ba9z.out
                go_wp2_with fail
                refine (w_MergeS SMa.out SMz.out (by omega) _ _ _ (HTa.out.keep HB9.out) Tr9z.out).mono ?_
                rintro e v10 ⟨kx, nx, tx, iox, Nx, icx, kox, Kx, kcx, rfl, HQ⟩
                obtain ⟨hT, hb⟩ := HQ.out
                clear x0 x1 x2 x3 x4 y0 y1 y2 y3 y4
                have HB10 := Hid.mk (below_more HB9.out hb)
                have HX10 : Hid (w.heap.size + 3 ≤ v10.heap.size) := Nat.le_trans HX9.out hb.size
                have Ba10a := Hid.mk (heap_low hb (Array.getElem?_eq_some_iff.1 Ba9a.out).1 Ba9a.out)
                have Ba10b := Hid.mk (heap_low hb (Array.getElem?_eq_some_iff.1 Ba9b.out).1 Ba9b.out)
                have Ba10c := Hid.mk (heap_low hb (Array.getElem?_eq_some_iff.1 Ba9c.out).1 Ba9c.out)
                have Ba10p := Hid.mk (heap_low hb (Array.getElem?_eq_some_iff.1 Ba9p.out).1 Ba9p.out)
                have Ba10q := Hid.mk (heap_low hb (Array.getElem?_eq_some_iff.1 Ba9q.out).1 Ba9q.out)
                have Ba10l := Hid.mk (heap_low hb (Array.getElem?_eq_some_iff.1 Ba9l.out).1 Ba9l.out)
                have Ba10r := Hid.mk (heap_low hb (Array.getElem?_eq_some_iff.1 Ba9r.out).1 Ba9r.out)
                have Ba10z := Hid.mk (heap_low hb (Array.getElem?_eq_some_iff.1 Ba9z.out).1 Ba9z.out)
                have Tr10p := Hid.mk (Tr9p.out.keep hb)
                have Tr10q := Hid.mk (Tr9q.out.keep hb)
                have Tr10l := Hid.mk (Tr9l.out.keep hb)
                have Tr10r := Hid.mk (Tr9r.out.keep hb)
                have Tr10z := Hid.mk (Tr9z.out.keep hb)
                clear HB9 HX9 Ba9a Ba9b Ba9c Ba9p Ba9q Ba9l Ba9r Ba9z Tr9p Tr9q Tr9l Tr9r Tr9z
                have Tr10x := Hid.mk hT
                have SMx := Hid.mk (SMa.out.mg SMz.out)
                clear hT hb HQ
                go_upto_region 11 with fail
                obtain ⟨W10, hW⟩ : ∃ W, v10.alloc (.cells #[.int .i64 kx, .string nx, .string tx, .slice iox Nx icx, .slice kox Kx kcx] 25) = W := ⟨_, rfl⟩
                have hbW : Below v10.heap.size v10 W10 := by rw [← hW]; exact below1 _ _
                have hnew : W10.heap[v10.heap.size]? = some (.cells #[.int .i64 kx, .string nx, .string tx, .slice iox Nx icx, .slice kox Kx kcx] 25 (0, 0)) := by rw [← hW]; exact heap_alloc_new _ _
                rw [hW]
                have HB11 := Hid.mk (below_more HB10.out hbW)
                have HX11 : Hid (w.heap.size + 3 ≤ W10.heap.size) := Nat.le_trans HX10.out hbW.size
                have Ba11a := Hid.mk (heap_low hbW (Array.getElem?_eq_some_iff.1 Ba10a.out).1 Ba10a.out)
                have Ba11b := Hid.mk (heap_low hbW (Array.getElem?_eq_some_iff.1 Ba10b.out).1 Ba10b.out)
                have Ba11c := Hid.mk (heap_low hbW (Array.getElem?_eq_some_iff.1 Ba10c.out).1 Ba10c.out)
                have Ba11p := Hid.mk (heap_low hbW (Array.getElem?_eq_some_iff.1 Ba10p.out).1 Ba10p.out)
                have Ba11q := Hid.mk (heap_low hbW (Array.getElem?_eq_some_iff.1 Ba10q.out).1 Ba10q.out)
                have Ba11l := Hid.mk (heap_low hbW (Array.getElem?_eq_some_iff.1 Ba10l.out).1 Ba10l.out)
                have Ba11r := Hid.mk (heap_low hbW (Array.getElem?_eq_some_iff.1 Ba10r.out).1 Ba10r.out)
                have Ba11z := Hid.mk (heap_low hbW (Array.getElem?_eq_some_iff.1 Ba10z.out).1 Ba10z.out)
                have Tr11p := Hid.mk (Tr10p.out.keep hbW)
                have Tr11q := Hid.mk (Tr10q.out.keep hbW)
                have Tr11l := Hid.mk (Tr10l.out.keep hbW)
                have Tr11r := Hid.mk (Tr10r.out.keep hbW)
                have Tr11z := Hid.mk (Tr10z.out.keep hbW)
                have Tr11x := Hid.mk (Tr10x.out.keep hbW)
                clear HB10 HX10 Ba10a Ba10b Ba10c Ba10p Ba10q Ba10l Ba10r Ba10z Tr10p Tr10q Tr10l Tr10r Tr10z Tr10x
                have Ba11x := Hid.mk hnew
                clear hW hbW hnew
                have x0 := cell_of_row _ _ 0 _ _ _ Ba11z.out
                have x1 := cell_of_row _ _ 1 _ _ _ Ba11z.out
                have x2 := cell_of_row _ _ 2 _ _ _ Ba11z.out
                have x3 := cell_of_row _ _ 3 _ _ _ Ba11z.out
                have x4 := cell_of_row _ _ 4 _ _ _ Ba11z.out
                have y0 := cell_of_row _ _ 0 _ _ _ Ba11a.out
                have y1 := cell_of_row _ _ 1 _ _ _ Ba11a.out
                have y2 := cell_of_row _ _ 2 _ _ _ Ba11a.out
                have y3 := cell_of_row _ _ 3 _ _ _ Ba11a.out
                have y4 := cell_of_row _ _ 4 _ _ _ Ba11a.out
                go_wp2_with fail
                refine (w_MergeS SMz.out SMa.out (by omega) _ _ _ Tr11z.out (HTa.out.keep HB11.out)).mono ?_
                rintro e v11 ⟨ky, ny, ty, ioy, Ny, icy, koy, Ky, kcy, rfl, HQ⟩
                obtain ⟨hT, hb⟩ := HQ.out
                clear x0 x1 x2 x3 x4 y0 y1 y2 y3 y4
                have HB12 := Hid.mk (below_more HB11.out hb)
                have HX12 : Hid (w.heap.size + 3 ≤ v11.heap.size) := Nat.le_trans HX11.out hb.size
                have Ba12a := Hid.mk (heap_low hb (Array.getElem?_eq_some_iff.1 Ba11a.out).1 Ba11a.out)
                have Ba12b := Hid.mk (heap_low hb (Array.getElem?_eq_some_iff.1 Ba11b.out).1 Ba11b.out)
                have Ba12c := Hid.mk (heap_low hb (Array.getElem?_eq_some_iff.1 Ba11c.out).1 Ba11c.out)
                have Ba12p := Hid.mk (heap_low hb (Array.getElem?_eq_some_iff.1 Ba11p.out).1 Ba11p.out)
                have Ba12q := Hid.mk (heap_low hb (Array.getElem?_eq_some_iff.1 Ba11q.out).1 Ba11q.out)
                have Ba12l := Hid.mk (heap_low hb (Array.getElem?_eq_some_iff.1 Ba11l.out).1 Ba11l.out)
                have Ba12r := Hid.mk (heap_low hb (Array.getElem?_eq_some_iff.1 Ba11r.out).1 Ba11r.out)
                have Ba12z := Hid.mk (heap_low hb (Array.getElem?_eq_some_iff.1 Ba11z.out).1 Ba11z.out)
                have Ba12x := Hid.mk (heap_low hb (Array.getElem?_eq_some_iff.1 Ba11x.out).1 Ba11x.out)
                have Tr12p := Hid.mk (Tr11p.out.keep hb)
                have Tr12q := Hid.mk (Tr11q.out.keep hb)
                have Tr12l := Hid.mk (Tr11l.out.keep hb)
                have Tr12r := Hid.mk (Tr11r.out.keep hb)
                have Tr12z := Hid.mk (Tr11z.out.keep hb)
                have Tr12x := Hid.mk (Tr11x.out.keep hb)
                clear HB11 HX11 Ba11a Ba11b Ba11c Ba11p Ba11q Ba11l Ba11r Ba11z Ba11x Tr11p Tr11q Tr11l Tr11r Tr11z Tr11x
                have Tr12y := Hid.mk hT
                have SMy := Hid.mk (SMz.out.mg SMa.out)
                clear hT hb HQ
                go_upto_region 12 with fail
                obtain ⟨W11, hW⟩ : ∃ W, v11.alloc (.cells #[.int .i64 ky, .string ny, .string ty, .slice ioy Ny icy, .slice koy Ky kcy] 25) = W := ⟨_, rfl⟩
                have hbW : Below v11.heap.size v11 W11 := by rw [← hW]; exact below1 _ _
                have hnew : W11.heap[v11.heap.size]? = some (.cells #[.int .i64 ky, .string ny, .string ty, .slice ioy Ny icy, .slice koy Ky kcy] 25 (0, 0)) := by rw [← hW]; exact heap_alloc_new _ _
                rw [hW]
                have HB13 := Hid.mk (below_more HB12.out hbW)
                have HX13 : Hid (w.heap.size + 3 ≤ W11.heap.size) := Nat.le_trans HX12.out hbW.size
                have Ba13a := Hid.mk (heap_low hbW (Array.getElem?_eq_some_iff.1 Ba12a.out).1 Ba12a.out)
                have Ba13b := Hid.mk (heap_low hbW (Array.getElem?_eq_some_iff.1 Ba12b.out).1 Ba12b.out)
                have Ba13c := Hid.mk (heap_low hbW (Array.getElem?_eq_some_iff.1 Ba12c.out).1 Ba12c.out)
                have Ba13p := Hid.mk (heap_low hbW (Array.getElem?_eq_some_iff.1 Ba12p.out).1 Ba12p.out)
                have Ba13q := Hid.mk (heap_low hbW (Array.getElem?_eq_some_iff.1 Ba12q.out).1 Ba12q.out)
                have Ba13l := Hid.mk (heap_low hbW (Array.getElem?_eq_some_iff.1 Ba12l.out).1 Ba12l.out)
                have Ba13r := Hid.mk (heap_low hbW (Array.getElem?_eq_some_iff.1 Ba12r.out).1 Ba12r.out)
                have Ba13z := Hid.mk (heap_low hbW (Array.getElem?_eq_some_iff.1 Ba12z.out).1 Ba12z.out)
                have Ba13x := Hid.mk (heap_low hbW (Array.getElem?_eq_some_iff.1 Ba12x.out).1 Ba12x.out)
                have Tr13p := Hid.mk (Tr12p.out.keep hbW)
                have Tr13q := Hid.mk (Tr12q.out.keep hbW)
                have Tr13l := Hid.mk (Tr12l.out.keep hbW)
                have Tr13r := Hid.mk (Tr12r.out.keep hbW)
                have Tr13z := Hid.mk (Tr12z.out.keep hbW)
                have Tr13x := Hid.mk (Tr12x.out.keep hbW)
                have Tr13y := Hid.mk (Tr12y.out.keep hbW)
                clear HB12 HX12 Ba12a Ba12b Ba12c Ba12p Ba12q Ba12l Ba12r Ba12z Ba12x Tr12p Tr12q Tr12l Tr12r Tr12z Tr12x Tr12y
                have Ba13y := Hid.mk hnew
                clear hW hbW hnew
                have x0 := cell_of_row _ _ 0 _ _ _ Ba13l.out
                have x1 := cell_of_row _ _ 1 _ _ _ Ba13l.out
                have x2 := cell_of_row _ _ 2 _ _ _ Ba13l.out
                have x3 := cell_of_row _ _ 3 _ _ _ Ba13l.out
                have x4 := cell_of_row _ _ 4 _ _ _ Ba13l.out
                have y0 := cell_of_row _ _ 0 _ _ _ Ba13r.out
                have y1 := cell_of_row _ _ 1 _ _ _ Ba13r.out
                have y2 := cell_of_row _ _ 2 _ _ _ Ba13r.out
                have y3 := cell_of_row _ _ 3 _ _ _ Ba13r.out
                have y4 := cell_of_row _ _ 4 _ _ _ Ba13r.out
                go_wp2_with fail
                refine (w_LikeS (mg_assoc SMa.out.obj SMb.out.obj SMc.out.obj) _ _ _ Tr13l.out Tr13r.out).mono ?_
                rintro e z0 ⟨rfl, hb⟩
                clear x0 x1 x2 x3 x4 y0 y1 y2 y3 y4
                have HB14 := Hid.mk (below_more HB13.out hb)
                have HX14 : Hid (w.heap.size + 3 ≤ z0.heap.size) := Nat.le_trans HX13.out hb.size
                have Ba14a := Hid.mk (heap_low hb (Array.getElem?_eq_some_iff.1 Ba13a.out).1 Ba13a.out)
                have Ba14b := Hid.mk (heap_low hb (Array.getElem?_eq_some_iff.1 Ba13b.out).1 Ba13b.out)
                have Ba14c := Hid.mk (heap_low hb (Array.getElem?_eq_some_iff.1 Ba13c.out).1 Ba13c.out)
                have Ba14p := Hid.mk (heap_low hb (Array.getElem?_eq_some_iff.1 Ba13p.out).1 Ba13p.out)
                have Ba14q := Hid.mk (heap_low hb (Array.getElem?_eq_some_iff.1 Ba13q.out).1 Ba13q.out)
                have Ba14l := Hid.mk (heap_low hb (Array.getElem?_eq_some_iff.1 Ba13l.out).1 Ba13l.out)
                have Ba14r := Hid.mk (heap_low hb (Array.getElem?_eq_some_iff.1 Ba13r.out).1 Ba13r.out)
                have Ba14z := Hid.mk (heap_low hb (Array.getElem?_eq_some_iff.1 Ba13z.out).1 Ba13z.out)
                have Ba14x := Hid.mk (heap_low hb (Array.getElem?_eq_some_iff.1 Ba13x.out).1 Ba13x.out)
                have Ba14y := Hid.mk (heap_low hb (Array.getElem?_eq_some_iff.1 Ba13y.out).1 Ba13y.out)
                have Tr14p := Hid.mk (Tr13p.out.keep hb)
                have Tr14q := Hid.mk (Tr13q.out.keep hb)
                have Tr14l := Hid.mk (Tr13l.out.keep hb)
                have Tr14r := Hid.mk (Tr13r.out.keep hb)
                have Tr14z := Hid.mk (Tr13z.out.keep hb)
                have Tr14x := Hid.mk (Tr13x.out.keep hb)
                have Tr14y := Hid.mk (Tr13y.out.keep hb)
                clear HB13 HX13 Ba13a Ba13b Ba13c Ba13p Ba13q Ba13l Ba13r Ba13z Ba13x Ba13y Tr13p Tr13q Tr13l Tr13r Tr13z Tr13x Tr13y
                clear hb
                have x0 := cell_of_row _ _ 0 _ _ _ Ba14x.out
                have x1 := cell_of_row _ _ 1 _ _ _ Ba14x.out
                have x2 := cell_of_row _ _ 2 _ _ _ Ba14x.out
                have x3 := cell_of_row _ _ 3 _ _ _ Ba14x.out
                have x4 := cell_of_row _ _ 4 _ _ _ Ba14x.out
                have y0 := cell_of_row _ _ 0 _ _ _ Ba14a.out
                have y1 := cell_of_row _ _ 1 _ _ _ Ba14a.out
                have y2 := cell_of_row _ _ 2 _ _ _ Ba14a.out
                have y3 := cell_of_row _ _ 3 _ _ _ Ba14a.out
                have y4 := cell_of_row _ _ 4 _ _ _ Ba14a.out
                go_wp2_with fail
                refine (w_LikeS (mg_none SMa.out.obj) _ _ _ Tr14x.out (HTa.out.keep HB14.out)).mono ?_
                rintro e z1 ⟨rfl, hb⟩
                clear x0 x1 x2 x3 x4 y0 y1 y2 y3 y4
                have HB15 := Hid.mk (below_more HB14.out hb)
                have HX15 : Hid (w.heap.size + 3 ≤ z1.heap.size) := Nat.le_trans HX14.out hb.size
                have Ba15a := Hid.mk (heap_low hb (Array.getElem?_eq_some_iff.1 Ba14a.out).1 Ba14a.out)
                have Ba15b := Hid.mk (heap_low hb (Array.getElem?_eq_some_iff.1 Ba14b.out).1 Ba14b.out)
                have Ba15c := Hid.mk (heap_low hb (Array.getElem?_eq_some_iff.1 Ba14c.out).1 Ba14c.out)
                have Ba15p := Hid.mk (heap_low hb (Array.getElem?_eq_some_iff.1 Ba14p.out).1 Ba14p.out)
                have Ba15q := Hid.mk (heap_low hb (Array.getElem?_eq_some_iff.1 Ba14q.out).1 Ba14q.out)
                have Ba15l := Hid.mk (heap_low hb (Array.getElem?_eq_some_iff.1 Ba14l.out).1 Ba14l.out)
                have Ba15r := Hid.mk (heap_low hb (Array.getElem?_eq_some_iff.1 Ba14r.out).1 Ba14r.out)
                have Ba15z := Hid.mk (heap_low hb (Array.getElem?_eq_some_iff.1 Ba14z.out).1 Ba14z.out)
                have Ba15x := Hid.mk (heap_low hb (Array.getElem?_eq_some_iff.1 Ba14x.out).1 Ba14x.out)
                have Ba15y := Hid.mk (heap_low hb (Array.getElem?_eq_some_iff.1 Ba14y.out).1 Ba14y.out)
                have Tr15p := Hid.mk (Tr14p.out.keep hb)
                have Tr15q := Hid.mk (Tr14q.out.keep hb)
                have Tr15l := Hid.mk (Tr14l.out.keep hb)
                have Tr15r := Hid.mk (Tr14r.out.keep hb)
                have Tr15z := Hid.mk (Tr14z.out.keep hb)
                have Tr15x := Hid.mk (Tr14x.out.keep hb)
                have Tr15y := Hid.mk (Tr14y.out.keep hb)
                clear HB14 HX14 Ba14a Ba14b Ba14c Ba14p Ba14q Ba14l Ba14r Ba14z Ba14x Ba14y Tr14p Tr14q Tr14l Tr14r Tr14z Tr14x Tr14y
                clear hb
                have x0 := cell_of_row _ _ 0 _ _ _ Ba15y.out
                have x1 := cell_of_row _ _ 1 _ _ _ Ba15y.out
                have x2 := cell_of_row _ _ 2 _ _ _ Ba15y.out
                have x3 := cell_of_row _ _ 3 _ _ _ Ba15y.out
                have x4 := cell_of_row _ _ 4 _ _ _ Ba15y.out
                have y0 := cell_of_row _ _ 0 _ _ _ Ba15a.out
                have y1 := cell_of_row _ _ 1 _ _ _ Ba15a.out
                have y2 := cell_of_row _ _ 2 _ _ _ Ba15a.out
                have y3 := cell_of_row _ _ 3 _ _ _ Ba15a.out
                have y4 := cell_of_row _ _ 4 _ _ _ Ba15a.out
                go_wp2_with fail
                refine (w_LikeS (none_mg SMa.out.obj) _ _ _ Tr15y.out (HTa.out.keep HB15.out)).mono ?_
                rintro e z2 ⟨rfl, hb⟩
                clear x0 x1 x2 x3 x4 y0 y1 y2 y3 y4
                have HB16 := Hid.mk (below_more HB15.out hb)
                have HX16 : Hid (w.heap.size + 3 ≤ z2.heap.size) := Nat.le_trans HX15.out hb.size
                have Ba16a := Hid.mk (heap_low hb (Array.getElem?_eq_some_iff.1 Ba15a.out).1 Ba15a.out)
                have Ba16b := Hid.mk (heap_low hb (Array.getElem?_eq_some_iff.1 Ba15b.out).1 Ba15b.out)
                have Ba16c := Hid.mk (heap_low hb (Array.getElem?_eq_some_iff.1 Ba15c.out).1 Ba15c.out)
                have Ba16p := Hid.mk (heap_low hb (Array.getElem?_eq_some_iff.1 Ba15p.out).1 Ba15p.out)
                have Ba16q := Hid.mk (heap_low hb (Array.getElem?_eq_some_iff.1 Ba15q.out).1 Ba15q.out)
                have Ba16l := Hid.mk (heap_low hb (Array.getElem?_eq_some_iff.1 Ba15l.out).1 Ba15l.out)
                have Ba16r := Hid.mk (heap_low hb (Array.getElem?_eq_some_iff.1 Ba15r.out).1 Ba15r.out)
                have Ba16z := Hid.mk (heap_low hb (Array.getElem?_eq_some_iff.1 Ba15z.out).1 Ba15z.out)
                have Ba16x := Hid.mk (heap_low hb (Array.getElem?_eq_some_iff.1 Ba15x.out).1 Ba15x.out)
                have Ba16y := Hid.mk (heap_low hb (Array.getElem?_eq_some_iff.1 Ba15y.out).1 Ba15y.out)
                have Tr16p := Hid.mk (Tr15p.out.keep hb)
                have Tr16q := Hid.mk (Tr15q.out.keep hb)
                have Tr16l := Hid.mk (Tr15l.out.keep hb)
                have Tr16r := Hid.mk (Tr15r.out.keep hb)
                have Tr16z := Hid.mk (Tr15z.out.keep hb)
                have Tr16x := Hid.mk (Tr15x.out.keep hb)
                have Tr16y := Hid.mk (Tr15y.out.keep hb)
                clear HB15 HX15 Ba15a Ba15b Ba15c Ba15p Ba15q Ba15l Ba15r Ba15z Ba15x Ba15y Tr15p Tr15q Tr15l Tr15r Tr15z Tr15x Tr15y
                clear hb
                go_wp2_with fail
                have HSS : Hid (∀ u, Below z2.heap.size z2 u → u.cell? ⟨w.heap.size, 4, none⟩ = some (.slice koa Ka kca) ∧ u.cell? ⟨w.heap.size + 1, 4, none⟩ = some (.slice kob Kb kcb)) := fun u hu => ⟨cell_of_row _ _ 4 _ _ _ (heap_low hu (Array.getElem?_eq_some_iff.1 Ba16a.out).1 Ba16a.out), cell_of_row _ _ 4 _ _ _ (heap_low hu (Array.getElem?_eq_some_iff.1 Ba16b.out).1 Ba16b.out)⟩
                have HD := Hid.mk ((Below.refl z2.heap.size z2).drew)
                refine wp_region_held_drew (S := fun u => u.cell? ⟨w.heap.size, 4, none⟩ = some (.slice koa Ka kca) ∧ u.cell? ⟨w.heap.size + 1, 4, none⟩ = some (.slice kob Kb kcb)) (by kernel_rfl) (HSS.out _ HD.out) (fun hHeld => ?_)
                refine wpAnyH_take (i := 0) (oi := _) (v := .pointer (some ⟨w.heap.size, 4, none⟩)) rfl (by kernel_rfl) (by kernel_rfl) (by kernel_rfl) (fun _ _ _ h => h) (Or.inl ⟨by rfl, ?_⟩) (by assumption) ?_
                · intro w hSw
                  go_simp
                try simp only [Act.put, List.setIfInBounds_toArray, List.set_cons_zero, List.set_cons_succ]
                refine wpAnyH_take (i := 1) (oi := _) (v := .slice koa Ka kca) rfl (by kernel_rfl) (by kernel_rfl) (by kernel_rfl) (fun _ _ _ h => h) (Or.inl ⟨by rfl, ?_⟩) (by assumption) ?_
                · intro w hSw
                  go_simp
                try simp only [Act.put, List.setIfInBounds_toArray, List.set_cons_zero, List.set_cons_succ]
                refine wpAnyH_take (i := 3) (oi := _) (v := .pointer (some ⟨w.heap.size + 1, 4, none⟩)) rfl (by kernel_rfl) (by kernel_rfl) (by kernel_rfl) (fun _ _ _ h => h) (Or.inl ⟨by rfl, ?_⟩) (by assumption) ?_
                · intro w hSw
                  go_simp
                try simp only [Act.put, List.setIfInBounds_toArray, List.set_cons_zero, List.set_cons_succ]
                refine wpAnyH_take (i := 4) (oi := _) (v := .slice kob Kb kcb) rfl (by kernel_rfl) (by kernel_rfl) (by kernel_rfl) (fun _ _ _ h => h) (Or.inl ⟨by rfl, ?_⟩) (by assumption) ?_
                · intro w hSw
                  go_simp
                try simp only [Act.put, List.setIfInBounds_toArray, List.set_cons_zero, List.set_cons_succ]
                refine wpAnyH_ready (rs := [2]) (by kernel_rfl) (by simp) ?_
                refine AllReadyH.cons (o := _) rfl (fun K hK => ?_) AllReadyH.nil
                go_simp
                go_at_call 9
                refine (w_rRoomyKeys koa _ _ A.keys _ (HKa.out.keep (below_more HB16.out HD.out)) HOa.out HCa.out.2 (by omega)).mono ?_
                rintro e u ⟨so, sc, rfl, HQ⟩
                obtain ⟨hb, hown⟩ := HQ.out
                have hbu : Below z2.heap.size z2 u := HD.out.trans hb
                have HU := Hid.mk hbu
                have HW := Hid.mk hown
                have HG : Hid (z2.heap.size ≤ u.heap.size) := hbu.size
                clear hb hbu HQ
                clear hown
                go_wp2_with fail
                refine hK.out _ _ (HSS.out _ HU.out) (fun hHeld => ?_)
                clear hK K
                try simp only [Act.put, List.setIfInBounds_toArray, List.set_cons_zero, List.set_cons_succ]
                refine wpAnyH_ready (rs := [5]) (by kernel_rfl) (by simp) ?_
                refine AllReadyH.cons (o := _) rfl (fun K hK => ?_) AllReadyH.nil
                have hkb := HKb.out.keep (below_more HB16.out HU.out)
                refine step_append_rowM (by rfl) _ _ 23 (by rfl) z2.heap.size 9 j0 (.string ⟨#[]⟩) 1 16 Try.underlying23 hj0 hy0 hy1 hy2 rfl (by decide) (.slice so Ka sc) Ka (A.keys.map .string) (by rfl) HW.out kob Kb kcb (B.keys.map .string) (by rfl) (by rw [List.length_map, HOb.out, Nat.mul_one]) (fun e => by rw [← HOb.out]; exact kin_nil hkb e) (kin_news hkb) (by intro u hu; obtain ⟨s, _, rfl⟩ := List.mem_map.1 hu; rfl) (by unfold maxLen; omega) (by omega) HG.out ?_
                intro v' w6 hown6 hgrow6 _
                have hb6 : Below z2.heap.size z2 w6 := HU.out.grown hgrow6 HG.out (fun r e => (own_lowV HW.out e).1)
                obtain ⟨so14, c14, hv6⟩ := own_shapeV hown6
                subst hv6
                rw [← List.map_append] at hown6
                obtain ⟨hk6, lk14⟩ := kin_own hown6 (by rw [List.length_append, HOa.out, HOb.out])
                have HKK := Hid.mk hk6
                clear hkb hk6
                have HU6 := Hid.mk hb6
                refine hK.out _ _ (HSS.out _ HU6.out) (fun hHeld => ?_)
                clear hK K hown6 hgrow6 HU HW HG
                try simp only [Act.put, List.setIfInBounds_toArray, List.set_cons_zero, List.set_cons_succ]
                refine wpAnyH_ready (rs := [6]) (by kernel_rfl) (by simp) ?_
                refine AllReadyH.cons (o := _) rfl (fun K hK => ?_) AllReadyH.nil
                go_simp
                refine hK.out _ _ (HSS.out _ HU6.out) (fun hHeld => ?_)
                clear hK K
                try simp only [Act.put, List.setIfInBounds_toArray, List.set_cons_zero, List.set_cons_succ]
                refine wpAnyH_done (by kernel_rfl) ?_ _
                obtain ⟨Y14, hY14⟩ : ∃ W, w6 = W := ⟨_, rfl⟩
                rw [hY14] at hb6 HKK
                rw [hY14]
                skip
                clear HU6 HSS HD
                try clear hHeld
                have HB17 := Hid.mk (below_more HB16.out hb6)
                have HX17 : Hid (w.heap.size + 3 ≤ Y14.heap.size) := Nat.le_trans HX16.out hb6.size
                have Ba17a := Hid.mk (heap_low hb6 (Array.getElem?_eq_some_iff.1 Ba16a.out).1 Ba16a.out)
                have Ba17b := Hid.mk (heap_low hb6 (Array.getElem?_eq_some_iff.1 Ba16b.out).1 Ba16b.out)
                have Ba17c := Hid.mk (heap_low hb6 (Array.getElem?_eq_some_iff.1 Ba16c.out).1 Ba16c.out)
                have Ba17p := Hid.mk (heap_low hb6 (Array.getElem?_eq_some_iff.1 Ba16p.out).1 Ba16p.out)
                have Ba17q := Hid.mk (heap_low hb6 (Array.getElem?_eq_some_iff.1 Ba16q.out).1 Ba16q.out)
                have Ba17l := Hid.mk (heap_low hb6 (Array.getElem?_eq_some_iff.1 Ba16l.out).1 Ba16l.out)
                have Ba17r := Hid.mk (heap_low hb6 (Array.getElem?_eq_some_iff.1 Ba16r.out).1 Ba16r.out)
                have Ba17z := Hid.mk (heap_low hb6 (Array.getElem?_eq_some_iff.1 Ba16z.out).1 Ba16z.out)
                have Ba17x := Hid.mk (heap_low hb6 (Array.getElem?_eq_some_iff.1 Ba16x.out).1 Ba16x.out)
                have Ba17y := Hid.mk (heap_low hb6 (Array.getElem?_eq_some_iff.1 Ba16y.out).1 Ba16y.out)
                have Tr17p := Hid.mk (Tr16p.out.keep hb6)
                have Tr17q := Hid.mk (Tr16q.out.keep hb6)
                have Tr17l := Hid.mk (Tr16l.out.keep hb6)
                have Tr17r := Hid.mk (Tr16r.out.keep hb6)
                have Tr17z := Hid.mk (Tr16z.out.keep hb6)
                have Tr17x := Hid.mk (Tr16x.out.keep hb6)
                have Tr17y := Hid.mk (Tr16y.out.keep hb6)
                clear HB16 HX16 Ba16a Ba16b Ba16c Ba16p Ba16q Ba16l Ba16r Ba16z Ba16x Ba16y Tr16p Tr16q Tr16l Tr16r Tr16z Tr16x Tr16y
                clear hb6
                go_wp2_with fail
                have HSS : Hid (∀ u, Below Y14.heap.size Y14 u → u.cell? ⟨w.heap.size, 3, none⟩ = some (.slice ioa Ka ica) ∧ u.cell? ⟨w.heap.size + 1, 3, none⟩ = some (.slice iob Kb icb)) := fun u hu => ⟨cell_of_row _ _ 3 _ _ _ (heap_low hu (Array.getElem?_eq_some_iff.1 Ba17a.out).1 Ba17a.out), cell_of_row _ _ 3 _ _ _ (heap_low hu (Array.getElem?_eq_some_iff.1 Ba17b.out).1 Ba17b.out)⟩
                have HD := Hid.mk ((Below.refl Y14.heap.size Y14).drew)
                refine wp_region_held_drew (S := fun u => u.cell? ⟨w.heap.size, 3, none⟩ = some (.slice ioa Ka ica) ∧ u.cell? ⟨w.heap.size + 1, 3, none⟩ = some (.slice iob Kb icb)) (by kernel_rfl) (HSS.out _ HD.out) (fun hHeld => ?_)
                refine wpAnyH_take (i := 0) (oi := _) (v := .pointer (some ⟨w.heap.size, 3, none⟩)) rfl (by kernel_rfl) (by kernel_rfl) (by kernel_rfl) (fun _ _ _ h => h) (Or.inl ⟨by rfl, ?_⟩) (by assumption) ?_
                · intro w hSw
                  go_simp
                try simp only [Act.put, List.setIfInBounds_toArray, List.set_cons_zero, List.set_cons_succ]
                refine wpAnyH_take (i := 1) (oi := _) (v := .slice ioa Ka ica) rfl (by kernel_rfl) (by kernel_rfl) (by kernel_rfl) (fun _ _ _ h => h) (Or.inl ⟨by rfl, ?_⟩) (by assumption) ?_
                · intro w hSw
                  go_simp
                try simp only [Act.put, List.setIfInBounds_toArray, List.set_cons_zero, List.set_cons_succ]
                refine wpAnyH_take (i := 3) (oi := _) (v := .pointer (some ⟨w.heap.size + 1, 3, none⟩)) rfl (by kernel_rfl) (by kernel_rfl) (by kernel_rfl) (fun _ _ _ h => h) (Or.inl ⟨by rfl, ?_⟩) (by assumption) ?_
                · intro w hSw
                  go_simp
                try simp only [Act.put, List.setIfInBounds_toArray, List.set_cons_zero, List.set_cons_succ]
                refine wpAnyH_take (i := 4) (oi := _) (v := .slice iob Kb icb) rfl (by kernel_rfl) (by kernel_rfl) (by kernel_rfl) (fun _ _ _ h => h) (Or.inl ⟨by rfl, ?_⟩) (by assumption) ?_
                · intro w hSw
                  go_simp
                try simp only [Act.put, List.setIfInBounds_toArray, List.set_cons_zero, List.set_cons_succ]
                refine wpAnyH_ready (rs := [2]) (by kernel_rfl) (by simp) ?_
                refine AllReadyH.cons (o := _) rfl (fun K hK => ?_) AllReadyH.nil
                go_simp
                go_at_call 10
                refine (w_rRoomyItems h (w_rRoomy h) ioa _ _ A.items _ (HIa.out.keep (below_more HB17.out HD.out)) HNa.out HCa.out.1 (by omega) HZZa.out).mono ?_
                rintro e u ⟨so, sc, c, rfl, HQ⟩
                obtain ⟨hb, hror⟩ := HQ.out
                have hown := hror.own
                have HR := Hid.mk hror
                have hbu : Below Y14.heap.size Y14 u := HD.out.trans hb
                have HU := Hid.mk hbu
                have HW := Hid.mk hown
                have HG : Hid (Y14.heap.size ≤ u.heap.size) := hbu.size
                clear hb hbu HQ hror
                clear hown
                go_wp2_with fail
                refine hK.out _ _ (HSS.out _ HU.out) (fun hHeld => ?_)
                clear hK K
                try simp only [Act.put, List.setIfInBounds_toArray, List.set_cons_zero, List.set_cons_succ]
                refine wpAnyH_ready (rs := [5]) (by kernel_rfl) (by simp) ?_
                refine AllReadyH.cons (o := _) rfl (fun K hK => ?_) AllReadyH.nil
                obtain ⟨cb, hcb, hcb1⟩ := iin_newsN HIb.out HNb.out
                have HCB := Hid.mk hcb
                refine step_append_rowM (by rfl) _ _ 22 (by rfl) Y14.heap.size 25 i0 (.agg #[.int .i64 0, .string ⟨#[]⟩, .string ⟨#[]⟩, .slice none 0 0, .slice none 0 0]) 5 88 Try.underlying22 hi0 hz0 hz1 hz2 rfl (by decide) (.slice so Ka sc) Ka (flat c Ka) (by rfl) HW.out iob Kb icb (flat cb Kb) (by rfl) (flat_lenV _ _) (fun e => by rw [← HNb.out]; exact iin_nil HIb.out e) (hcb u (below_more HB17.out HU.out)).1 hcb1 (by unfold maxLen; omega) (by omega) HG.out ?_
                intro v' w6 hown6 hgrow6 _
                have hb6 : Below Y14.heap.size Y14 w6 := HU.out.grown hgrow6 HG.out (fun r e => (own_lowV HW.out e).1)
                have hY : w6.ownsRow Y14.heap.size 25 5 v' (Ka + B.items.length) (flat c Ka ++ flat cb B.items.length) := by rw [HNb.out]; exact hown6
                obtain ⟨so15, c15, hv6, lk15, hk6⟩ := iin_two HR.out (fun i hi => (HCB.out w6 (below_more HB17.out hb6)).2 i hi) hY hgrow6
                subst hv6
                rw [HNb.out] at lk15 ⊢
                have HII := Hid.mk hk6
                clear hk6 hY HCB HR
                have HU6 := Hid.mk hb6
                refine hK.out _ _ (HSS.out _ HU6.out) (fun hHeld => ?_)
                clear hK K hown6 hgrow6 HU HW HG
                try simp only [Act.put, List.setIfInBounds_toArray, List.set_cons_zero, List.set_cons_succ]
                refine wpAnyH_ready (rs := [6]) (by kernel_rfl) (by simp) ?_
                refine AllReadyH.cons (o := _) rfl (fun K hK => ?_) AllReadyH.nil
                go_simp
                refine hK.out _ _ (HSS.out _ HU6.out) (fun hHeld => ?_)
                clear hK K
                try simp only [Act.put, List.setIfInBounds_toArray, List.set_cons_zero, List.set_cons_succ]
                refine wpAnyH_done (by kernel_rfl) ?_ _
                obtain ⟨Y15, hY15⟩ : ∃ W, w6 = W := ⟨_, rfl⟩
                rw [hY15] at hb6 HII
                rw [hY15]
                skip
                clear HU6 HSS HD
                try clear hHeld
                have HKK := Hid.mk (HKK.out.keep hb6)
                have HB18 := Hid.mk (below_more HB17.out hb6)
                have HX18 : Hid (w.heap.size + 3 ≤ Y15.heap.size) := Nat.le_trans HX17.out hb6.size
                have Ba18a := Hid.mk (heap_low hb6 (Array.getElem?_eq_some_iff.1 Ba17a.out).1 Ba17a.out)
                have Ba18b := Hid.mk (heap_low hb6 (Array.getElem?_eq_some_iff.1 Ba17b.out).1 Ba17b.out)
                have Ba18c := Hid.mk (heap_low hb6 (Array.getElem?_eq_some_iff.1 Ba17c.out).1 Ba17c.out)
                have Ba18p := Hid.mk (heap_low hb6 (Array.getElem?_eq_some_iff.1 Ba17p.out).1 Ba17p.out)
                have Ba18q := Hid.mk (heap_low hb6 (Array.getElem?_eq_some_iff.1 Ba17q.out).1 Ba17q.out)
                have Ba18l := Hid.mk (heap_low hb6 (Array.getElem?_eq_some_iff.1 Ba17l.out).1 Ba17l.out)
                have Ba18r := Hid.mk (heap_low hb6 (Array.getElem?_eq_some_iff.1 Ba17r.out).1 Ba17r.out)
                have Ba18z := Hid.mk (heap_low hb6 (Array.getElem?_eq_some_iff.1 Ba17z.out).1 Ba17z.out)
                have Ba18x := Hid.mk (heap_low hb6 (Array.getElem?_eq_some_iff.1 Ba17x.out).1 Ba17x.out)
                have Ba18y := Hid.mk (heap_low hb6 (Array.getElem?_eq_some_iff.1 Ba17y.out).1 Ba17y.out)
                have Tr18p := Hid.mk (Tr17p.out.keep hb6)
                have Tr18q := Hid.mk (Tr17q.out.keep hb6)
                have Tr18l := Hid.mk (Tr17l.out.keep hb6)
                have Tr18r := Hid.mk (Tr17r.out.keep hb6)
                have Tr18z := Hid.mk (Tr17z.out.keep hb6)
                have Tr18x := Hid.mk (Tr17x.out.keep hb6)
                have Tr18y := Hid.mk (Tr17y.out.keep hb6)
                clear HB17 HX17 Ba17a Ba17b Ba17c Ba17p Ba17q Ba17l Ba17r Ba17z Ba17x Ba17y Tr17p Tr17q Tr17l Tr17r Tr17z Tr17x Tr17y
                clear hb6
                go_wp2_with fail
                refine (w_MakeS SMa.out SMb.out (by omega) (Ka + Kb) so14 c14 so15 c15 _ HKK.out HII.out (by rw [HOa.out, HOb.out]) lk14 lk15 (fun k hk => (List.mem_append.1 hk).elim (HSa.out k) (HSb.out k))).mono ?_
                rintro e v16 ⟨ko, no, to, ioo, No, ico, koo, Ko, kco, rfl, HQ⟩
                obtain ⟨hT, hb⟩ := HQ.out
                have HB19 := Hid.mk (below_more HB18.out hb)
                have HX19 : Hid (w.heap.size + 3 ≤ v16.heap.size) := Nat.le_trans HX18.out hb.size
                have Ba19a := Hid.mk (heap_low hb (Array.getElem?_eq_some_iff.1 Ba18a.out).1 Ba18a.out)
                have Ba19b := Hid.mk (heap_low hb (Array.getElem?_eq_some_iff.1 Ba18b.out).1 Ba18b.out)
                have Ba19c := Hid.mk (heap_low hb (Array.getElem?_eq_some_iff.1 Ba18c.out).1 Ba18c.out)
                have Ba19p := Hid.mk (heap_low hb (Array.getElem?_eq_some_iff.1 Ba18p.out).1 Ba18p.out)
                have Ba19q := Hid.mk (heap_low hb (Array.getElem?_eq_some_iff.1 Ba18q.out).1 Ba18q.out)
                have Ba19l := Hid.mk (heap_low hb (Array.getElem?_eq_some_iff.1 Ba18l.out).1 Ba18l.out)
                have Ba19r := Hid.mk (heap_low hb (Array.getElem?_eq_some_iff.1 Ba18r.out).1 Ba18r.out)
                have Ba19z := Hid.mk (heap_low hb (Array.getElem?_eq_some_iff.1 Ba18z.out).1 Ba18z.out)
                have Ba19x := Hid.mk (heap_low hb (Array.getElem?_eq_some_iff.1 Ba18x.out).1 Ba18x.out)
                have Ba19y := Hid.mk (heap_low hb (Array.getElem?_eq_some_iff.1 Ba18y.out).1 Ba18y.out)
                have Tr19p := Hid.mk (Tr18p.out.keep hb)
                have Tr19q := Hid.mk (Tr18q.out.keep hb)
                have Tr19l := Hid.mk (Tr18l.out.keep hb)
                have Tr19r := Hid.mk (Tr18r.out.keep hb)
                have Tr19z := Hid.mk (Tr18z.out.keep hb)
                have Tr19x := Hid.mk (Tr18x.out.keep hb)
                have Tr19y := Hid.mk (Tr18y.out.keep hb)
                clear HB18 HX18 Ba18a Ba18b Ba18c Ba18p Ba18q Ba18l Ba18r Ba18z Ba18x Ba18y Tr18p Tr18q Tr18l Tr18r Tr18z Tr18x Tr18y
                have Tr19o := Hid.mk hT
                clear hT hb HQ
                go_upto_region 17 with fail
                obtain ⟨W16, hW⟩ : ∃ W, v16.alloc (.cells #[.int .i64 ko, .string no, .string to, .slice ioo No ico, .slice koo Ko kco] 25) = W := ⟨_, rfl⟩
                have hbW : Below v16.heap.size v16 W16 := by rw [← hW]; exact below1 _ _
                have hnew : W16.heap[v16.heap.size]? = some (.cells #[.int .i64 ko, .string no, .string to, .slice ioo No ico, .slice koo Ko kco] 25 (0, 0)) := by rw [← hW]; exact heap_alloc_new _ _
                rw [hW]
                have HB20 := Hid.mk (below_more HB19.out hbW)
                have HX20 : Hid (w.heap.size + 3 ≤ W16.heap.size) := Nat.le_trans HX19.out hbW.size
                have Ba20a := Hid.mk (heap_low hbW (Array.getElem?_eq_some_iff.1 Ba19a.out).1 Ba19a.out)
                have Ba20b := Hid.mk (heap_low hbW (Array.getElem?_eq_some_iff.1 Ba19b.out).1 Ba19b.out)
                have Ba20c := Hid.mk (heap_low hbW (Array.getElem?_eq_some_iff.1 Ba19c.out).1 Ba19c.out)
                have Ba20p := Hid.mk (heap_low hbW (Array.getElem?_eq_some_iff.1 Ba19p.out).1 Ba19p.out)
                have Ba20q := Hid.mk (heap_low hbW (Array.getElem?_eq_some_iff.1 Ba19q.out).1 Ba19q.out)
                have Ba20l := Hid.mk (heap_low hbW (Array.getElem?_eq_some_iff.1 Ba19l.out).1 Ba19l.out)
                have Ba20r := Hid.mk (heap_low hbW (Array.getElem?_eq_some_iff.1 Ba19r.out).1 Ba19r.out)
                have Ba20z := Hid.mk (heap_low hbW (Array.getElem?_eq_some_iff.1 Ba19z.out).1 Ba19z.out)
                have Ba20x := Hid.mk (heap_low hbW (Array.getElem?_eq_some_iff.1 Ba19x.out).1 Ba19x.out)
                have Ba20y := Hid.mk (heap_low hbW (Array.getElem?_eq_some_iff.1 Ba19y.out).1 Ba19y.out)
                have Tr20p := Hid.mk (Tr19p.out.keep hbW)
                have Tr20q := Hid.mk (Tr19q.out.keep hbW)
                have Tr20l := Hid.mk (Tr19l.out.keep hbW)
                have Tr20r := Hid.mk (Tr19r.out.keep hbW)
                have Tr20z := Hid.mk (Tr19z.out.keep hbW)
                have Tr20x := Hid.mk (Tr19x.out.keep hbW)
                have Tr20y := Hid.mk (Tr19y.out.keep hbW)
                have Tr20o := Hid.mk (Tr19o.out.keep hbW)
                clear HB19 HX19 Ba19a Ba19b Ba19c Ba19p Ba19q Ba19l Ba19r Ba19z Ba19x Ba19y Tr19p Tr19q Tr19l Tr19r Tr19z Tr19x Tr19y Tr19o
                have Ba20o := Hid.mk hnew
                clear hW hbW hnew
                have x0 := cell_of_row _ _ 0 _ _ _ Ba20o.out
                have x1 := cell_of_row _ _ 1 _ _ _ Ba20o.out
                have x2 := cell_of_row _ _ 2 _ _ _ Ba20o.out
                have x3 := cell_of_row _ _ 3 _ _ _ Ba20o.out
                have x4 := cell_of_row _ _ 4 _ _ _ Ba20o.out
                have y0 := cell_of_row _ _ 0 _ _ _ Ba20q.out
                have y1 := cell_of_row _ _ 1 _ _ _ Ba20q.out
                have y2 := cell_of_row _ _ 2 _ _ _ Ba20q.out
                have y3 := cell_of_row _ _ 3 _ _ _ Ba20q.out
                have y4 := cell_of_row _ _ 4 _ _ _ Ba20q.out
                go_wp2_with fail
                refine (w_LikeS rfl _ _ _ Tr20o.out Tr20q.out).mono ?_
                rintro e z9 ⟨rfl, hb⟩
                clear x0 x1 x2 x3 x4 y0 y1 y2 y3 y4
                have HB21 := Hid.mk (below_more HB20.out hb)
                have HX21 : Hid (w.heap.size + 3 ≤ z9.heap.size) := Nat.le_trans HX20.out hb.size
                have Ba21a := Hid.mk (heap_low hb (Array.getElem?_eq_some_iff.1 Ba20a.out).1 Ba20a.out)
                have Ba21b := Hid.mk (heap_low hb (Array.getElem?_eq_some_iff.1 Ba20b.out).1 Ba20b.out)
                have Ba21c := Hid.mk (heap_low hb (Array.getElem?_eq_some_iff.1 Ba20c.out).1 Ba20c.out)
                have Ba21p := Hid.mk (heap_low hb (Array.getElem?_eq_some_iff.1 Ba20p.out).1 Ba20p.out)
                have Ba21q := Hid.mk (heap_low hb (Array.getElem?_eq_some_iff.1 Ba20q.out).1 Ba20q.out)
                have Ba21l := Hid.mk (heap_low hb (Array.getElem?_eq_some_iff.1 Ba20l.out).1 Ba20l.out)
                have Ba21r := Hid.mk (heap_low hb (Array.getElem?_eq_some_iff.1 Ba20r.out).1 Ba20r.out)
                have Ba21z := Hid.mk (heap_low hb (Array.getElem?_eq_some_iff.1 Ba20z.out).1 Ba20z.out)
                have Ba21x := Hid.mk (heap_low hb (Array.getElem?_eq_some_iff.1 Ba20x.out).1 Ba20x.out)
                have Ba21y := Hid.mk (heap_low hb (Array.getElem?_eq_some_iff.1 Ba20y.out).1 Ba20y.out)
                have Ba21o := Hid.mk (heap_low hb (Array.getElem?_eq_some_iff.1 Ba20o.out).1 Ba20o.out)
                have Tr21p := Hid.mk (Tr20p.out.keep hb)
                have Tr21q := Hid.mk (Tr20q.out.keep hb)
                have Tr21l := Hid.mk (Tr20l.out.keep hb)
                have Tr21r := Hid.mk (Tr20r.out.keep hb)
                have Tr21z := Hid.mk (Tr20z.out.keep hb)
                have Tr21x := Hid.mk (Tr20x.out.keep hb)
                have Tr21y := Hid.mk (Tr20y.out.keep hb)
                have Tr21o := Hid.mk (Tr20o.out.keep hb)
                clear HB20 HX20 Ba20a Ba20b Ba20c Ba20p Ba20q Ba20l Ba20r Ba20z Ba20x Ba20y Ba20o Tr20p Tr20q Tr20l Tr20r Tr20z Tr20x Tr20y Tr20o
                clear hb
                go_wp2_with fail
                go_ret
                exact ⟨rfl, HB21.out⟩
end Go.Proofs.Ytoidodippmgbpaa
