import Derived.Test.YtdjleoglphgdgaaGreatDoorM42
namespace Go.Proofs.YtdjleoglphgdgaaGreatDoor
open Go.RowKit Go.Shelf Go.Sort
set_option linter.unusedVariables false
set_option linter.unusedSimpArgs false
attribute [local go_sem] Oper.semAt_some

set_option maxRecDepth 100000 in
set_option maxHeartbeats 6400000 in
theorem fr_c3 (h : Nat) (ih : FrOk h) (aat : Int) (atx : ByteArray) (aV : VT) (aN : List ByteArray) (aI : List NT) (va : Value) (w : World) (hA : InA w (h + 1) (NT.mk 3 aat atx aV aN aI) va)  : Calls Tryz.prog 10 #[va] w fun e w' => e = .returned (.bool (frN (h + 1) (NT.mk 3 aat atx aV aN aI))) ∧ Below w.heap.size w w' := by
  have hA0 := hA
  obtain ⟨aio, aic, ayo, ayc, ano, anc, ako, akc, rfl, a1, a2, a3, a4, hna, hka⟩ := hA
  simp only [NT.op, NT.at_, NT.text, NT.value, NT.names, NT.kids] at *
  obtain ⟨R, HR⟩ : ∃ R, Hid (frN (h + 1) (NT.mk 3 aat atx aV aN aI) = R) := ⟨_, rfl⟩
  rw [HR.out]
  have HR2 : Hid (R = (kdO 3 && !(decide ((aI.length : Int) < kdL 3)) && !(decide (0 ≤ kdM 3) && decide (kdM 3 < (aI.length : Int))) && nsB 3 aN && (if nmO 3 then plainW atx.data.toList else decide (atx = .empty)) && (if 3 = 2 then coB (h + 1) aV else sq aV vt0) && !((decide (3 = 3) && decide (aI.length % 2 = 0)) || (decide (3 = 5) && decide (aI.length % 2 = 1))) && ((List.range aI.length).all fun i => rkB (frN h) 3 i (aI.getD i nn0)) && decide (emN 3 aI aI.length < 2))) := by
    show _ = _
    rw [← HR.out, frN]
    rfl
  have HPm : Hid (∀ u, Below w.heap.size w u → Calls Tryz.prog 19 #[.agg #[.int .i64 3, .int .i64 aat, .string atx, .int .i64 aV.kind, .string aV.num, .string aV.text, .slice aio aV.items.length aic, .slice ayo aV.keys.length ayc, .slice ano aN.length anc, .slice ako aI.length akc]] u fun e w' => e = .returned (.bool (nsB 3 aN)) ∧ Below u.heap.size u w') := fun u hu => w_paramR h (NT.mk 3 aat atx aV aN aI) _ u (hA0.low hu)
  have HPl : Hid (∀ u, Calls Tryz.prog 21 #[.string atx] u fun e w' => e = .returned (.bool (plainW atx.data.toList)) ∧ w' = u) := fun u => w_rPlain atx u a1
  have HKd := Hid.mk (fun u => w_kidsR 3 u)
  have HNm := Hid.mk (fun u => w_namedR 3 u)
  have HCo : Hid (∀ u, Below w.heap.size w u → Calls Tryz.prog 22 #[.agg #[.int .i64 aV.kind, .string aV.num, .string aV.text, .slice aio aV.items.length aic, .slice ayo aV.keys.length ayc]] u fun e w' => e = .returned (.bool (coB (h + 1) aV)) ∧ Below u.heap.size u w') := fun u hu => w_constR h aV _ u (a2.toH.keep hu)
  have HAl : Hid (∀ u, Below w.heap.size w u → Calls Tryz.prog 23 #[.agg #[.int .i64 aV.kind, .string aV.num, .string aV.text, .slice aio aV.items.length aic, .slice ayo aV.keys.length ayc], .agg #[.int .i64 0, .string ⟨#[]⟩, .string ⟨#[]⟩, .slice none 0 0, .slice none 0 0]] u fun e w' => e = .returned (.bool (sq aV vt0)) ∧ Below u.heap.size u w') := fun u hu => w_rAlike (h + 1) aV vt0 _ _ u (a2.toH.keep hu) (inH_0 u h)
  have HI : Hid (∀ (k : Nat) (h1 : k < aI.length), ∃ (b off : Nat) (kat : Int) (ktx kvn kvx : ByteArray) (kio : Option Addr) (k6 c6 : Nat) (kyo : Option Addr) (k7 c7 : Nat) (kno : Option Addr) (k8 c8 : Nat) (kko : Option Addr) (k9 c9 : Nat), ako = some ⟨b, off, none⟩ ∧ ∀ u, Below w.heap.size w u → u.cell? ⟨b, off + k * 10, none⟩ = some (.int .i64 aI[k].op) ∧ u.cell? ⟨b, off + k * 10 + 1, none⟩ = some (.int .i64 kat) ∧ u.cell? ⟨b, off + k * 10 + 2, none⟩ = some (.string ktx) ∧ u.cell? ⟨b, off + k * 10 + 3, none⟩ = some (.int .i64 aI[k].value.kind) ∧ u.cell? ⟨b, off + k * 10 + 4, none⟩ = some (.string kvn) ∧ u.cell? ⟨b, off + k * 10 + 5, none⟩ = some (.string kvx) ∧ u.cell? ⟨b, off + k * 10 + 6, none⟩ = some (.slice kio k6 c6) ∧ u.cell? ⟨b, off + k * 10 + 7, none⟩ = some (.slice kyo k7 c7) ∧ u.cell? ⟨b, off + k * 10 + 8, none⟩ = some (.slice kno k8 c8) ∧ u.cell? ⟨b, off + k * 10 + 9, none⟩ = some (.slice kko k9 c9) ∧
      Calls Tryz.prog 10 #[.agg #[.int .i64 aI[k].op, .int .i64 kat, .string ktx, .int .i64 aI[k].value.kind, .string kvn, .string kvx, .slice kio k6 c6, .slice kyo k7 c7, .slice kno k8 c8, .slice kko k9 c9]] u (fun e w' => e = .returned (.bool (frN h aI[k])) ∧ Below u.heap.size u w') ∧ Calls Tryz.prog 24 #[.agg #[.int .i64 aI[k].op, .int .i64 kat, .string ktx, .int .i64 aI[k].value.kind, .string kvn, .string kvx, .slice kio k6 c6, .slice kyo k7 c7, .slice kno k8 c8, .slice kko k9 c9]] u (fun e w' => e = .returned (.bool (sq (noA aI[k]) (noA nn0))) ∧ Below u.heap.size u w')) := fun k h1 => by
    obtain ⟨b, off, q1, _, hl1, hr1⟩ := hka (by omega)
    obtain ⟨c, p, i1⟩ := hr1 k h1
    obtain ⟨h', hh⟩ : ∃ h', h = h' + 1 := by
      cases h with
      | zero => exact i1.elim
      | succ n => exact ⟨n, rfl⟩
    have i2 := i1
    rw [hh] at i2
    have i3 := i2
    obtain ⟨kio, c6, kyo, c7, kno, c8, kko, c9, ev, _⟩ := i3
    rw [ev] at i1 i2
    simp [ndV] at ev
    obtain ⟨z0, z1, z2, z3, z4, z5, z6, z7, z8, z9⟩ := ev
    have cc : ∀ u, Below w.heap.size w u → ∀ g o v v', v = v' → g < w.heap.size → w.cell? ⟨g, o, none⟩ = some v → u.cell? ⟨g, o, none⟩ = some v' := fun u hu g o v v' e hg h => by rw [← e]; exact (hu.cell (p := ⟨g, o, none⟩) hg).trans h
    refine ⟨b, off, aI[k].at_, aI[k].text, aI[k].value.num, aI[k].value.text, kio, aI[k].value.items.length, c6, kyo, aI[k].value.keys.length, c7, kno, aI[k].names.length, c8, kko, aI[k].kids.length, c9, q1, fun u hu => ?_⟩
    exact ⟨cc u hu _ _ _ _ z0 hl1 (p 0), cc u hu _ _ _ _ z1 hl1 (p 1), cc u hu _ _ _ _ z2 hl1 (p 2), cc u hu _ _ _ _ z3 hl1 (p 3), cc u hu _ _ _ _ z4 hl1 (p 4), cc u hu _ _ _ _ z5 hl1 (p 5), cc u hu _ _ _ _ z6 hl1 (p 6), cc u hu _ _ _ _ z7 hl1 (p 7), cc u hu _ _ _ _ z8 hl1 (p 8), cc u hu _ _ _ _ z9 hl1 (p 9), ih _ _ u (InN.low i1 hu), w_noneR h' _ _ u (InN.low i2 hu)⟩
  have hcap := a4.1
  have hbig := a4.2
  clear a1 a2 a3 a4 hna hka hA0 HR
  generalize hpp : (fun i => rkB (frN h) 3 i (aI.getD i nn0)) = p at *
  have HPp : Hid (∀ k (h1 : k < aI.length), p k = (slB 3 k aI[k] || (frN h aI[k] && !(decide (3 = 3) && decide (k % 2 = 0) && (!decide (aI[k].op = 2) || !decide (aI[k].value.kind = 4)))))) := fun k h1 => by
    rw [← hpp]
    show rkB (frN h) 3 k (aI.getD k nn0) = _
    rw [getD_kid h1]
    rfl
  have HEm : Hid (∀ k (h1 : k < aI.length), emN 3 aI (k + 1) = emN 3 aI k + (if slB 3 k aI[k] then 1 else 0)) := fun k h1 => by
    rw [emN, getD_kid h1]
  have HSl : Hid (∀ k (h1 : k < aI.length), slB 3 k aI[k] = (decide (3 = 8) && decide (0 < k) && sq (noA aI[k]) (noA nn0))) := fun k h1 => rfl
  clear hpp
  generalize nsB 3 aN = pB at *
  generalize plainW atx.data.toList = tB at *
  generalize coB (h + 1) aV = co at *
  generalize sq aV vt0 = al at *
  generalize aV.kind = avk at *
  generalize aV.num = avn at *
  generalize aV.text = avx at *
  generalize aV.items.length = avi at *
  generalize aV.keys.length = avy at *
  generalize aN.length = ann at *
  obtain ⟨N, hN⟩ : ∃ N, N = aI.length := ⟨_, rfl⟩
  rw [← hN] at hbig hcap ⊢
  rw [← hN] at HPm HR2
  have HN := Hid.mk hN
  clear hN
  obtain ⟨W1, hW1⟩ : ∃ W1, w.alloc (.cells #[.int .i64 3, .int .i64 aat, .string atx, .int .i64 avk, .string avn, .string avx, .slice aio avi aic, .slice ayo avy ayc, .slice ano ann anc, .slice ako N akc] 28) = W1 := ⟨_, rfl⟩
  have HX := Hid.mk (B1.new hW1)
  have x0 := HX.out.ca (j := 0) rfl
  have x1 := HX.out.ca (j := 1) rfl
  have x2 := HX.out.ca (j := 2) rfl
  have x3 := HX.out.ca (j := 3) rfl
  have x4 := HX.out.ca (j := 4) rfl
  have x5 := HX.out.ca (j := 5) rfl
  have x6 := HX.out.ca (j := 6) rfl
  have x7 := HX.out.ca (j := 7) rfl
  have x8 := HX.out.ca (j := 8) rfl
  have x9 := HX.out.ca (j := 9) rfl
  rw [show kdO 3 = true from rfl, show kdL 3 = 3 from rfl, show kdM 3 = (-1) from rfl] at HKd HR2
  rw [show nmO 3 = false from rfl] at HNm HR2
  go_enter Tryz.func10, Tryz.ntmps10
  go_wp2_with fail
  refine (HKd.out _).mono ?_
  rintro e w1 ⟨rfl, hw1⟩
  obtain rfl := hw1.symm
  clear hW1 HKd
  by_cases l1 : (N : Int) < 3
  · have dl : decide ((N : Int) < 3) = true := by rw [decide_eq_true_iff]; exact l1
    have HT : Hid (R = false) := by
      show _ = _
      rw [HR2.out]
      simp [l1]
    go_wp2_with fail
    go_ret
    exact ⟨by rw [HT.out]; rfl, HX.out.below⟩
  have dl : decide ((N : Int) < 3) = false := by rw [decide_eq_false_iff_not]; exact l1
  have L1 := Hid.mk dl
  go_wp2_with fail
  refine (HPm.out _ HX.out.below).mono ?_
  rintro e w2 ⟨rfl, hb2⟩
  have HX2 := Hid.mk (HX.out.keep hb2)
  clear x0 x1 x2 x3 x4 x5 x6 x7 x8 x9
  have y0 := HX2.out.ca (j := 0) rfl
  have y1 := HX2.out.ca (j := 1) rfl
  have y2 := HX2.out.ca (j := 2) rfl
  have y3 := HX2.out.ca (j := 3) rfl
  have y4 := HX2.out.ca (j := 4) rfl
  have y5 := HX2.out.ca (j := 5) rfl
  have y6 := HX2.out.ca (j := 6) rfl
  have y7 := HX2.out.ca (j := 7) rfl
  have y8 := HX2.out.ca (j := 8) rfl
  have y9 := HX2.out.ca (j := 9) rfl
  clear hb2 HPm
  cases pB with
  | false =>
    have HT : Hid (R = false) := by
      show _ = _
      rw [HR2.out]
      simp [L1.out]
    go_wp2_with fail
    go_ret
    exact ⟨by rw [HT.out]; rfl, HX2.out.below⟩
  | true =>
    go_wp2_with fail
    refine (HNm.out _).mono ?_
    rintro e w5 ⟨rfl, hw5⟩
    obtain rfl := hw5.symm
    go_wp2_with fail
    refine (HNm.out _).mono ?_
    rintro e w5 ⟨rfl, hw5⟩
    obtain rfl := hw5.symm
    by_cases te : atx = .empty
    · subst te
      have TX : Hid True := trivial
      go_wp2_with fail
      refine (HAl.out _ HX2.out.below).mono ?_
      rintro e w3 ⟨rfl, hb3⟩
      have HX3 := Hid.mk (HX2.out.keep hb3)
      clear y0 y1 y2 y3 y4 y5 y6 y7 y8 y9
      have z0 := HX3.out.ca (j := 0) rfl
      have z9 := HX3.out.ca (j := 9) rfl
      clear hb3 HAl HCo
      cases al with
      | false =>
        have HT : Hid (R = false) := by
          show _ = _
          rw [HR2.out]
          simp [L1.out]
        go_wp2_with fail
        go_ret
        exact ⟨by rw [HT.out]; rfl, HX3.out.below⟩
      | true =>
        by_cases pr : N % 2 = 0
        · have pr2 : ((N : Int) % 2 == 0) = true := by
            have : (N : Int) % 2 = 0 := by omega
            rw [this]; rfl
          have HT : Hid (R = false) := by
            show _ = _
            rw [HR2.out]
            simp [pr]
          go_wp2_with fail
          go_ret
          exact ⟨by rw [HT.out]; rfl, HX3.out.below⟩
        have pr2 : ((N : Int) % 2 == 0) = false := by rw [beq_eq_false_iff_ne]; omega
        have HRl : Hid (R = ((List.range N).all p && decide (emN 3 aI N < 2))) := by
          show _ = _
          rw [HR2.out]
          simp [L1.out, pr, TX.out]
        clear HR2 HNm HPl
        go_wp2_with fail
        clear z0 z9
        go_loopw [7, 6] (fun i m wr => ∃ k : Nat, k ≤ N ∧ i = .int .i64 (k : Int) ∧ m = .int .i64 (emN 3 aI k : Int) ∧ Hid ((List.range k).all p = true) ∧ Hid (B1 w #[.int .i64 3, .int .i64 aat, .string ByteArray.empty, .int .i64 avk, .string avn, .string avx, .slice aio avi aic, .slice ayo avy ayc, .slice ano ann anc, .slice ako N akc] 28 wr)) (fun i _ _ => N - (intOf i).toNat)
        case atStart => exact ⟨0, Nat.zero_le _, rfl, rfl, rfl, HX3⟩
        case round =>
          obtain ⟨k, hk, rfl, rfl, HQ, HBw⟩ := hrel
          have t0 := HBw.out.ca (j := 0) rfl
          have t9 := HBw.out.ca (j := 9) rfl
          have hem := emN_le 3 aI k
          by_cases hlt : k < N
          · have hl1 : (k : Int) < (N : Int) := by omega
            have hl0 : (0 : Int) ≤ (k : Int) := by omega
            have hkx : k < aI.length := by rw [← HN.out]; exact hlt
            obtain ⟨b, off, kat, ktx, kvn, kvx, kio, k6, c6, kyo, k7, c7, kno, k8, c8, kko, k9, c9, qq1, HCj⟩ := HI.out k hkx
            rw [qq1] at t9
            obtain ⟨u0, u1, u2, u3, u4, u5, u6, u7, u8, u9, _, _⟩ := HCj wr HBw.out.below
            have HFk : Hid (∀ u, Below w.heap.size w u → Calls Tryz.prog 10 #[.agg #[.int .i64 aI[k].op, .int .i64 kat, .string ktx, .int .i64 aI[k].value.kind, .string kvn, .string kvx, .slice kio k6 c6, .slice kyo k7 c7, .slice kno k8 c8, .slice kko k9 c9]] u (fun e w' => e = .returned (.bool (frN h aI[k])) ∧ Below u.heap.size u w')) := fun u hu => (HCj u hu).2.2.2.2.2.2.2.2.2.2.1
            have HNk : Hid (∀ u, Below w.heap.size w u → Calls Tryz.prog 24 #[.agg #[.int .i64 aI[k].op, .int .i64 kat, .string ktx, .int .i64 aI[k].value.kind, .string kvn, .string kvx, .slice kio k6 c6, .slice kyo k7 c7, .slice kno k8 c8, .slice kko k9 c9]] u (fun e w' => e = .returned (.bool (sq (noA aI[k]) (noA nn0))) ∧ Below u.heap.size u w')) := fun u hu => (HCj u hu).2.2.2.2.2.2.2.2.2.2.2
            have HP := Hid.mk (HPp.out k hkx)
            have HE := Hid.mk (HEm.out k hkx)
            have HS := Hid.mk (HSl.out k hkx)
            have HUp : Hid (p k = true → (List.range (k + 1)).all p = true) := fun hp => ks_up HQ.out hp
            have HNo : Hid (p k = false → (List.range N).all p = false) := fun hp => ks_no hlt hp
            rw [HS.out] at HP HE
            clear HS HCj qq1
            generalize frN h aI[k] = y at *
            generalize sq (noA aI[k]) (noA nn0) = r at *
            generalize aI[k].op = ko at *
            generalize aI[k].value.kind = kk at *
            obtain ⟨m2, hm2⟩ : ∃ m2, emN 3 aI (k + 1) = m2 := ⟨_, rfl⟩
            rw [hm2] at HE
            have HM2 := Hid.mk hm2
            clear hm2
            generalize emN 3 aI k = m at *
            generalize p k = pk at *
            clear hkx
            obtain ⟨W2, hW2⟩ : ∃ W2, wr.alloc (.cells #[.int .i64 ko, .int .i64 kat, .string ktx, .int .i64 kk, .string kvn, .string kvx, .slice kio k6 c6, .slice kyo k7 c7, .slice kno k8 c8, .slice kko k9 c9] 28) = W2 := ⟨_, rfl⟩
            have HK2 := Hid.mk (B1.new hW2)
            have HB2 := Hid.mk (HBw.out.keep HK2.out.below)
            have v0 := HK2.out.ca (j := 0) rfl
            have v1 := HK2.out.ca (j := 1) rfl
            have v2 := HK2.out.ca (j := 2) rfl
            have v3 := HK2.out.ca (j := 3) rfl
            have v4 := HK2.out.ca (j := 4) rfl
            have v5 := HK2.out.ca (j := 5) rfl
            have v6 := HK2.out.ca (j := 6) rfl
            have v7 := HK2.out.ca (j := 7) rfl
            have v8 := HK2.out.ca (j := 8) rfl
            have v9 := HK2.out.ca (j := 9) rfl
            have s0 := HB2.out.ca (j := 0) rfl
            go_wp2_with fail
            refine (HFk.out _ HB2.out.below).mono ?_
            rintro e w4 ⟨rfl, hb4⟩
            have HB4 := Hid.mk (HB2.out.keep hb4)
            have HK4 := Hid.mk (HK2.out.keep hb4)
            have i0 := HB4.out.ca (j := 0) rfl
            have j0 := HK4.out.ca (j := 0) rfl
            have j3 := HK4.out.ca (j := 3) rfl
            clear hb4
            cases y with
            | false =>
              have HT : Hid (R = false) := by
                show _ = _
                rw [HRl.out, HNo.out (HP.out.trans (by simp))]
                rfl
              go_wp2_with fail
              go_ret
              exact ⟨by rw [HT.out]; rfl, HB4.out.below⟩
            | true =>
              by_cases hp : k % 2 = 0
              · have hp2 : ((k : Int) % 2 == 0) = true := by
                  have : (k : Int) % 2 = 0 := by omega
                  rw [this]; rfl
                by_cases o2 : ko = 2
                · subst o2
                  by_cases o4 : kk = 4
                  · subst o4
                    have HU := Hid.mk (HUp.out (HP.out.trans (by simp [hp])))
                    have HM : Hid (m2 = m) := HE.out.trans (by simp [hp])
                    go_wp2_with fail
                    go_roundw
                    case rel => exact ⟨k + 1, by omega, by go_num, by rw [HM2.out, HM.out]; first | done | rfl | go_num, HU, HB4⟩
                    case measure => simp [intOf]; omega
                  · have o4b : (kk != 4) = true := by simpa using o4
                    have HT : Hid (R = false) := by
                      show _ = _
                      rw [HRl.out, HNo.out (HP.out.trans (by simp [hp, o4]))]
                      rfl
                    go_wp2_with fail
                    go_ret
                    exact ⟨by rw [HT.out]; rfl, HB4.out.below⟩
                · have o2b : (ko != 2) = true := by simpa using o2
                  have HT : Hid (R = false) := by
                    show _ = _
                    rw [HRl.out, HNo.out (HP.out.trans (by simp [hp, o2]))]
                    rfl
                  go_wp2_with fail
                  go_ret
                  exact ⟨by rw [HT.out]; rfl, HB4.out.below⟩
              · have hp2 : ((k : Int) % 2 == 0) = false := by rw [beq_eq_false_iff_ne]; omega
                have HU := Hid.mk (HUp.out (HP.out.trans (by simp [hp])))
                have HM : Hid (m2 = m) := HE.out.trans (by simp [hp])
                go_wp2_with fail
                go_roundw
                case rel => exact ⟨k + 1, by omega, by go_num, by rw [HM2.out, HM.out]; first | done | rfl | go_num, HU, HB4⟩
                case measure => simp [intOf]; omega
          · have hl1 : ¬ (k : Int) < (N : Int) := by omega
            have hkN : k = N := by omega
            have HRq : Hid (R = decide (emN 3 aI k < 2)) := by
              have e := HQ.out
              rw [hkN] at e ⊢
              rw [HRl.out, e]
              rfl
            generalize emN 3 aI k = m at *
            by_cases h2 : m < 2
            · have h2' : (m : Int) < 2 := by omega
              have HT : Hid (R = true) := HRq.out.trans (decide_eq_true h2)
              go_wp2_with fail
              go_ret
              exact ⟨by rw [HT.out]; first | done | rfl, HBw.out.below⟩
            · have h2' : ¬ (m : Int) < 2 := by omega
              have HT : Hid (R = false) := HRq.out.trans (decide_eq_false h2)
              go_wp2_with fail
              go_ret
              exact ⟨by rw [HT.out]; first | done | rfl, HBw.out.below⟩
    · obtain ⟨t1, t2, t3⟩ := ne_bytes te
      have HT : Hid (R = false) := by
        show _ = _
        rw [HR2.out]
        simp [L1.out, te]
      go_wp2_with fail
      go_ret
      exact ⟨by rw [HT.out]; rfl, HX2.out.below⟩

end Go.Proofs.YtdjleoglphgdgaaGreatDoor
namespace Go.Proofs.YtdjleoglphgdgaaGreatDoor
open Go.RowKit Go.Shelf Go.Sort
set_option linter.unusedVariables false
set_option linter.unusedSimpArgs false
attribute [local go_sem] Oper.semAt_some

set_option maxRecDepth 100000 in
set_option maxHeartbeats 6400000 in
theorem fr_c5 (h : Nat) (ih : FrOk h) (aat : Int) (atx : ByteArray) (aV : VT) (aN : List ByteArray) (aI : List NT) (va : Value) (w : World) (hA : InA w (h + 1) (NT.mk 5 aat atx aV aN aI) va)  : Calls Tryz.prog 10 #[va] w fun e w' => e = .returned (.bool (frN (h + 1) (NT.mk 5 aat atx aV aN aI))) ∧ Below w.heap.size w w' := by
  have hA0 := hA
  obtain ⟨aio, aic, ayo, ayc, ano, anc, ako, akc, rfl, a1, a2, a3, a4, hna, hka⟩ := hA
  simp only [NT.op, NT.at_, NT.text, NT.value, NT.names, NT.kids] at *
  obtain ⟨R, HR⟩ : ∃ R, Hid (frN (h + 1) (NT.mk 5 aat atx aV aN aI) = R) := ⟨_, rfl⟩
  rw [HR.out]
  have HR2 : Hid (R = (kdO 5 && !(decide ((aI.length : Int) < kdL 5)) && !(decide (0 ≤ kdM 5) && decide (kdM 5 < (aI.length : Int))) && nsB 5 aN && (if nmO 5 then plainW atx.data.toList else decide (atx = .empty)) && (if 5 = 2 then coB (h + 1) aV else sq aV vt0) && !((decide (5 = 3) && decide (aI.length % 2 = 0)) || (decide (5 = 5) && decide (aI.length % 2 = 1))) && ((List.range aI.length).all fun i => rkB (frN h) 5 i (aI.getD i nn0)) && decide (emN 5 aI aI.length < 2))) := by
    show _ = _
    rw [← HR.out, frN]
    rfl
  have HPm : Hid (∀ u, Below w.heap.size w u → Calls Tryz.prog 19 #[.agg #[.int .i64 5, .int .i64 aat, .string atx, .int .i64 aV.kind, .string aV.num, .string aV.text, .slice aio aV.items.length aic, .slice ayo aV.keys.length ayc, .slice ano aN.length anc, .slice ako aI.length akc]] u fun e w' => e = .returned (.bool (nsB 5 aN)) ∧ Below u.heap.size u w') := fun u hu => w_paramR h (NT.mk 5 aat atx aV aN aI) _ u (hA0.low hu)
  have HPl : Hid (∀ u, Calls Tryz.prog 21 #[.string atx] u fun e w' => e = .returned (.bool (plainW atx.data.toList)) ∧ w' = u) := fun u => w_rPlain atx u a1
  have HKd := Hid.mk (fun u => w_kidsR 5 u)
  have HNm := Hid.mk (fun u => w_namedR 5 u)
  have HCo : Hid (∀ u, Below w.heap.size w u → Calls Tryz.prog 22 #[.agg #[.int .i64 aV.kind, .string aV.num, .string aV.text, .slice aio aV.items.length aic, .slice ayo aV.keys.length ayc]] u fun e w' => e = .returned (.bool (coB (h + 1) aV)) ∧ Below u.heap.size u w') := fun u hu => w_constR h aV _ u (a2.toH.keep hu)
  have HAl : Hid (∀ u, Below w.heap.size w u → Calls Tryz.prog 23 #[.agg #[.int .i64 aV.kind, .string aV.num, .string aV.text, .slice aio aV.items.length aic, .slice ayo aV.keys.length ayc], .agg #[.int .i64 0, .string ⟨#[]⟩, .string ⟨#[]⟩, .slice none 0 0, .slice none 0 0]] u fun e w' => e = .returned (.bool (sq aV vt0)) ∧ Below u.heap.size u w') := fun u hu => w_rAlike (h + 1) aV vt0 _ _ u (a2.toH.keep hu) (inH_0 u h)
  have HI : Hid (∀ (k : Nat) (h1 : k < aI.length), ∃ (b off : Nat) (kat : Int) (ktx kvn kvx : ByteArray) (kio : Option Addr) (k6 c6 : Nat) (kyo : Option Addr) (k7 c7 : Nat) (kno : Option Addr) (k8 c8 : Nat) (kko : Option Addr) (k9 c9 : Nat), ako = some ⟨b, off, none⟩ ∧ ∀ u, Below w.heap.size w u → u.cell? ⟨b, off + k * 10, none⟩ = some (.int .i64 aI[k].op) ∧ u.cell? ⟨b, off + k * 10 + 1, none⟩ = some (.int .i64 kat) ∧ u.cell? ⟨b, off + k * 10 + 2, none⟩ = some (.string ktx) ∧ u.cell? ⟨b, off + k * 10 + 3, none⟩ = some (.int .i64 aI[k].value.kind) ∧ u.cell? ⟨b, off + k * 10 + 4, none⟩ = some (.string kvn) ∧ u.cell? ⟨b, off + k * 10 + 5, none⟩ = some (.string kvx) ∧ u.cell? ⟨b, off + k * 10 + 6, none⟩ = some (.slice kio k6 c6) ∧ u.cell? ⟨b, off + k * 10 + 7, none⟩ = some (.slice kyo k7 c7) ∧ u.cell? ⟨b, off + k * 10 + 8, none⟩ = some (.slice kno k8 c8) ∧ u.cell? ⟨b, off + k * 10 + 9, none⟩ = some (.slice kko k9 c9) ∧
      Calls Tryz.prog 10 #[.agg #[.int .i64 aI[k].op, .int .i64 kat, .string ktx, .int .i64 aI[k].value.kind, .string kvn, .string kvx, .slice kio k6 c6, .slice kyo k7 c7, .slice kno k8 c8, .slice kko k9 c9]] u (fun e w' => e = .returned (.bool (frN h aI[k])) ∧ Below u.heap.size u w') ∧ Calls Tryz.prog 24 #[.agg #[.int .i64 aI[k].op, .int .i64 kat, .string ktx, .int .i64 aI[k].value.kind, .string kvn, .string kvx, .slice kio k6 c6, .slice kyo k7 c7, .slice kno k8 c8, .slice kko k9 c9]] u (fun e w' => e = .returned (.bool (sq (noA aI[k]) (noA nn0))) ∧ Below u.heap.size u w')) := fun k h1 => by
    obtain ⟨b, off, q1, _, hl1, hr1⟩ := hka (by omega)
    obtain ⟨c, p, i1⟩ := hr1 k h1
    obtain ⟨h', hh⟩ : ∃ h', h = h' + 1 := by
      cases h with
      | zero => exact i1.elim
      | succ n => exact ⟨n, rfl⟩
    have i2 := i1
    rw [hh] at i2
    have i3 := i2
    obtain ⟨kio, c6, kyo, c7, kno, c8, kko, c9, ev, _⟩ := i3
    rw [ev] at i1 i2
    simp [ndV] at ev
    obtain ⟨z0, z1, z2, z3, z4, z5, z6, z7, z8, z9⟩ := ev
    have cc : ∀ u, Below w.heap.size w u → ∀ g o v v', v = v' → g < w.heap.size → w.cell? ⟨g, o, none⟩ = some v → u.cell? ⟨g, o, none⟩ = some v' := fun u hu g o v v' e hg h => by rw [← e]; exact (hu.cell (p := ⟨g, o, none⟩) hg).trans h
    refine ⟨b, off, aI[k].at_, aI[k].text, aI[k].value.num, aI[k].value.text, kio, aI[k].value.items.length, c6, kyo, aI[k].value.keys.length, c7, kno, aI[k].names.length, c8, kko, aI[k].kids.length, c9, q1, fun u hu => ?_⟩
    exact ⟨cc u hu _ _ _ _ z0 hl1 (p 0), cc u hu _ _ _ _ z1 hl1 (p 1), cc u hu _ _ _ _ z2 hl1 (p 2), cc u hu _ _ _ _ z3 hl1 (p 3), cc u hu _ _ _ _ z4 hl1 (p 4), cc u hu _ _ _ _ z5 hl1 (p 5), cc u hu _ _ _ _ z6 hl1 (p 6), cc u hu _ _ _ _ z7 hl1 (p 7), cc u hu _ _ _ _ z8 hl1 (p 8), cc u hu _ _ _ _ z9 hl1 (p 9), ih _ _ u (InN.low i1 hu), w_noneR h' _ _ u (InN.low i2 hu)⟩
  have hcap := a4.1
  have hbig := a4.2
  clear a1 a2 a3 a4 hna hka hA0 HR
  generalize hpp : (fun i => rkB (frN h) 5 i (aI.getD i nn0)) = p at *
  have HPp : Hid (∀ k (h1 : k < aI.length), p k = (slB 5 k aI[k] || (frN h aI[k] && !(decide (5 = 3) && decide (k % 2 = 0) && (!decide (aI[k].op = 2) || !decide (aI[k].value.kind = 4)))))) := fun k h1 => by
    rw [← hpp]
    show rkB (frN h) 5 k (aI.getD k nn0) = _
    rw [getD_kid h1]
    rfl
  have HEm : Hid (∀ k (h1 : k < aI.length), emN 5 aI (k + 1) = emN 5 aI k + (if slB 5 k aI[k] then 1 else 0)) := fun k h1 => by
    rw [emN, getD_kid h1]
  have HSl : Hid (∀ k (h1 : k < aI.length), slB 5 k aI[k] = (decide (5 = 8) && decide (0 < k) && sq (noA aI[k]) (noA nn0))) := fun k h1 => rfl
  clear hpp
  generalize nsB 5 aN = pB at *
  generalize plainW atx.data.toList = tB at *
  generalize coB (h + 1) aV = co at *
  generalize sq aV vt0 = al at *
  generalize aV.kind = avk at *
  generalize aV.num = avn at *
  generalize aV.text = avx at *
  generalize aV.items.length = avi at *
  generalize aV.keys.length = avy at *
  generalize aN.length = ann at *
  obtain ⟨N, hN⟩ : ∃ N, N = aI.length := ⟨_, rfl⟩
  rw [← hN] at hbig hcap ⊢
  rw [← hN] at HPm HR2
  have HN := Hid.mk hN
  clear hN
  obtain ⟨W1, hW1⟩ : ∃ W1, w.alloc (.cells #[.int .i64 5, .int .i64 aat, .string atx, .int .i64 avk, .string avn, .string avx, .slice aio avi aic, .slice ayo avy ayc, .slice ano ann anc, .slice ako N akc] 28) = W1 := ⟨_, rfl⟩
  have HX := Hid.mk (B1.new hW1)
  have x0 := HX.out.ca (j := 0) rfl
  have x1 := HX.out.ca (j := 1) rfl
  have x2 := HX.out.ca (j := 2) rfl
  have x3 := HX.out.ca (j := 3) rfl
  have x4 := HX.out.ca (j := 4) rfl
  have x5 := HX.out.ca (j := 5) rfl
  have x6 := HX.out.ca (j := 6) rfl
  have x7 := HX.out.ca (j := 7) rfl
  have x8 := HX.out.ca (j := 8) rfl
  have x9 := HX.out.ca (j := 9) rfl
  rw [show kdO 5 = true from rfl, show kdL 5 = 0 from rfl, show kdM 5 = (-1) from rfl] at HKd HR2
  rw [show nmO 5 = false from rfl] at HNm HR2
  go_enter Tryz.func10, Tryz.ntmps10
  go_wp2_with fail
  refine (HKd.out _).mono ?_
  rintro e w1 ⟨rfl, hw1⟩
  obtain rfl := hw1.symm
  clear hW1 HKd
  have l1 : ¬ (N : Int) < 0 := by omega
  have L1 : Hid (decide ((N : Int) < 0) = false) := by
    show _ = _
    rw [decide_eq_false_iff_not]; exact l1
  go_wp2_with fail
  refine (HPm.out _ HX.out.below).mono ?_
  rintro e w2 ⟨rfl, hb2⟩
  have HX2 := Hid.mk (HX.out.keep hb2)
  clear x0 x1 x2 x3 x4 x5 x6 x7 x8 x9
  have y0 := HX2.out.ca (j := 0) rfl
  have y1 := HX2.out.ca (j := 1) rfl
  have y2 := HX2.out.ca (j := 2) rfl
  have y3 := HX2.out.ca (j := 3) rfl
  have y4 := HX2.out.ca (j := 4) rfl
  have y5 := HX2.out.ca (j := 5) rfl
  have y6 := HX2.out.ca (j := 6) rfl
  have y7 := HX2.out.ca (j := 7) rfl
  have y8 := HX2.out.ca (j := 8) rfl
  have y9 := HX2.out.ca (j := 9) rfl
  clear hb2 HPm
  cases pB with
  | false =>
    have HT : Hid (R = false) := by
      show _ = _
      rw [HR2.out]
      simp [L1.out]
    go_wp2_with fail
    go_ret
    exact ⟨by rw [HT.out]; rfl, HX2.out.below⟩
  | true =>
    go_wp2_with fail
    refine (HNm.out _).mono ?_
    rintro e w5 ⟨rfl, hw5⟩
    obtain rfl := hw5.symm
    go_wp2_with fail
    refine (HNm.out _).mono ?_
    rintro e w5 ⟨rfl, hw5⟩
    obtain rfl := hw5.symm
    by_cases te : atx = .empty
    · subst te
      have TX : Hid True := trivial
      go_wp2_with fail
      refine (HAl.out _ HX2.out.below).mono ?_
      rintro e w3 ⟨rfl, hb3⟩
      have HX3 := Hid.mk (HX2.out.keep hb3)
      clear y0 y1 y2 y3 y4 y5 y6 y7 y8 y9
      have z0 := HX3.out.ca (j := 0) rfl
      have z9 := HX3.out.ca (j := 9) rfl
      clear hb3 HAl HCo
      cases al with
      | false =>
        have HT : Hid (R = false) := by
          show _ = _
          rw [HR2.out]
          simp [L1.out]
        go_wp2_with fail
        go_ret
        exact ⟨by rw [HT.out]; rfl, HX3.out.below⟩
      | true =>
        by_cases pr : N % 2 = 1
        · have pr2 : ((N : Int) % 2 == 1) = true := by
            have : (N : Int) % 2 = 1 := by omega
            rw [this]; rfl
          have HT : Hid (R = false) := by
            show _ = _
            rw [HR2.out]
            simp [pr]
          go_wp2_with fail
          go_ret
          exact ⟨by rw [HT.out]; rfl, HX3.out.below⟩
        have pr2 : ((N : Int) % 2 == 1) = false := by rw [beq_eq_false_iff_ne]; omega
        have HRl : Hid (R = ((List.range N).all p && decide (emN 5 aI N < 2))) := by
          show _ = _
          rw [HR2.out]
          simp [L1.out, pr, TX.out]
        clear HR2 HNm HPl
        go_wp2_with fail
        clear z0 z9
        go_loopw [7, 6] (fun i m wr => ∃ k : Nat, k ≤ N ∧ i = .int .i64 (k : Int) ∧ m = .int .i64 (emN 5 aI k : Int) ∧ Hid ((List.range k).all p = true) ∧ Hid (B1 w #[.int .i64 5, .int .i64 aat, .string ByteArray.empty, .int .i64 avk, .string avn, .string avx, .slice aio avi aic, .slice ayo avy ayc, .slice ano ann anc, .slice ako N akc] 28 wr)) (fun i _ _ => N - (intOf i).toNat)
        case atStart => exact ⟨0, Nat.zero_le _, rfl, rfl, rfl, HX3⟩
        case round =>
          obtain ⟨k, hk, rfl, rfl, HQ, HBw⟩ := hrel
          have t0 := HBw.out.ca (j := 0) rfl
          have t9 := HBw.out.ca (j := 9) rfl
          have hem := emN_le 5 aI k
          by_cases hlt : k < N
          · have hl1 : (k : Int) < (N : Int) := by omega
            have hl0 : (0 : Int) ≤ (k : Int) := by omega
            have hkx : k < aI.length := by rw [← HN.out]; exact hlt
            obtain ⟨b, off, kat, ktx, kvn, kvx, kio, k6, c6, kyo, k7, c7, kno, k8, c8, kko, k9, c9, qq1, HCj⟩ := HI.out k hkx
            rw [qq1] at t9
            obtain ⟨u0, u1, u2, u3, u4, u5, u6, u7, u8, u9, _, _⟩ := HCj wr HBw.out.below
            have HFk : Hid (∀ u, Below w.heap.size w u → Calls Tryz.prog 10 #[.agg #[.int .i64 aI[k].op, .int .i64 kat, .string ktx, .int .i64 aI[k].value.kind, .string kvn, .string kvx, .slice kio k6 c6, .slice kyo k7 c7, .slice kno k8 c8, .slice kko k9 c9]] u (fun e w' => e = .returned (.bool (frN h aI[k])) ∧ Below u.heap.size u w')) := fun u hu => (HCj u hu).2.2.2.2.2.2.2.2.2.2.1
            have HNk : Hid (∀ u, Below w.heap.size w u → Calls Tryz.prog 24 #[.agg #[.int .i64 aI[k].op, .int .i64 kat, .string ktx, .int .i64 aI[k].value.kind, .string kvn, .string kvx, .slice kio k6 c6, .slice kyo k7 c7, .slice kno k8 c8, .slice kko k9 c9]] u (fun e w' => e = .returned (.bool (sq (noA aI[k]) (noA nn0))) ∧ Below u.heap.size u w')) := fun u hu => (HCj u hu).2.2.2.2.2.2.2.2.2.2.2
            have HP := Hid.mk (HPp.out k hkx)
            have HE := Hid.mk (HEm.out k hkx)
            have HS := Hid.mk (HSl.out k hkx)
            have HUp : Hid (p k = true → (List.range (k + 1)).all p = true) := fun hp => ks_up HQ.out hp
            have HNo : Hid (p k = false → (List.range N).all p = false) := fun hp => ks_no hlt hp
            rw [HS.out] at HP HE
            clear HS HCj qq1
            generalize frN h aI[k] = y at *
            generalize sq (noA aI[k]) (noA nn0) = r at *
            generalize aI[k].op = ko at *
            generalize aI[k].value.kind = kk at *
            obtain ⟨m2, hm2⟩ : ∃ m2, emN 5 aI (k + 1) = m2 := ⟨_, rfl⟩
            rw [hm2] at HE
            have HM2 := Hid.mk hm2
            clear hm2
            generalize emN 5 aI k = m at *
            generalize p k = pk at *
            clear hkx
            obtain ⟨W2, hW2⟩ : ∃ W2, wr.alloc (.cells #[.int .i64 ko, .int .i64 kat, .string ktx, .int .i64 kk, .string kvn, .string kvx, .slice kio k6 c6, .slice kyo k7 c7, .slice kno k8 c8, .slice kko k9 c9] 28) = W2 := ⟨_, rfl⟩
            have HK2 := Hid.mk (B1.new hW2)
            have HB2 := Hid.mk (HBw.out.keep HK2.out.below)
            have v0 := HK2.out.ca (j := 0) rfl
            have v1 := HK2.out.ca (j := 1) rfl
            have v2 := HK2.out.ca (j := 2) rfl
            have v3 := HK2.out.ca (j := 3) rfl
            have v4 := HK2.out.ca (j := 4) rfl
            have v5 := HK2.out.ca (j := 5) rfl
            have v6 := HK2.out.ca (j := 6) rfl
            have v7 := HK2.out.ca (j := 7) rfl
            have v8 := HK2.out.ca (j := 8) rfl
            have v9 := HK2.out.ca (j := 9) rfl
            have s0 := HB2.out.ca (j := 0) rfl
            go_wp2_with fail
            refine (HFk.out _ HB2.out.below).mono ?_
            rintro e w4 ⟨rfl, hb4⟩
            have HB4 := Hid.mk (HB2.out.keep hb4)
            have HK4 := Hid.mk (HK2.out.keep hb4)
            have i0 := HB4.out.ca (j := 0) rfl
            have j0 := HK4.out.ca (j := 0) rfl
            have j3 := HK4.out.ca (j := 3) rfl
            clear hb4
            cases y with
            | false =>
              have HT : Hid (R = false) := by
                show _ = _
                rw [HRl.out, HNo.out (HP.out.trans (by simp))]
                rfl
              go_wp2_with fail
              go_ret
              exact ⟨by rw [HT.out]; rfl, HB4.out.below⟩
            | true =>
              have HU := Hid.mk (HUp.out (HP.out.trans (by simp)))
              have HM : Hid (m2 = m) := HE.out.trans (by simp)
              go_wp2_with fail
              go_roundw
              case rel => exact ⟨k + 1, by omega, by go_num, by rw [HM2.out, HM.out]; first | done | rfl | go_num, HU, HB4⟩
              case measure => simp [intOf]; omega
          · have hl1 : ¬ (k : Int) < (N : Int) := by omega
            have hkN : k = N := by omega
            have HRq : Hid (R = decide (emN 5 aI k < 2)) := by
              have e := HQ.out
              rw [hkN] at e ⊢
              rw [HRl.out, e]
              rfl
            generalize emN 5 aI k = m at *
            by_cases h2 : m < 2
            · have h2' : (m : Int) < 2 := by omega
              have HT : Hid (R = true) := HRq.out.trans (decide_eq_true h2)
              go_wp2_with fail
              go_ret
              exact ⟨by rw [HT.out]; first | done | rfl, HBw.out.below⟩
            · have h2' : ¬ (m : Int) < 2 := by omega
              have HT : Hid (R = false) := HRq.out.trans (decide_eq_false h2)
              go_wp2_with fail
              go_ret
              exact ⟨by rw [HT.out]; first | done | rfl, HBw.out.below⟩
    · obtain ⟨t1, t2, t3⟩ := ne_bytes te
      have HT : Hid (R = false) := by
        show _ = _
        rw [HR2.out]
        simp [L1.out, te]
      go_wp2_with fail
      go_ret
      exact ⟨by rw [HT.out]; rfl, HX2.out.below⟩

end Go.Proofs.YtdjleoglphgdgaaGreatDoor
namespace Go.Proofs.YtdjleoglphgdgaaGreatDoor
open Go.RowKit Go.Shelf Go.Sort
set_option linter.unusedVariables false
set_option linter.unusedSimpArgs false
attribute [local go_sem] Oper.semAt_some

set_option maxRecDepth 100000 in
set_option maxHeartbeats 6400000 in
theorem fr_c33 (h : Nat) (ih : FrOk h) (aat : Int) (atx : ByteArray) (aV : VT) (aN : List ByteArray) (aI : List NT) (va : Value) (w : World) (hA : InA w (h + 1) (NT.mk 33 aat atx aV aN aI) va)  : Calls Tryz.prog 10 #[va] w fun e w' => e = .returned (.bool (frN (h + 1) (NT.mk 33 aat atx aV aN aI))) ∧ Below w.heap.size w w' := by
  have hA0 := hA
  obtain ⟨aio, aic, ayo, ayc, ano, anc, ako, akc, rfl, a1, a2, a3, a4, hna, hka⟩ := hA
  simp only [NT.op, NT.at_, NT.text, NT.value, NT.names, NT.kids] at *
  obtain ⟨R, HR⟩ : ∃ R, Hid (frN (h + 1) (NT.mk 33 aat atx aV aN aI) = R) := ⟨_, rfl⟩
  rw [HR.out]
  have HR2 : Hid (R = (kdO 33 && !(decide ((aI.length : Int) < kdL 33)) && !(decide (0 ≤ kdM 33) && decide (kdM 33 < (aI.length : Int))) && nsB 33 aN && (if nmO 33 then plainW atx.data.toList else decide (atx = .empty)) && (if 33 = 2 then coB (h + 1) aV else sq aV vt0) && !((decide (33 = 3) && decide (aI.length % 2 = 0)) || (decide (33 = 5) && decide (aI.length % 2 = 1))) && ((List.range aI.length).all fun i => rkB (frN h) 33 i (aI.getD i nn0)) && decide (emN 33 aI aI.length < 2))) := by
    show _ = _
    rw [← HR.out, frN]
    rfl
  have HPm : Hid (∀ u, Below w.heap.size w u → Calls Tryz.prog 19 #[.agg #[.int .i64 33, .int .i64 aat, .string atx, .int .i64 aV.kind, .string aV.num, .string aV.text, .slice aio aV.items.length aic, .slice ayo aV.keys.length ayc, .slice ano aN.length anc, .slice ako aI.length akc]] u fun e w' => e = .returned (.bool (nsB 33 aN)) ∧ Below u.heap.size u w') := fun u hu => w_paramR h (NT.mk 33 aat atx aV aN aI) _ u (hA0.low hu)
  have HPl : Hid (∀ u, Calls Tryz.prog 21 #[.string atx] u fun e w' => e = .returned (.bool (plainW atx.data.toList)) ∧ w' = u) := fun u => w_rPlain atx u a1
  have HKd := Hid.mk (fun u => w_kidsR 33 u)
  have HNm := Hid.mk (fun u => w_namedR 33 u)
  have HCo : Hid (∀ u, Below w.heap.size w u → Calls Tryz.prog 22 #[.agg #[.int .i64 aV.kind, .string aV.num, .string aV.text, .slice aio aV.items.length aic, .slice ayo aV.keys.length ayc]] u fun e w' => e = .returned (.bool (coB (h + 1) aV)) ∧ Below u.heap.size u w') := fun u hu => w_constR h aV _ u (a2.toH.keep hu)
  have HAl : Hid (∀ u, Below w.heap.size w u → Calls Tryz.prog 23 #[.agg #[.int .i64 aV.kind, .string aV.num, .string aV.text, .slice aio aV.items.length aic, .slice ayo aV.keys.length ayc], .agg #[.int .i64 0, .string ⟨#[]⟩, .string ⟨#[]⟩, .slice none 0 0, .slice none 0 0]] u fun e w' => e = .returned (.bool (sq aV vt0)) ∧ Below u.heap.size u w') := fun u hu => w_rAlike (h + 1) aV vt0 _ _ u (a2.toH.keep hu) (inH_0 u h)
  have HI : Hid (∀ (k : Nat) (h1 : k < aI.length), ∃ (b off : Nat) (kat : Int) (ktx kvn kvx : ByteArray) (kio : Option Addr) (k6 c6 : Nat) (kyo : Option Addr) (k7 c7 : Nat) (kno : Option Addr) (k8 c8 : Nat) (kko : Option Addr) (k9 c9 : Nat), ako = some ⟨b, off, none⟩ ∧ ∀ u, Below w.heap.size w u → u.cell? ⟨b, off + k * 10, none⟩ = some (.int .i64 aI[k].op) ∧ u.cell? ⟨b, off + k * 10 + 1, none⟩ = some (.int .i64 kat) ∧ u.cell? ⟨b, off + k * 10 + 2, none⟩ = some (.string ktx) ∧ u.cell? ⟨b, off + k * 10 + 3, none⟩ = some (.int .i64 aI[k].value.kind) ∧ u.cell? ⟨b, off + k * 10 + 4, none⟩ = some (.string kvn) ∧ u.cell? ⟨b, off + k * 10 + 5, none⟩ = some (.string kvx) ∧ u.cell? ⟨b, off + k * 10 + 6, none⟩ = some (.slice kio k6 c6) ∧ u.cell? ⟨b, off + k * 10 + 7, none⟩ = some (.slice kyo k7 c7) ∧ u.cell? ⟨b, off + k * 10 + 8, none⟩ = some (.slice kno k8 c8) ∧ u.cell? ⟨b, off + k * 10 + 9, none⟩ = some (.slice kko k9 c9) ∧
      Calls Tryz.prog 10 #[.agg #[.int .i64 aI[k].op, .int .i64 kat, .string ktx, .int .i64 aI[k].value.kind, .string kvn, .string kvx, .slice kio k6 c6, .slice kyo k7 c7, .slice kno k8 c8, .slice kko k9 c9]] u (fun e w' => e = .returned (.bool (frN h aI[k])) ∧ Below u.heap.size u w') ∧ Calls Tryz.prog 24 #[.agg #[.int .i64 aI[k].op, .int .i64 kat, .string ktx, .int .i64 aI[k].value.kind, .string kvn, .string kvx, .slice kio k6 c6, .slice kyo k7 c7, .slice kno k8 c8, .slice kko k9 c9]] u (fun e w' => e = .returned (.bool (sq (noA aI[k]) (noA nn0))) ∧ Below u.heap.size u w')) := fun k h1 => by
    obtain ⟨b, off, q1, _, hl1, hr1⟩ := hka (by omega)
    obtain ⟨c, p, i1⟩ := hr1 k h1
    obtain ⟨h', hh⟩ : ∃ h', h = h' + 1 := by
      cases h with
      | zero => exact i1.elim
      | succ n => exact ⟨n, rfl⟩
    have i2 := i1
    rw [hh] at i2
    have i3 := i2
    obtain ⟨kio, c6, kyo, c7, kno, c8, kko, c9, ev, _⟩ := i3
    rw [ev] at i1 i2
    simp [ndV] at ev
    obtain ⟨z0, z1, z2, z3, z4, z5, z6, z7, z8, z9⟩ := ev
    have cc : ∀ u, Below w.heap.size w u → ∀ g o v v', v = v' → g < w.heap.size → w.cell? ⟨g, o, none⟩ = some v → u.cell? ⟨g, o, none⟩ = some v' := fun u hu g o v v' e hg h => by rw [← e]; exact (hu.cell (p := ⟨g, o, none⟩) hg).trans h
    refine ⟨b, off, aI[k].at_, aI[k].text, aI[k].value.num, aI[k].value.text, kio, aI[k].value.items.length, c6, kyo, aI[k].value.keys.length, c7, kno, aI[k].names.length, c8, kko, aI[k].kids.length, c9, q1, fun u hu => ?_⟩
    exact ⟨cc u hu _ _ _ _ z0 hl1 (p 0), cc u hu _ _ _ _ z1 hl1 (p 1), cc u hu _ _ _ _ z2 hl1 (p 2), cc u hu _ _ _ _ z3 hl1 (p 3), cc u hu _ _ _ _ z4 hl1 (p 4), cc u hu _ _ _ _ z5 hl1 (p 5), cc u hu _ _ _ _ z6 hl1 (p 6), cc u hu _ _ _ _ z7 hl1 (p 7), cc u hu _ _ _ _ z8 hl1 (p 8), cc u hu _ _ _ _ z9 hl1 (p 9), ih _ _ u (InN.low i1 hu), w_noneR h' _ _ u (InN.low i2 hu)⟩
  have hcap := a4.1
  have hbig := a4.2
  clear a1 a2 a3 a4 hna hka hA0 HR
  generalize hpp : (fun i => rkB (frN h) 33 i (aI.getD i nn0)) = p at *
  have HPp : Hid (∀ k (h1 : k < aI.length), p k = (slB 33 k aI[k] || (frN h aI[k] && !(decide (33 = 3) && decide (k % 2 = 0) && (!decide (aI[k].op = 2) || !decide (aI[k].value.kind = 4)))))) := fun k h1 => by
    rw [← hpp]
    show rkB (frN h) 33 k (aI.getD k nn0) = _
    rw [getD_kid h1]
    rfl
  have HEm : Hid (∀ k (h1 : k < aI.length), emN 33 aI (k + 1) = emN 33 aI k + (if slB 33 k aI[k] then 1 else 0)) := fun k h1 => by
    rw [emN, getD_kid h1]
  have HSl : Hid (∀ k (h1 : k < aI.length), slB 33 k aI[k] = (decide (33 = 8) && decide (0 < k) && sq (noA aI[k]) (noA nn0))) := fun k h1 => rfl
  clear hpp
  generalize nsB 33 aN = pB at *
  generalize plainW atx.data.toList = tB at *
  generalize coB (h + 1) aV = co at *
  generalize sq aV vt0 = al at *
  generalize aV.kind = avk at *
  generalize aV.num = avn at *
  generalize aV.text = avx at *
  generalize aV.items.length = avi at *
  generalize aV.keys.length = avy at *
  generalize aN.length = ann at *
  obtain ⟨N, hN⟩ : ∃ N, N = aI.length := ⟨_, rfl⟩
  rw [← hN] at hbig hcap ⊢
  rw [← hN] at HPm HR2
  have HN := Hid.mk hN
  clear hN
  obtain ⟨W1, hW1⟩ : ∃ W1, w.alloc (.cells #[.int .i64 33, .int .i64 aat, .string atx, .int .i64 avk, .string avn, .string avx, .slice aio avi aic, .slice ayo avy ayc, .slice ano ann anc, .slice ako N akc] 28) = W1 := ⟨_, rfl⟩
  have HX := Hid.mk (B1.new hW1)
  have x0 := HX.out.ca (j := 0) rfl
  have x1 := HX.out.ca (j := 1) rfl
  have x2 := HX.out.ca (j := 2) rfl
  have x3 := HX.out.ca (j := 3) rfl
  have x4 := HX.out.ca (j := 4) rfl
  have x5 := HX.out.ca (j := 5) rfl
  have x6 := HX.out.ca (j := 6) rfl
  have x7 := HX.out.ca (j := 7) rfl
  have x8 := HX.out.ca (j := 8) rfl
  have x9 := HX.out.ca (j := 9) rfl
  rw [show kdO 33 = true from rfl, show kdL 33 = 0 from rfl, show kdM 33 = (-1) from rfl] at HKd HR2
  rw [show nmO 33 = true from rfl] at HNm HR2
  go_enter Tryz.func10, Tryz.ntmps10
  go_wp2_with fail
  refine (HKd.out _).mono ?_
  rintro e w1 ⟨rfl, hw1⟩
  obtain rfl := hw1.symm
  clear hW1 HKd
  have l1 : ¬ (N : Int) < 0 := by omega
  have L1 : Hid (decide ((N : Int) < 0) = false) := by
    show _ = _
    rw [decide_eq_false_iff_not]; exact l1
  go_wp2_with fail
  refine (HPm.out _ HX.out.below).mono ?_
  rintro e w2 ⟨rfl, hb2⟩
  have HX2 := Hid.mk (HX.out.keep hb2)
  clear x0 x1 x2 x3 x4 x5 x6 x7 x8 x9
  have y0 := HX2.out.ca (j := 0) rfl
  have y1 := HX2.out.ca (j := 1) rfl
  have y2 := HX2.out.ca (j := 2) rfl
  have y3 := HX2.out.ca (j := 3) rfl
  have y4 := HX2.out.ca (j := 4) rfl
  have y5 := HX2.out.ca (j := 5) rfl
  have y6 := HX2.out.ca (j := 6) rfl
  have y7 := HX2.out.ca (j := 7) rfl
  have y8 := HX2.out.ca (j := 8) rfl
  have y9 := HX2.out.ca (j := 9) rfl
  clear hb2 HPm
  cases pB with
  | false =>
    have HT : Hid (R = false) := by
      show _ = _
      rw [HR2.out]
      simp [L1.out]
    go_wp2_with fail
    go_ret
    exact ⟨by rw [HT.out]; rfl, HX2.out.below⟩
  | true =>
    go_wp2_with fail
    refine (HNm.out _).mono ?_
    rintro e w5 ⟨rfl, hw5⟩
    obtain rfl := hw5.symm
    go_wp2_with fail
    refine (HPl.out _).mono ?_
    rintro e w6 ⟨rfl, hw6⟩
    obtain rfl := hw6.symm
    cases tB with
    | false =>
      have HT : Hid (R = false) := by
        show _ = _
        rw [HR2.out]
        simp [L1.out]
      go_wp2_with fail
      go_ret
      exact ⟨by rw [HT.out]; rfl, HX2.out.below⟩
    | true =>
      go_wp2_with fail
      refine (HNm.out _).mono ?_
      rintro e w5 ⟨rfl, hw5⟩
      obtain rfl := hw5.symm
      have TX : Hid True := trivial
      go_wp2_with fail
      refine (HAl.out _ HX2.out.below).mono ?_
      rintro e w3 ⟨rfl, hb3⟩
      have HX3 := Hid.mk (HX2.out.keep hb3)
      clear y0 y1 y2 y3 y4 y5 y6 y7 y8 y9
      have z0 := HX3.out.ca (j := 0) rfl
      have z9 := HX3.out.ca (j := 9) rfl
      clear hb3 HAl HCo
      cases al with
      | false =>
        have HT : Hid (R = false) := by
          show _ = _
          rw [HR2.out]
          simp [L1.out]
        go_wp2_with fail
        go_ret
        exact ⟨by rw [HT.out]; rfl, HX3.out.below⟩
      | true =>
        have HRl : Hid (R = ((List.range N).all p && decide (emN 33 aI N < 2))) := by
          show _ = _
          rw [HR2.out]
          simp [L1.out, TX.out]
        clear HR2 HNm HPl
        go_wp2_with fail
        clear z0 z9
        go_loopw [7, 6] (fun i m wr => ∃ k : Nat, k ≤ N ∧ i = .int .i64 (k : Int) ∧ m = .int .i64 (emN 33 aI k : Int) ∧ Hid ((List.range k).all p = true) ∧ Hid (B1 w #[.int .i64 33, .int .i64 aat, .string atx, .int .i64 avk, .string avn, .string avx, .slice aio avi aic, .slice ayo avy ayc, .slice ano ann anc, .slice ako N akc] 28 wr)) (fun i _ _ => N - (intOf i).toNat)
        case atStart => exact ⟨0, Nat.zero_le _, rfl, rfl, rfl, HX3⟩
        case round =>
          obtain ⟨k, hk, rfl, rfl, HQ, HBw⟩ := hrel
          have t0 := HBw.out.ca (j := 0) rfl
          have t9 := HBw.out.ca (j := 9) rfl
          have hem := emN_le 33 aI k
          by_cases hlt : k < N
          · have hl1 : (k : Int) < (N : Int) := by omega
            have hl0 : (0 : Int) ≤ (k : Int) := by omega
            have hkx : k < aI.length := by rw [← HN.out]; exact hlt
            obtain ⟨b, off, kat, ktx, kvn, kvx, kio, k6, c6, kyo, k7, c7, kno, k8, c8, kko, k9, c9, qq1, HCj⟩ := HI.out k hkx
            rw [qq1] at t9
            obtain ⟨u0, u1, u2, u3, u4, u5, u6, u7, u8, u9, _, _⟩ := HCj wr HBw.out.below
            have HFk : Hid (∀ u, Below w.heap.size w u → Calls Tryz.prog 10 #[.agg #[.int .i64 aI[k].op, .int .i64 kat, .string ktx, .int .i64 aI[k].value.kind, .string kvn, .string kvx, .slice kio k6 c6, .slice kyo k7 c7, .slice kno k8 c8, .slice kko k9 c9]] u (fun e w' => e = .returned (.bool (frN h aI[k])) ∧ Below u.heap.size u w')) := fun u hu => (HCj u hu).2.2.2.2.2.2.2.2.2.2.1
            have HNk : Hid (∀ u, Below w.heap.size w u → Calls Tryz.prog 24 #[.agg #[.int .i64 aI[k].op, .int .i64 kat, .string ktx, .int .i64 aI[k].value.kind, .string kvn, .string kvx, .slice kio k6 c6, .slice kyo k7 c7, .slice kno k8 c8, .slice kko k9 c9]] u (fun e w' => e = .returned (.bool (sq (noA aI[k]) (noA nn0))) ∧ Below u.heap.size u w')) := fun u hu => (HCj u hu).2.2.2.2.2.2.2.2.2.2.2
            have HP := Hid.mk (HPp.out k hkx)
            have HE := Hid.mk (HEm.out k hkx)
            have HS := Hid.mk (HSl.out k hkx)
            have HUp : Hid (p k = true → (List.range (k + 1)).all p = true) := fun hp => ks_up HQ.out hp
            have HNo : Hid (p k = false → (List.range N).all p = false) := fun hp => ks_no hlt hp
            rw [HS.out] at HP HE
            clear HS HCj qq1
            generalize frN h aI[k] = y at *
            generalize sq (noA aI[k]) (noA nn0) = r at *
            generalize aI[k].op = ko at *
            generalize aI[k].value.kind = kk at *
            obtain ⟨m2, hm2⟩ : ∃ m2, emN 33 aI (k + 1) = m2 := ⟨_, rfl⟩
            rw [hm2] at HE
            have HM2 := Hid.mk hm2
            clear hm2
            generalize emN 33 aI k = m at *
            generalize p k = pk at *
            clear hkx
            obtain ⟨W2, hW2⟩ : ∃ W2, wr.alloc (.cells #[.int .i64 ko, .int .i64 kat, .string ktx, .int .i64 kk, .string kvn, .string kvx, .slice kio k6 c6, .slice kyo k7 c7, .slice kno k8 c8, .slice kko k9 c9] 28) = W2 := ⟨_, rfl⟩
            have HK2 := Hid.mk (B1.new hW2)
            have HB2 := Hid.mk (HBw.out.keep HK2.out.below)
            have v0 := HK2.out.ca (j := 0) rfl
            have v1 := HK2.out.ca (j := 1) rfl
            have v2 := HK2.out.ca (j := 2) rfl
            have v3 := HK2.out.ca (j := 3) rfl
            have v4 := HK2.out.ca (j := 4) rfl
            have v5 := HK2.out.ca (j := 5) rfl
            have v6 := HK2.out.ca (j := 6) rfl
            have v7 := HK2.out.ca (j := 7) rfl
            have v8 := HK2.out.ca (j := 8) rfl
            have v9 := HK2.out.ca (j := 9) rfl
            have s0 := HB2.out.ca (j := 0) rfl
            go_wp2_with fail
            refine (HFk.out _ HB2.out.below).mono ?_
            rintro e w4 ⟨rfl, hb4⟩
            have HB4 := Hid.mk (HB2.out.keep hb4)
            have HK4 := Hid.mk (HK2.out.keep hb4)
            have i0 := HB4.out.ca (j := 0) rfl
            have j0 := HK4.out.ca (j := 0) rfl
            have j3 := HK4.out.ca (j := 3) rfl
            clear hb4
            cases y with
            | false =>
              have HT : Hid (R = false) := by
                show _ = _
                rw [HRl.out, HNo.out (HP.out.trans (by simp))]
                rfl
              go_wp2_with fail
              go_ret
              exact ⟨by rw [HT.out]; rfl, HB4.out.below⟩
            | true =>
              have HU := Hid.mk (HUp.out (HP.out.trans (by simp)))
              have HM : Hid (m2 = m) := HE.out.trans (by simp)
              go_wp2_with fail
              go_roundw
              case rel => exact ⟨k + 1, by omega, by go_num, by rw [HM2.out, HM.out]; first | done | rfl | go_num, HU, HB4⟩
              case measure => simp [intOf]; omega
          · have hl1 : ¬ (k : Int) < (N : Int) := by omega
            have hkN : k = N := by omega
            have HRq : Hid (R = decide (emN 33 aI k < 2)) := by
              have e := HQ.out
              rw [hkN] at e ⊢
              rw [HRl.out, e]
              rfl
            generalize emN 33 aI k = m at *
            by_cases h2 : m < 2
            · have h2' : (m : Int) < 2 := by omega
              have HT : Hid (R = true) := HRq.out.trans (decide_eq_true h2)
              go_wp2_with fail
              go_ret
              exact ⟨by rw [HT.out]; first | done | rfl, HBw.out.below⟩
            · have h2' : ¬ (m : Int) < 2 := by omega
              have HT : Hid (R = false) := HRq.out.trans (decide_eq_false h2)
              go_wp2_with fail
              go_ret
              exact ⟨by rw [HT.out]; first | done | rfl, HBw.out.below⟩

end Go.Proofs.YtdjleoglphgdgaaGreatDoor
namespace Go.Proofs.YtdjleoglphgdgaaGreatDoor
open Go.RowKit Go.Shelf Go.Sort
set_option linter.unusedVariables false
set_option linter.unusedSimpArgs false
attribute [local go_sem] Oper.semAt_some

set_option maxRecDepth 100000 in
set_option maxHeartbeats 6400000 in
theorem fr_rest (h : Nat) (ih : FrOk h) (aop aat : Int) (atx : ByteArray) (aV : VT) (aN : List ByteArray) (aI : List NT) (va : Value) (w : World) (hA : InA w (h + 1) (NT.mk aop aat atx aV aN aI) va) (n2 : aop ≠ 2) (n3 : aop ≠ 3) (n5 : aop ≠ 5) (n33 : aop ≠ 33) : Calls Tryz.prog 10 #[va] w fun e w' => e = .returned (.bool (frN (h + 1) (NT.mk aop aat atx aV aN aI))) ∧ Below w.heap.size w w' := by
  have hA0 := hA
  obtain ⟨aio, aic, ayo, ayc, ano, anc, ako, akc, rfl, a1, a2, a3, a4, hna, hka⟩ := hA
  simp only [NT.op, NT.at_, NT.text, NT.value, NT.names, NT.kids] at *
  obtain ⟨R, HR⟩ : ∃ R, Hid (frN (h + 1) (NT.mk aop aat atx aV aN aI) = R) := ⟨_, rfl⟩
  rw [HR.out]
  have HR2 : Hid (R = (kdO aop && !(decide ((aI.length : Int) < kdL aop)) && !(decide (0 ≤ kdM aop) && decide (kdM aop < (aI.length : Int))) && nsB aop aN && (if nmO aop then plainW atx.data.toList else decide (atx = .empty)) && (if aop = 2 then coB (h + 1) aV else sq aV vt0) && !((decide (aop = 3) && decide (aI.length % 2 = 0)) || (decide (aop = 5) && decide (aI.length % 2 = 1))) && ((List.range aI.length).all fun i => rkB (frN h) aop i (aI.getD i nn0)) && decide (emN aop aI aI.length < 2))) := by
    show _ = _
    rw [← HR.out, frN]
    rfl
  have HPm : Hid (∀ u, Below w.heap.size w u → Calls Tryz.prog 19 #[.agg #[.int .i64 aop, .int .i64 aat, .string atx, .int .i64 aV.kind, .string aV.num, .string aV.text, .slice aio aV.items.length aic, .slice ayo aV.keys.length ayc, .slice ano aN.length anc, .slice ako aI.length akc]] u fun e w' => e = .returned (.bool (nsB aop aN)) ∧ Below u.heap.size u w') := fun u hu => w_paramR h (NT.mk aop aat atx aV aN aI) _ u (hA0.low hu)
  have HPl : Hid (∀ u, Calls Tryz.prog 21 #[.string atx] u fun e w' => e = .returned (.bool (plainW atx.data.toList)) ∧ w' = u) := fun u => w_rPlain atx u a1
  have HKd := Hid.mk (fun u => w_kidsR aop u)
  have HNm := Hid.mk (fun u => w_namedR aop u)
  have HCo : Hid (∀ u, Below w.heap.size w u → Calls Tryz.prog 22 #[.agg #[.int .i64 aV.kind, .string aV.num, .string aV.text, .slice aio aV.items.length aic, .slice ayo aV.keys.length ayc]] u fun e w' => e = .returned (.bool (coB (h + 1) aV)) ∧ Below u.heap.size u w') := fun u hu => w_constR h aV _ u (a2.toH.keep hu)
  have HAl : Hid (∀ u, Below w.heap.size w u → Calls Tryz.prog 23 #[.agg #[.int .i64 aV.kind, .string aV.num, .string aV.text, .slice aio aV.items.length aic, .slice ayo aV.keys.length ayc], .agg #[.int .i64 0, .string ⟨#[]⟩, .string ⟨#[]⟩, .slice none 0 0, .slice none 0 0]] u fun e w' => e = .returned (.bool (sq aV vt0)) ∧ Below u.heap.size u w') := fun u hu => w_rAlike (h + 1) aV vt0 _ _ u (a2.toH.keep hu) (inH_0 u h)
  have HI : Hid (∀ (k : Nat) (h1 : k < aI.length), ∃ (b off : Nat) (kat : Int) (ktx kvn kvx : ByteArray) (kio : Option Addr) (k6 c6 : Nat) (kyo : Option Addr) (k7 c7 : Nat) (kno : Option Addr) (k8 c8 : Nat) (kko : Option Addr) (k9 c9 : Nat), ako = some ⟨b, off, none⟩ ∧ ∀ u, Below w.heap.size w u → u.cell? ⟨b, off + k * 10, none⟩ = some (.int .i64 aI[k].op) ∧ u.cell? ⟨b, off + k * 10 + 1, none⟩ = some (.int .i64 kat) ∧ u.cell? ⟨b, off + k * 10 + 2, none⟩ = some (.string ktx) ∧ u.cell? ⟨b, off + k * 10 + 3, none⟩ = some (.int .i64 aI[k].value.kind) ∧ u.cell? ⟨b, off + k * 10 + 4, none⟩ = some (.string kvn) ∧ u.cell? ⟨b, off + k * 10 + 5, none⟩ = some (.string kvx) ∧ u.cell? ⟨b, off + k * 10 + 6, none⟩ = some (.slice kio k6 c6) ∧ u.cell? ⟨b, off + k * 10 + 7, none⟩ = some (.slice kyo k7 c7) ∧ u.cell? ⟨b, off + k * 10 + 8, none⟩ = some (.slice kno k8 c8) ∧ u.cell? ⟨b, off + k * 10 + 9, none⟩ = some (.slice kko k9 c9) ∧
      Calls Tryz.prog 10 #[.agg #[.int .i64 aI[k].op, .int .i64 kat, .string ktx, .int .i64 aI[k].value.kind, .string kvn, .string kvx, .slice kio k6 c6, .slice kyo k7 c7, .slice kno k8 c8, .slice kko k9 c9]] u (fun e w' => e = .returned (.bool (frN h aI[k])) ∧ Below u.heap.size u w') ∧ Calls Tryz.prog 24 #[.agg #[.int .i64 aI[k].op, .int .i64 kat, .string ktx, .int .i64 aI[k].value.kind, .string kvn, .string kvx, .slice kio k6 c6, .slice kyo k7 c7, .slice kno k8 c8, .slice kko k9 c9]] u (fun e w' => e = .returned (.bool (sq (noA aI[k]) (noA nn0))) ∧ Below u.heap.size u w')) := fun k h1 => by
    obtain ⟨b, off, q1, _, hl1, hr1⟩ := hka (by omega)
    obtain ⟨c, p, i1⟩ := hr1 k h1
    obtain ⟨h', hh⟩ : ∃ h', h = h' + 1 := by
      cases h with
      | zero => exact i1.elim
      | succ n => exact ⟨n, rfl⟩
    have i2 := i1
    rw [hh] at i2
    have i3 := i2
    obtain ⟨kio, c6, kyo, c7, kno, c8, kko, c9, ev, _⟩ := i3
    rw [ev] at i1 i2
    simp [ndV] at ev
    obtain ⟨z0, z1, z2, z3, z4, z5, z6, z7, z8, z9⟩ := ev
    have cc : ∀ u, Below w.heap.size w u → ∀ g o v v', v = v' → g < w.heap.size → w.cell? ⟨g, o, none⟩ = some v → u.cell? ⟨g, o, none⟩ = some v' := fun u hu g o v v' e hg h => by rw [← e]; exact (hu.cell (p := ⟨g, o, none⟩) hg).trans h
    refine ⟨b, off, aI[k].at_, aI[k].text, aI[k].value.num, aI[k].value.text, kio, aI[k].value.items.length, c6, kyo, aI[k].value.keys.length, c7, kno, aI[k].names.length, c8, kko, aI[k].kids.length, c9, q1, fun u hu => ?_⟩
    exact ⟨cc u hu _ _ _ _ z0 hl1 (p 0), cc u hu _ _ _ _ z1 hl1 (p 1), cc u hu _ _ _ _ z2 hl1 (p 2), cc u hu _ _ _ _ z3 hl1 (p 3), cc u hu _ _ _ _ z4 hl1 (p 4), cc u hu _ _ _ _ z5 hl1 (p 5), cc u hu _ _ _ _ z6 hl1 (p 6), cc u hu _ _ _ _ z7 hl1 (p 7), cc u hu _ _ _ _ z8 hl1 (p 8), cc u hu _ _ _ _ z9 hl1 (p 9), ih _ _ u (InN.low i1 hu), w_noneR h' _ _ u (InN.low i2 hu)⟩
  have hcap := a4.1
  have hbig := a4.2
  clear a1 a2 a3 a4 hna hka hA0 HR
  generalize hpp : (fun i => rkB (frN h) aop i (aI.getD i nn0)) = p at *
  have HPp : Hid (∀ k (h1 : k < aI.length), p k = (slB aop k aI[k] || (frN h aI[k] && !(decide (aop = 3) && decide (k % 2 = 0) && (!decide (aI[k].op = 2) || !decide (aI[k].value.kind = 4)))))) := fun k h1 => by
    rw [← hpp]
    show rkB (frN h) aop k (aI.getD k nn0) = _
    rw [getD_kid h1]
    rfl
  have HEm : Hid (∀ k (h1 : k < aI.length), emN aop aI (k + 1) = emN aop aI k + (if slB aop k aI[k] then 1 else 0)) := fun k h1 => by
    rw [emN, getD_kid h1]
  have HSl : Hid (∀ k (h1 : k < aI.length), slB aop k aI[k] = (decide (aop = 8) && decide (0 < k) && sq (noA aI[k]) (noA nn0))) := fun k h1 => rfl
  clear hpp
  generalize nsB aop aN = pB at *
  generalize plainW atx.data.toList = tB at *
  generalize coB (h + 1) aV = co at *
  generalize sq aV vt0 = al at *
  generalize aV.kind = avk at *
  generalize aV.num = avn at *
  generalize aV.text = avx at *
  generalize aV.items.length = avi at *
  generalize aV.keys.length = avy at *
  generalize aN.length = ann at *
  obtain ⟨N, hN⟩ : ∃ N, N = aI.length := ⟨_, rfl⟩
  rw [← hN] at hbig hcap ⊢
  rw [← hN] at HPm HR2
  have HN := Hid.mk hN
  clear hN
  obtain ⟨W1, hW1⟩ : ∃ W1, w.alloc (.cells #[.int .i64 aop, .int .i64 aat, .string atx, .int .i64 avk, .string avn, .string avx, .slice aio avi aic, .slice ayo avy ayc, .slice ano ann anc, .slice ako N akc] 28) = W1 := ⟨_, rfl⟩
  have HX := Hid.mk (B1.new hW1)
  have x0 := HX.out.ca (j := 0) rfl
  have x1 := HX.out.ca (j := 1) rfl
  have x2 := HX.out.ca (j := 2) rfl
  have x3 := HX.out.ca (j := 3) rfl
  have x4 := HX.out.ca (j := 4) rfl
  have x5 := HX.out.ca (j := 5) rfl
  have x6 := HX.out.ca (j := 6) rfl
  have x7 := HX.out.ca (j := 7) rfl
  have x8 := HX.out.ca (j := 8) rfl
  have x9 := HX.out.ca (j := 9) rfl
  have hmo := mo_pos n3 n5 n33
  generalize kdO aop = ok at *
  generalize kdL aop = lo at *
  generalize kdM aop = mo at *
  generalize nmO aop = nm at *
  have b2 : (aop == 2) = false := by rw [beq_eq_false_iff_ne]; exact n2
  have b2' : (aop != 2) = true := by simpa using n2
  have b3 : (aop == 3) = false := by rw [beq_eq_false_iff_ne]; exact n3
  have b5 : (aop == 5) = false := by rw [beq_eq_false_iff_ne]; exact n5
  have HR3 : Hid (R = (ok && !(decide ((N : Int) < lo)) && !(decide (0 ≤ mo) && decide (mo < (N : Int))) && pB && (if nm then tB else decide (atx = .empty)) && al && ((List.range N).all p) && decide (emN aop aI N < 2))) := by
    show _ = _
    rw [HR2.out]
    simp [n2, n3, n5]
  clear HR2
  have HR2 := HR3
  clear HR3
  have N2 := Hid.mk n2
  have N3 := Hid.mk n3
  clear n2 n3 n5 n33
  go_enter Tryz.func10, Tryz.ntmps10
  go_wp2_with fail
  refine (HKd.out _).mono ?_
  rintro e w1 ⟨rfl, hw1⟩
  obtain rfl := hw1.symm
  clear hW1 HKd
  cases ok with
  | false =>
    have HT : Hid (R = false) := by
      show _ = _
      rw [HR2.out]
      simp []
    go_wp2_with fail
    go_ret
    exact ⟨by rw [HT.out]; rfl, HX.out.below⟩
  | true =>
    by_cases l1 : (N : Int) < lo
    · have dl : decide ((N : Int) < lo) = true := by rw [decide_eq_true_iff]; exact l1
      have HT : Hid (R = false) := by
        show _ = _
        rw [HR2.out]
        simp [l1]
      go_wp2_with fail
      go_ret
      exact ⟨by rw [HT.out]; rfl, HX.out.below⟩
    have dl : decide ((N : Int) < lo) = false := by rw [decide_eq_false_iff_not]; exact l1
    have L1 := Hid.mk dl
    by_cases m1 : mo < (N : Int)
    · have dm : decide ((N : Int) > mo) = true := by rw [decide_eq_true_iff]; exact m1
      have dm0 : decide (mo ≥ (0 : Int)) = true := by rw [decide_eq_true_iff]; omega
      have HT : Hid (R = false) := by
        show _ = _
        rw [HR2.out]
        simp [m1, hmo]
      go_wp2_with fail
      go_ret
      exact ⟨by rw [HT.out]; rfl, HX.out.below⟩
    have dm : decide ((N : Int) > mo) = false := by rw [decide_eq_false_iff_not]; exact m1
    have dm0 : decide (mo ≥ (0 : Int)) = true := by rw [decide_eq_true_iff]; omega
    have M1 : Hid (decide (mo < (N : Int)) = false) := dm
    go_wp2_with fail
    refine (HPm.out _ HX.out.below).mono ?_
    rintro e w2 ⟨rfl, hb2⟩
    have HX2 := Hid.mk (HX.out.keep hb2)
    clear x0 x1 x2 x3 x4 x5 x6 x7 x8 x9
    have y0 := HX2.out.ca (j := 0) rfl
    have y1 := HX2.out.ca (j := 1) rfl
    have y2 := HX2.out.ca (j := 2) rfl
    have y3 := HX2.out.ca (j := 3) rfl
    have y4 := HX2.out.ca (j := 4) rfl
    have y5 := HX2.out.ca (j := 5) rfl
    have y6 := HX2.out.ca (j := 6) rfl
    have y7 := HX2.out.ca (j := 7) rfl
    have y8 := HX2.out.ca (j := 8) rfl
    have y9 := HX2.out.ca (j := 9) rfl
    clear hb2 HPm
    cases pB with
    | false =>
      have HT : Hid (R = false) := by
        show _ = _
        rw [HR2.out]
        simp [L1.out, M1.out]
      go_wp2_with fail
      go_ret
      exact ⟨by rw [HT.out]; rfl, HX2.out.below⟩
    | true =>
      cases nm with
      | true =>
        go_wp2_with fail
        refine (HNm.out _).mono ?_
        rintro e w5 ⟨rfl, hw5⟩
        obtain rfl := hw5.symm
        go_wp2_with fail
        refine (HPl.out _).mono ?_
        rintro e w6 ⟨rfl, hw6⟩
        obtain rfl := hw6.symm
        cases tB with
        | false =>
          have HT : Hid (R = false) := by
            show _ = _
            rw [HR2.out]
            simp [L1.out, M1.out]
          go_wp2_with fail
          go_ret
          exact ⟨by rw [HT.out]; rfl, HX2.out.below⟩
        | true =>
          go_wp2_with fail
          refine (HNm.out _).mono ?_
          rintro e w5 ⟨rfl, hw5⟩
          obtain rfl := hw5.symm
          have TX : Hid True := trivial
          go_wp2_with fail
          refine (HAl.out _ HX2.out.below).mono ?_
          rintro e w3 ⟨rfl, hb3⟩
          have HX3 := Hid.mk (HX2.out.keep hb3)
          clear y0 y1 y2 y3 y4 y5 y6 y7 y8 y9
          have z0 := HX3.out.ca (j := 0) rfl
          have z9 := HX3.out.ca (j := 9) rfl
          clear hb3 HAl HCo
          cases al with
          | false =>
            have HT : Hid (R = false) := by
              show _ = _
              rw [HR2.out]
              simp [L1.out, M1.out]
            go_wp2_with fail
            go_ret
            exact ⟨by rw [HT.out]; rfl, HX3.out.below⟩
          | true =>
            have HRl : Hid (R = ((List.range N).all p && decide (emN aop aI N < 2))) := by
              show _ = _
              rw [HR2.out]
              simp [L1.out, M1.out, TX.out]
            clear HR2 HNm HPl
            go_wp2_with fail
            clear z0 z9
            go_loopw [7, 6] (fun i m wr => ∃ k : Nat, k ≤ N ∧ i = .int .i64 (k : Int) ∧ m = .int .i64 (emN aop aI k : Int) ∧ Hid ((List.range k).all p = true) ∧ Hid (B1 w #[.int .i64 aop, .int .i64 aat, .string atx, .int .i64 avk, .string avn, .string avx, .slice aio avi aic, .slice ayo avy ayc, .slice ano ann anc, .slice ako N akc] 28 wr)) (fun i _ _ => N - (intOf i).toNat)
            case atStart => exact ⟨0, Nat.zero_le _, rfl, rfl, rfl, HX3⟩
            case round =>
              obtain ⟨k, hk, rfl, rfl, HQ, HBw⟩ := hrel
              have t0 := HBw.out.ca (j := 0) rfl
              have t9 := HBw.out.ca (j := 9) rfl
              have hem := emN_le aop aI k
              by_cases hlt : k < N
              · have hl1 : (k : Int) < (N : Int) := by omega
                have hl0 : (0 : Int) ≤ (k : Int) := by omega
                have hkx : k < aI.length := by rw [← HN.out]; exact hlt
                obtain ⟨b, off, kat, ktx, kvn, kvx, kio, k6, c6, kyo, k7, c7, kno, k8, c8, kko, k9, c9, qq1, HCj⟩ := HI.out k hkx
                rw [qq1] at t9
                obtain ⟨u0, u1, u2, u3, u4, u5, u6, u7, u8, u9, _, _⟩ := HCj wr HBw.out.below
                have HFk : Hid (∀ u, Below w.heap.size w u → Calls Tryz.prog 10 #[.agg #[.int .i64 aI[k].op, .int .i64 kat, .string ktx, .int .i64 aI[k].value.kind, .string kvn, .string kvx, .slice kio k6 c6, .slice kyo k7 c7, .slice kno k8 c8, .slice kko k9 c9]] u (fun e w' => e = .returned (.bool (frN h aI[k])) ∧ Below u.heap.size u w')) := fun u hu => (HCj u hu).2.2.2.2.2.2.2.2.2.2.1
                have HNk : Hid (∀ u, Below w.heap.size w u → Calls Tryz.prog 24 #[.agg #[.int .i64 aI[k].op, .int .i64 kat, .string ktx, .int .i64 aI[k].value.kind, .string kvn, .string kvx, .slice kio k6 c6, .slice kyo k7 c7, .slice kno k8 c8, .slice kko k9 c9]] u (fun e w' => e = .returned (.bool (sq (noA aI[k]) (noA nn0))) ∧ Below u.heap.size u w')) := fun u hu => (HCj u hu).2.2.2.2.2.2.2.2.2.2.2
                have HP := Hid.mk (HPp.out k hkx)
                have HE := Hid.mk (HEm.out k hkx)
                have HS := Hid.mk (HSl.out k hkx)
                have HUp : Hid (p k = true → (List.range (k + 1)).all p = true) := fun hp => ks_up HQ.out hp
                have HNo : Hid (p k = false → (List.range N).all p = false) := fun hp => ks_no hlt hp
                rw [HS.out] at HP HE
                clear HS HCj qq1
                generalize frN h aI[k] = y at *
                generalize sq (noA aI[k]) (noA nn0) = r at *
                generalize aI[k].op = ko at *
                generalize aI[k].value.kind = kk at *
                obtain ⟨m2, hm2⟩ : ∃ m2, emN aop aI (k + 1) = m2 := ⟨_, rfl⟩
                rw [hm2] at HE
                have HM2 := Hid.mk hm2
                clear hm2
                generalize emN aop aI k = m at *
                generalize p k = pk at *
                clear hkx
                obtain ⟨W2, hW2⟩ : ∃ W2, wr.alloc (.cells #[.int .i64 ko, .int .i64 kat, .string ktx, .int .i64 kk, .string kvn, .string kvx, .slice kio k6 c6, .slice kyo k7 c7, .slice kno k8 c8, .slice kko k9 c9] 28) = W2 := ⟨_, rfl⟩
                have HK2 := Hid.mk (B1.new hW2)
                have HB2 := Hid.mk (HBw.out.keep HK2.out.below)
                have v0 := HK2.out.ca (j := 0) rfl
                have v1 := HK2.out.ca (j := 1) rfl
                have v2 := HK2.out.ca (j := 2) rfl
                have v3 := HK2.out.ca (j := 3) rfl
                have v4 := HK2.out.ca (j := 4) rfl
                have v5 := HK2.out.ca (j := 5) rfl
                have v6 := HK2.out.ca (j := 6) rfl
                have v7 := HK2.out.ca (j := 7) rfl
                have v8 := HK2.out.ca (j := 8) rfl
                have v9 := HK2.out.ca (j := 9) rfl
                have s0 := HB2.out.ca (j := 0) rfl
                have n3 := N3.out
                by_cases k8 : aop = 8
                · have b8 : (aop == 8) = true := by rw [k8]; rfl
                  have K8 := Hid.mk k8
                  have N3' := Hid.mk n3
                  clear k8 n3
                  by_cases k0 : 0 < k
                  · have d0 : decide ((k : Int) > 0) = true := by rw [decide_eq_true_iff]; omega
                    go_wp2_with fail
                    refine (HNk.out _ HB2.out.below).mono ?_
                    rintro e w5 ⟨rfl, hb5⟩
                    have HB5 := Hid.mk (HB2.out.keep hb5)
                    have HK5 := Hid.mk (HK2.out.keep hb5)
                    clear hb5 hW2 v0 v1 v2 v3 v4 v5 v6 v7 v8 v9 s0
                    have v0 := HK5.out.ca (j := 0) rfl
                    have v1 := HK5.out.ca (j := 1) rfl
                    have v2 := HK5.out.ca (j := 2) rfl
                    have v3 := HK5.out.ca (j := 3) rfl
                    have v4 := HK5.out.ca (j := 4) rfl
                    have v5 := HK5.out.ca (j := 5) rfl
                    have v6 := HK5.out.ca (j := 6) rfl
                    have v7 := HK5.out.ca (j := 7) rfl
                    have v8 := HK5.out.ca (j := 8) rfl
                    have v9 := HK5.out.ca (j := 9) rfl
                    have s0 := HB5.out.ca (j := 0) rfl
                    cases r with
                    | true =>
                      have HU := Hid.mk (HUp.out (HP.out.trans (by simp [K8.out, k0])))
                      have HM : Hid (m2 = m + 1) := HE.out.trans (by simp [K8.out, k0])
                      go_wp2_with fail
                      go_roundw
                      case rel => exact ⟨k + 1, by omega, by go_num, by rw [HM2.out, HM.out]; first | done | rfl | go_num, HU, HB5⟩
                      case measure => simp [intOf]; omega
                    | false =>
                      go_wp2_with fail
                      refine (HFk.out _ HB5.out.below).mono ?_
                      rintro e w4 ⟨rfl, hb4⟩
                      have HB4 := Hid.mk (HB5.out.keep hb4)
                      have HK4 := Hid.mk (HK5.out.keep hb4)
                      have i0 := HB4.out.ca (j := 0) rfl
                      have j0 := HK4.out.ca (j := 0) rfl
                      have j3 := HK4.out.ca (j := 3) rfl
                      clear hb4
                      cases y with
                      | false =>
                        have HT : Hid (R = false) := by
                          show _ = _
                          rw [HRl.out, HNo.out (HP.out.trans (by simp [N3'.out]))]
                          rfl
                        go_wp2_with fail
                        go_ret
                        exact ⟨by rw [HT.out]; rfl, HB4.out.below⟩
                      | true =>
                        have HU := Hid.mk (HUp.out (HP.out.trans (by simp [N3'.out])))
                        have HM : Hid (m2 = m) := HE.out.trans (by simp [N3'.out])
                        go_wp2_with fail
                        go_roundw
                        case rel => exact ⟨k + 1, by omega, by go_num, by rw [HM2.out, HM.out]; first | done | rfl | go_num, HU, HB4⟩
                        case measure => simp [intOf]; omega
                  · have d0 : decide ((k : Int) > 0) = false := by rw [decide_eq_false_iff_not]; omega
                    go_wp2_with fail
                    refine (HFk.out _ HB2.out.below).mono ?_
                    rintro e w4 ⟨rfl, hb4⟩
                    have HB4 := Hid.mk (HB2.out.keep hb4)
                    have HK4 := Hid.mk (HK2.out.keep hb4)
                    have i0 := HB4.out.ca (j := 0) rfl
                    have j0 := HK4.out.ca (j := 0) rfl
                    have j3 := HK4.out.ca (j := 3) rfl
                    clear hb4
                    cases y with
                    | false =>
                      have HT : Hid (R = false) := by
                        show _ = _
                        rw [HRl.out, HNo.out (HP.out.trans (by simp [k0, N3'.out]))]
                        rfl
                      go_wp2_with fail
                      go_ret
                      exact ⟨by rw [HT.out]; rfl, HB4.out.below⟩
                    | true =>
                      have HU := Hid.mk (HUp.out (HP.out.trans (by simp [k0, N3'.out])))
                      have HM : Hid (m2 = m) := HE.out.trans (by simp [k0, N3'.out])
                      go_wp2_with fail
                      go_roundw
                      case rel => exact ⟨k + 1, by omega, by go_num, by rw [HM2.out, HM.out]; first | done | rfl | go_num, HU, HB4⟩
                      case measure => simp [intOf]; omega
                · have b8 : (aop == 8) = false := by rw [beq_eq_false_iff_ne]; exact k8
                  have K8 := Hid.mk k8
                  have N3' := Hid.mk n3
                  clear k8 n3
                  go_wp2_with fail
                  refine (HFk.out _ HB2.out.below).mono ?_
                  rintro e w4 ⟨rfl, hb4⟩
                  have HB4 := Hid.mk (HB2.out.keep hb4)
                  have HK4 := Hid.mk (HK2.out.keep hb4)
                  have i0 := HB4.out.ca (j := 0) rfl
                  have j0 := HK4.out.ca (j := 0) rfl
                  have j3 := HK4.out.ca (j := 3) rfl
                  clear hb4
                  cases y with
                  | false =>
                    have HT : Hid (R = false) := by
                      show _ = _
                      rw [HRl.out, HNo.out (HP.out.trans (by simp [K8.out, N3'.out]))]
                      rfl
                    go_wp2_with fail
                    go_ret
                    exact ⟨by rw [HT.out]; rfl, HB4.out.below⟩
                  | true =>
                    have HU := Hid.mk (HUp.out (HP.out.trans (by simp [K8.out, N3'.out])))
                    have HM : Hid (m2 = m) := HE.out.trans (by simp [K8.out, N3'.out])
                    go_wp2_with fail
                    go_roundw
                    case rel => exact ⟨k + 1, by omega, by go_num, by rw [HM2.out, HM.out]; first | done | rfl | go_num, HU, HB4⟩
                    case measure => simp [intOf]; omega
              · have hl1 : ¬ (k : Int) < (N : Int) := by omega
                have hkN : k = N := by omega
                have HRq : Hid (R = decide (emN aop aI k < 2)) := by
                  have e := HQ.out
                  rw [hkN] at e ⊢
                  rw [HRl.out, e]
                  rfl
                generalize emN aop aI k = m at *
                by_cases h2 : m < 2
                · have h2' : (m : Int) < 2 := by omega
                  have HT : Hid (R = true) := HRq.out.trans (decide_eq_true h2)
                  go_wp2_with fail
                  go_ret
                  exact ⟨by rw [HT.out]; first | done | rfl, HBw.out.below⟩
                · have h2' : ¬ (m : Int) < 2 := by omega
                  have HT : Hid (R = false) := HRq.out.trans (decide_eq_false h2)
                  go_wp2_with fail
                  go_ret
                  exact ⟨by rw [HT.out]; first | done | rfl, HBw.out.below⟩
      | false =>
        go_wp2_with fail
        refine (HNm.out _).mono ?_
        rintro e w5 ⟨rfl, hw5⟩
        obtain rfl := hw5.symm
        go_wp2_with fail
        refine (HNm.out _).mono ?_
        rintro e w5 ⟨rfl, hw5⟩
        obtain rfl := hw5.symm
        by_cases te : atx = .empty
        · subst te
          have TX : Hid True := trivial
          go_wp2_with fail
          refine (HAl.out _ HX2.out.below).mono ?_
          rintro e w3 ⟨rfl, hb3⟩
          have HX3 := Hid.mk (HX2.out.keep hb3)
          clear y0 y1 y2 y3 y4 y5 y6 y7 y8 y9
          have z0 := HX3.out.ca (j := 0) rfl
          have z9 := HX3.out.ca (j := 9) rfl
          clear hb3 HAl HCo
          cases al with
          | false =>
            have HT : Hid (R = false) := by
              show _ = _
              rw [HR2.out]
              simp [L1.out, M1.out]
            go_wp2_with fail
            go_ret
            exact ⟨by rw [HT.out]; rfl, HX3.out.below⟩
          | true =>
            have HRl : Hid (R = ((List.range N).all p && decide (emN aop aI N < 2))) := by
              show _ = _
              rw [HR2.out]
              simp [L1.out, M1.out, TX.out]
            clear HR2 HNm HPl
            go_wp2_with fail
            clear z0 z9
            go_loopw [7, 6] (fun i m wr => ∃ k : Nat, k ≤ N ∧ i = .int .i64 (k : Int) ∧ m = .int .i64 (emN aop aI k : Int) ∧ Hid ((List.range k).all p = true) ∧ Hid (B1 w #[.int .i64 aop, .int .i64 aat, .string ByteArray.empty, .int .i64 avk, .string avn, .string avx, .slice aio avi aic, .slice ayo avy ayc, .slice ano ann anc, .slice ako N akc] 28 wr)) (fun i _ _ => N - (intOf i).toNat)
            case atStart => exact ⟨0, Nat.zero_le _, rfl, rfl, rfl, HX3⟩
            case round =>
              obtain ⟨k, hk, rfl, rfl, HQ, HBw⟩ := hrel
              have t0 := HBw.out.ca (j := 0) rfl
              have t9 := HBw.out.ca (j := 9) rfl
              have hem := emN_le aop aI k
              by_cases hlt : k < N
              · have hl1 : (k : Int) < (N : Int) := by omega
                have hl0 : (0 : Int) ≤ (k : Int) := by omega
                have hkx : k < aI.length := by rw [← HN.out]; exact hlt
                obtain ⟨b, off, kat, ktx, kvn, kvx, kio, k6, c6, kyo, k7, c7, kno, k8, c8, kko, k9, c9, qq1, HCj⟩ := HI.out k hkx
                rw [qq1] at t9
                obtain ⟨u0, u1, u2, u3, u4, u5, u6, u7, u8, u9, _, _⟩ := HCj wr HBw.out.below
                have HFk : Hid (∀ u, Below w.heap.size w u → Calls Tryz.prog 10 #[.agg #[.int .i64 aI[k].op, .int .i64 kat, .string ktx, .int .i64 aI[k].value.kind, .string kvn, .string kvx, .slice kio k6 c6, .slice kyo k7 c7, .slice kno k8 c8, .slice kko k9 c9]] u (fun e w' => e = .returned (.bool (frN h aI[k])) ∧ Below u.heap.size u w')) := fun u hu => (HCj u hu).2.2.2.2.2.2.2.2.2.2.1
                have HNk : Hid (∀ u, Below w.heap.size w u → Calls Tryz.prog 24 #[.agg #[.int .i64 aI[k].op, .int .i64 kat, .string ktx, .int .i64 aI[k].value.kind, .string kvn, .string kvx, .slice kio k6 c6, .slice kyo k7 c7, .slice kno k8 c8, .slice kko k9 c9]] u (fun e w' => e = .returned (.bool (sq (noA aI[k]) (noA nn0))) ∧ Below u.heap.size u w')) := fun u hu => (HCj u hu).2.2.2.2.2.2.2.2.2.2.2
                have HP := Hid.mk (HPp.out k hkx)
                have HE := Hid.mk (HEm.out k hkx)
                have HS := Hid.mk (HSl.out k hkx)
                have HUp : Hid (p k = true → (List.range (k + 1)).all p = true) := fun hp => ks_up HQ.out hp
                have HNo : Hid (p k = false → (List.range N).all p = false) := fun hp => ks_no hlt hp
                rw [HS.out] at HP HE
                clear HS HCj qq1
                generalize frN h aI[k] = y at *
                generalize sq (noA aI[k]) (noA nn0) = r at *
                generalize aI[k].op = ko at *
                generalize aI[k].value.kind = kk at *
                obtain ⟨m2, hm2⟩ : ∃ m2, emN aop aI (k + 1) = m2 := ⟨_, rfl⟩
                rw [hm2] at HE
                have HM2 := Hid.mk hm2
                clear hm2
                generalize emN aop aI k = m at *
                generalize p k = pk at *
                clear hkx
                obtain ⟨W2, hW2⟩ : ∃ W2, wr.alloc (.cells #[.int .i64 ko, .int .i64 kat, .string ktx, .int .i64 kk, .string kvn, .string kvx, .slice kio k6 c6, .slice kyo k7 c7, .slice kno k8 c8, .slice kko k9 c9] 28) = W2 := ⟨_, rfl⟩
                have HK2 := Hid.mk (B1.new hW2)
                have HB2 := Hid.mk (HBw.out.keep HK2.out.below)
                have v0 := HK2.out.ca (j := 0) rfl
                have v1 := HK2.out.ca (j := 1) rfl
                have v2 := HK2.out.ca (j := 2) rfl
                have v3 := HK2.out.ca (j := 3) rfl
                have v4 := HK2.out.ca (j := 4) rfl
                have v5 := HK2.out.ca (j := 5) rfl
                have v6 := HK2.out.ca (j := 6) rfl
                have v7 := HK2.out.ca (j := 7) rfl
                have v8 := HK2.out.ca (j := 8) rfl
                have v9 := HK2.out.ca (j := 9) rfl
                have s0 := HB2.out.ca (j := 0) rfl
                have n3 := N3.out
                by_cases k8 : aop = 8
                · have b8 : (aop == 8) = true := by rw [k8]; rfl
                  have K8 := Hid.mk k8
                  have N3' := Hid.mk n3
                  clear k8 n3
                  by_cases k0 : 0 < k
                  · have d0 : decide ((k : Int) > 0) = true := by rw [decide_eq_true_iff]; omega
                    go_wp2_with fail
                    refine (HNk.out _ HB2.out.below).mono ?_
                    rintro e w5 ⟨rfl, hb5⟩
                    have HB5 := Hid.mk (HB2.out.keep hb5)
                    have HK5 := Hid.mk (HK2.out.keep hb5)
                    clear hb5 hW2 v0 v1 v2 v3 v4 v5 v6 v7 v8 v9 s0
                    have v0 := HK5.out.ca (j := 0) rfl
                    have v1 := HK5.out.ca (j := 1) rfl
                    have v2 := HK5.out.ca (j := 2) rfl
                    have v3 := HK5.out.ca (j := 3) rfl
                    have v4 := HK5.out.ca (j := 4) rfl
                    have v5 := HK5.out.ca (j := 5) rfl
                    have v6 := HK5.out.ca (j := 6) rfl
                    have v7 := HK5.out.ca (j := 7) rfl
                    have v8 := HK5.out.ca (j := 8) rfl
                    have v9 := HK5.out.ca (j := 9) rfl
                    have s0 := HB5.out.ca (j := 0) rfl
                    cases r with
                    | true =>
                      have HU := Hid.mk (HUp.out (HP.out.trans (by simp [K8.out, k0])))
                      have HM : Hid (m2 = m + 1) := HE.out.trans (by simp [K8.out, k0])
                      go_wp2_with fail
                      go_roundw
                      case rel => exact ⟨k + 1, by omega, by go_num, by rw [HM2.out, HM.out]; first | done | rfl | go_num, HU, HB5⟩
                      case measure => simp [intOf]; omega
                    | false =>
                      go_wp2_with fail
                      refine (HFk.out _ HB5.out.below).mono ?_
                      rintro e w4 ⟨rfl, hb4⟩
                      have HB4 := Hid.mk (HB5.out.keep hb4)
                      have HK4 := Hid.mk (HK5.out.keep hb4)
                      have i0 := HB4.out.ca (j := 0) rfl
                      have j0 := HK4.out.ca (j := 0) rfl
                      have j3 := HK4.out.ca (j := 3) rfl
                      clear hb4
                      cases y with
                      | false =>
                        have HT : Hid (R = false) := by
                          show _ = _
                          rw [HRl.out, HNo.out (HP.out.trans (by simp [N3'.out]))]
                          rfl
                        go_wp2_with fail
                        go_ret
                        exact ⟨by rw [HT.out]; rfl, HB4.out.below⟩
                      | true =>
                        have HU := Hid.mk (HUp.out (HP.out.trans (by simp [N3'.out])))
                        have HM : Hid (m2 = m) := HE.out.trans (by simp [N3'.out])
                        go_wp2_with fail
                        go_roundw
                        case rel => exact ⟨k + 1, by omega, by go_num, by rw [HM2.out, HM.out]; first | done | rfl | go_num, HU, HB4⟩
                        case measure => simp [intOf]; omega
                  · have d0 : decide ((k : Int) > 0) = false := by rw [decide_eq_false_iff_not]; omega
                    go_wp2_with fail
                    refine (HFk.out _ HB2.out.below).mono ?_
                    rintro e w4 ⟨rfl, hb4⟩
                    have HB4 := Hid.mk (HB2.out.keep hb4)
                    have HK4 := Hid.mk (HK2.out.keep hb4)
                    have i0 := HB4.out.ca (j := 0) rfl
                    have j0 := HK4.out.ca (j := 0) rfl
                    have j3 := HK4.out.ca (j := 3) rfl
                    clear hb4
                    cases y with
                    | false =>
                      have HT : Hid (R = false) := by
                        show _ = _
                        rw [HRl.out, HNo.out (HP.out.trans (by simp [k0, N3'.out]))]
                        rfl
                      go_wp2_with fail
                      go_ret
                      exact ⟨by rw [HT.out]; rfl, HB4.out.below⟩
                    | true =>
                      have HU := Hid.mk (HUp.out (HP.out.trans (by simp [k0, N3'.out])))
                      have HM : Hid (m2 = m) := HE.out.trans (by simp [k0, N3'.out])
                      go_wp2_with fail
                      go_roundw
                      case rel => exact ⟨k + 1, by omega, by go_num, by rw [HM2.out, HM.out]; first | done | rfl | go_num, HU, HB4⟩
                      case measure => simp [intOf]; omega
                · have b8 : (aop == 8) = false := by rw [beq_eq_false_iff_ne]; exact k8
                  have K8 := Hid.mk k8
                  have N3' := Hid.mk n3
                  clear k8 n3
                  go_wp2_with fail
                  refine (HFk.out _ HB2.out.below).mono ?_
                  rintro e w4 ⟨rfl, hb4⟩
                  have HB4 := Hid.mk (HB2.out.keep hb4)
                  have HK4 := Hid.mk (HK2.out.keep hb4)
                  have i0 := HB4.out.ca (j := 0) rfl
                  have j0 := HK4.out.ca (j := 0) rfl
                  have j3 := HK4.out.ca (j := 3) rfl
                  clear hb4
                  cases y with
                  | false =>
                    have HT : Hid (R = false) := by
                      show _ = _
                      rw [HRl.out, HNo.out (HP.out.trans (by simp [K8.out, N3'.out]))]
                      rfl
                    go_wp2_with fail
                    go_ret
                    exact ⟨by rw [HT.out]; rfl, HB4.out.below⟩
                  | true =>
                    have HU := Hid.mk (HUp.out (HP.out.trans (by simp [K8.out, N3'.out])))
                    have HM : Hid (m2 = m) := HE.out.trans (by simp [K8.out, N3'.out])
                    go_wp2_with fail
                    go_roundw
                    case rel => exact ⟨k + 1, by omega, by go_num, by rw [HM2.out, HM.out]; first | done | rfl | go_num, HU, HB4⟩
                    case measure => simp [intOf]; omega
              · have hl1 : ¬ (k : Int) < (N : Int) := by omega
                have hkN : k = N := by omega
                have HRq : Hid (R = decide (emN aop aI k < 2)) := by
                  have e := HQ.out
                  rw [hkN] at e ⊢
                  rw [HRl.out, e]
                  rfl
                generalize emN aop aI k = m at *
                by_cases h2 : m < 2
                · have h2' : (m : Int) < 2 := by omega
                  have HT : Hid (R = true) := HRq.out.trans (decide_eq_true h2)
                  go_wp2_with fail
                  go_ret
                  exact ⟨by rw [HT.out]; first | done | rfl, HBw.out.below⟩
                · have h2' : ¬ (m : Int) < 2 := by omega
                  have HT : Hid (R = false) := HRq.out.trans (decide_eq_false h2)
                  go_wp2_with fail
                  go_ret
                  exact ⟨by rw [HT.out]; first | done | rfl, HBw.out.below⟩
        · obtain ⟨t1, t2, t3⟩ := ne_bytes te
          have HT : Hid (R = false) := by
            show _ = _
            rw [HR2.out]
            simp [L1.out, M1.out, te]
          go_wp2_with fail
          go_ret
          exact ⟨by rw [HT.out]; rfl, HX2.out.below⟩

end Go.Proofs.YtdjleoglphgdgaaGreatDoor
