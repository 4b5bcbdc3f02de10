import Derived.Test.YtajnaiddcobkiaaGreatDoorM36
namespace Go.Proofs.YtajnaiddcobkiaaGreatDoor
open Go.RowKit Go.Shelf
set_option linter.unusedVariables false
set_option linter.unusedSimpArgs false
attribute [local go_sem] Oper.semAt_some
set_option maxRecDepth 100000
set_option maxHeartbeats 12800000
def NodeT (B : Nat) (so : Option Addr) (sc : Nat) (ws : List Tok) (nb : Nat) (fn : FuncId) (args : Value → Array Value) (m : Nat) (x : NT → PM NT) : Prop := ∀ (D : Nat → Prop) (u : World) (t o : Nat) (T0 : NT) (d : NV), (∀ b, u.heap.size ≤ b → D b) → (∀ b, D b → b ≠ B) → PX u B so sc ws nb t o → m ≤ t → NdI D u T0 d → Calls Tryz.prog fn (args d.v) u fun e w' => PxR B so sc ws nb u (NdE D) (x T0 t o) e w'
section
variable {B : Nat} {so : Option Addr} {sc : Nat} {ws : List Tok} {nb : Nat} {m : Nat} {P : PM NT} {O : Nat → PM NT}
theorem bracketX (h : PO B so sc ws nb (m + 1) P O) : NodeT B so sc ws nb 147 (fun v => #[.pointer (some ⟨B, 0, none⟩), v]) m (fun T => bracketP ws nb P T) := by
 intro D u t o T0 d dn db hx hm hd
 dsimp only
 obtain ⟨R, hR⟩ : ∃ R, bracketP ws nb P T0 t o = R := ⟨_, rfl⟩
 rw [hR]
 unfold bracketP at hR
 have HR := hQz hR
 have HPO := hQz h
 have HS00 := hQz (SB.new (Fl := false) (tr := [(T0, d)]) hx dn db (fun q hq => by simp only [List.mem_singleton] at hq; subst hq; exact hd))
 have HX := hQz (And.intro hx.pat.le hx.pat.open_)
 have HM := hQz hm
 have hfl0 := Tryz.fldX0
 have hfl1 := Tryz.fldX1
 have hfl3 := Tryz.fldX3
 clear hR h hx hm dn db hd
 obtain ⟨op0, at0, vk0, tx0, nu0, vt0, io0, yo0, no0, ko0, iN0, ic0, yN0, yc0, nN0, nc0, kN0, kc0⟩ := d
 unfold NV.v NV.l
 dsimp only
 go_enter Tryz.func147, Tryz.ntmps147
 go_wp2_with fail
 have HS0 := hQz ((HS00.out.alloc [.int .i64 op0, .int .i64 at0, .string tx0, .int .i64 vk0, .string nu0, .string vt0, .slice io0 iN0 ic0, .slice yo0 yN0 yc0, .slice no0 nN0 nc0, .slice ko0 kN0 kc0] 28).alloc [.int .i64 0, .int .i64 0, .string ⟨#[]⟩, .int .i64 0, .string ⟨#[]⟩, .string ⟨#[]⟩, .slice none 0 0, .slice none 0 0, .slice none 0 0, .slice none 0 0] 28)
 rw [World.size_alloc] at HS0
 refine (enterX [91] _ HS0.out.px).mono ?_
 rintro e w1 ⟨hb, hm⟩
 have hR := HR.out
 obtain ⟨er, q, hr⟩ | ⟨x1, t1, o1, hr⟩ := pr_cases (pEnter ws nb [91] t o)
 · rw [hr] at hm
   rw [pThen_bad hr] at hR
   obtain rfl : e = .panicked (fcs er q) := hm
   exact ⟨rfl, (HS0.out.bo.trans (Bo.ofBt hb)).toBt, by rw [← hR]⟩
 rw [hr] at hm
 rw [pThen_ok hr] at hR
 (try dsimp only at hR)
 obtain ⟨⟨v, rfl, hE⟩, hp⟩ := hm
 have HL1 := hQz (mv_enter (nb := nb) [91] _ HS0.out.px.pat.le _ _ _ _ hr)
 have HO1 := hQz (up_enter (nb := nb) [91] _ _ _ _ _ HS0.out.px.pat.open_ hr)
 have HQ1 := hQz hr
 replace HR := hQz hR
 have HS1 := hQz (HS0.out.step hb hp)
 clear hb hp hr hR
 unfold TkE at hE
 subst hE
 obtain ⟨kd1, pa1, fi1, tx1, er1⟩ := x1
 unfold tokV
 (try dsimp only at HR)
 dsimp only
 go_wp2_with fail
 obtain ⟨c, hc⟩ : ∃ c, syP ws t1 [93] = c := ⟨_, rfl⟩
 cases c with
 | true =>
  refine (saysX [93] hc _ HS1.out.px).mono ?_
  rintro e w2 ⟨rfl, hb⟩
  have HS2 := hQz (HS1.out.keep hb)
  clear hb
  have hR := HR.out
  rw [if_pos hc] at hR
  replace HR := hQz hR
  clear hR
  go_wp2_with fail
  refine (leaveX [93] (by have := HO1.out; omega) _ HS2.out.px).mono ?_
  rintro e w3 ⟨hb, hm⟩
  have hR := HR.out
  obtain ⟨er, q, hr⟩ | ⟨_x, t4, o4, hr⟩ := pr_cases (pLeave ws nb [93] t1 o1)
  · rw [hr] at hm
    rw [pThen_bad hr] at hR
    obtain rfl : e = .panicked (fcs er q) := hm
    exact ⟨rfl, (HS2.out.bo.trans (Bo.ofBt hb)).toBt, by rw [← hR]⟩
  rw [hr] at hm
  rw [pThen_ok hr] at hR
  (try dsimp only at hR)
  obtain ⟨⟨v, rfl, hE⟩, hp⟩ := hm
  have HL3 := hQz (mv_leave (nb := nb) [93] _ HS2.out.px.pat.le _ _ _ _ hr)
  have HQ3 := hQz hr
  replace HR := hQz hR
  have HS3 := hQz (HS2.out.step hb hp)
  clear hb hp hr hR
  subst hE
  have HLv := HL3
  obtain ⟨a0, a1, a2, a3, a4, a5, a6, a7, a8, a9⟩ := nd_cells HS3.out.bb1
  obtain ⟨W4, hW4⟩ : ∃ W, w3.alloc (.cells #[.int .i64 op0, .int .i64 at0, .string tx0, .int .i64 vk0, .string nu0, .string vt0, .slice io0 iN0 ic0, .slice yo0 yN0 yc0, .slice no0 nN0 nc0, .slice ko0 kN0 kc0] 28) = W := ⟨_, rfl⟩
  have HS4 := hQz (HS3.out.alloc [.int .i64 op0, .int .i64 at0, .string tx0, .int .i64 vk0, .string nu0, .string vt0, .slice io0 iN0 ic0, .slice yo0 yN0 yc0, .slice no0 nN0 nc0, .slice ko0 kN0 kc0] 28)
  rw [hW4] at HS4
  obtain ⟨a0, a1, a2, a3, a4, a5, a6, a7, a8, a9⟩ := nd_cells HS4.out.bb2
  obtain ⟨r0, r1, r2, r3, r4, r5, r6, r7, r8, r9⟩ := nd_cells HS4.out.bb1
  obtain ⟨rf0, rf1, rf2, rf3, rf4, rf5, rf6, rf7, rf8, rf9⟩ := nd_frozen HS4.out.bb1
  go_wp2_with fail
  generalize hzZ : ((((((((((W4).setCell ⟨u.heap.size + 1, 0, none⟩ (.int .i64 9)).setCell ⟨u.heap.size + 1, 1, none⟩ (.int .i64 (pa1 : Int))).setCell ⟨u.heap.size + 1, 2, none⟩ (.string ⟨#[]⟩)).setCell ⟨u.heap.size + 1, 3, none⟩ (.int .i64 0)).setCell ⟨u.heap.size + 1, 4, none⟩ (.string ⟨#[]⟩)).setCell ⟨u.heap.size + 1, 5, none⟩ (.string ⟨#[]⟩)).setCell ⟨u.heap.size + 1, 6, none⟩ (.slice none 0 0)).setCell ⟨u.heap.size + 1, 7, none⟩ (.slice none 0 0)).setCell ⟨u.heap.size + 1, 8, none⟩ (.slice none 0 0)).setCell ⟨u.heap.size + 1, 9, none⟩ (.slice (some ⟨w3.heap.size, 0, none⟩) 1 1) = WZ
  have PZ := nd_set HS4.out.bb1 hzZ
  obtain ⟨m0, m1, m2, m3, m4, m5, m6, m7, m8, m9⟩ := nd_cells PZ.new
  have HZ := HS4.out.put 1 _ _ [.int .i64 9, .int .i64 (pa1 : Int), .string ⟨#[]⟩, .int .i64 0, .string ⟨#[]⟩, .string ⟨#[]⟩, .slice none 0 0, .slice none 0 0, .slice none 0 0, .slice (some ⟨w3.heap.size, 0, none⟩) 1 1] _ rfl PZ
  refine bodyPost_ret (v := .agg #[.int .i64 9, .int .i64 (pa1 : Int), .string ⟨#[]⟩, .int .i64 0, .string ⟨#[]⟩, .string ⟨#[]⟩, .slice none 0 0, .slice none 0 0, .slice none 0 0, .slice (some ⟨w3.heap.size, 0, none⟩) 1 1]) (by simp [results, Tryz.results147, go_sem, m0, m1, m2, m3, m4, m5, m6, m7, m8, m9]) rfl ?_
  have hR := HR.out
  refine ⟨HZ.bo.toBt, ?_⟩
  rw [← hR]
  exact ⟨⟨_, rfl, ⟨9, (pa1 : Int), 0, ⟨#[]⟩, ⟨#[]⟩, ⟨#[]⟩, none, none, none, some ⟨w3.heap.size, 0, none⟩, 0, 0, 0, 0, 0, 0, 1, 1⟩, rfl, NdI.lit (Ts := [T0]) (ds := [⟨op0, at0, vk0, tx0, nu0, vt0, io0, yo0, no0, ko0, iN0, ic0, yN0, yc0, nN0, nc0, kN0, kc0⟩]) 9 (pa1 : Int) .empty size0 rfl (by simp) HZ.bb0 (HZ.dn _ (HZ.bxs _ (List.mem_of_getElem? (i := 0) rfl)).1) (els1 HZ.t0)⟩, HZ.px⟩
 | false =>
  refine (saysX [93] hc _ HS1.out.px).mono ?_
  rintro e w2 ⟨rfl, hb⟩
  have HS2 := hQz (HS1.out.keep hb)
  clear hb
  have hR := HR.out
  rw [if_neg (by rw [hc]; decide)] at hR
  replace HR := hQz hR
  clear hR
  go_wp2_with fail
  have HSb := hQz ((HS2.out.alloc [.int .i64 0, .int .i64 0, .string ⟨#[]⟩, .int .i64 0, .string ⟨#[]⟩, .string ⟨#[]⟩, .slice none 0 0, .slice none 0 0, .slice none 0 0, .slice none 0 0] 28).alloc [.int .i64 0, .int .i64 0, .string ⟨#[]⟩, .int .i64 0, .string ⟨#[]⟩, .string ⟨#[]⟩, .slice none 0 0, .slice none 0 0, .slice none 0 0, .slice none 0 0] 28)
  rw [World.size_alloc] at HSb
  obtain ⟨c2, hc2⟩ : ∃ c, syP ws t1 [58] = c := ⟨_, rfl⟩
  cases c2 with
  | true =>
   have hR := HR.out
   rw [if_pos hc2, pThen_ok (x := pTake ws) rfl] at hR
   (try dsimp only at hR)
   replace HR := hQz hR
   clear hR
   refine (takesT [58] hc2 _ HSb.out.px).mono ?_
   rintro e w3 ⟨rfl, hb, hp⟩
   have HS3 := hQz (HSb.out.step hb hp)
   clear hb hp
   go_wp2_with fail
   refine (HPO.out.pipe _ _ _ _ HS3.out.dnW HS3.out.dbW HS3.out.px (by have := HL1.out; have := HM.out; omega)).mono ?_
   rintro e w4 ⟨hb, hm⟩
   have hR := HR.out
   obtain ⟨er, q, hr⟩ | ⟨T2, t2, o2, hr⟩ := pr_cases (P (t1 + 1) o1)
   · rw [hr] at hm
     rw [pThen_bad hr] at hR
     obtain rfl : e = .panicked (fcs er q) := hm
     exact ⟨rfl, (HS3.out.bo.trans (Bo.ofBt hb)).toBt, by rw [← hR]⟩
   rw [hr] at hm
   rw [pThen_ok hr] at hR
   (try dsimp only at hR)
   obtain ⟨⟨v, rfl, hE⟩, hp⟩ := hm
   have HL4 := hQz (HPO.out.mp _ HS3.out.px.pat.le _ _ _ _ hr)
   have HO4 := hQz (HPO.out.bp _ _ _ _ _ HS3.out.px.pat.open_ hr)
   have HQ4 := hQz hr
   replace HR := hQz hR
   have HS4 := hQz (HS3.out.step hb hp)
   clear hb hp hr hR
   obtain ⟨d, rfl, hd⟩ := hE
   have HS5 := hQz (HS4.out.add hd)
   clear hd
   obtain ⟨op2, at2, vk2, tx2, nu2, vt2, io2, yo2, no2, ko2, iN2, ic2, yN2, yc2, nN2, nc2, kN2, kc2⟩ := d
   unfold NV.v NV.l
   dsimp only
   obtain ⟨c0, c1, c2, c3, c4, c5, c6, c7, c8, c9⟩ := nd_cells HS5.out.bb0
   obtain ⟨cf0, cf1, cf2, cf3, cf4, cf5, cf6, cf7, cf8, cf9⟩ := nd_frozen HS5.out.bb0
   go_wp2_with fail
   generalize hz5 : ((((((((((w4).setCell ⟨w2.heap.size + 1, 0, none⟩ (.int .i64 op2)).setCell ⟨w2.heap.size + 1, 1, none⟩ (.int .i64 at2)).setCell ⟨w2.heap.size + 1, 2, none⟩ (.string tx2)).setCell ⟨w2.heap.size + 1, 3, none⟩ (.int .i64 vk2)).setCell ⟨w2.heap.size + 1, 4, none⟩ (.string nu2)).setCell ⟨w2.heap.size + 1, 5, none⟩ (.string vt2)).setCell ⟨w2.heap.size + 1, 6, none⟩ (.slice io2 iN2 ic2)).setCell ⟨w2.heap.size + 1, 7, none⟩ (.slice yo2 yN2 yc2)).setCell ⟨w2.heap.size + 1, 8, none⟩ (.slice no2 nN2 nc2)).setCell ⟨w2.heap.size + 1, 9, none⟩ (.slice ko2 kN2 kc2) = W5
   have P5 := nd_set HS5.out.bb0 hz5
   have HS6 := hQz (HS5.out.put 0 _ _ [.int .i64 op2, .int .i64 at2, .string tx2, .int .i64 vk2, .string nu2, .string vt2, .slice io2 iN2 ic2, .slice yo2 yN2 yc2, .slice no2 nN2 nc2, .slice ko2 kN2 kc2] _ rfl P5)
   clear P5 hz5
   clear c0 cf0 c1 cf1 c2 cf2 c3 cf3 c4 cf4 c5 cf5 c6 cf6 c7 cf7 c8 cf8 c9 cf9
   refine (leaveX [93] (by have := HO1.out; have := HO4.out; omega) _ HS6.out.px).mono ?_
   rintro e w6 ⟨hb, hm⟩
   have hR := HR.out
   obtain ⟨er, q, hr⟩ | ⟨_x, t5, o5, hr⟩ := pr_cases (pLeave ws nb [93] t2 o2)
   · rw [hr] at hm
     rw [pThen_bad hr] at hR
     obtain rfl : e = .panicked (fcs er q) := hm
     exact ⟨rfl, (HS6.out.bo.trans (Bo.ofBt hb)).toBt, by rw [← hR]⟩
   rw [hr] at hm
   rw [pThen_ok hr] at hR
   (try dsimp only at hR)
   obtain ⟨⟨v, rfl, hE⟩, hp⟩ := hm
   have HL6 := hQz (mv_leave (nb := nb) [93] _ HS6.out.px.pat.le _ _ _ _ hr)
   have HQ6 := hQz hr
   replace HR := hQz hR
   have HS7 := hQz (HS6.out.step hb hp)
   clear hb hp hr hR
   subst hE
   have HLv := HL6
   obtain ⟨a0, a1, a2, a3, a4, a5, a6, a7, a8, a9⟩ := nd_cells HS7.out.bb3
   obtain ⟨b0, b1, b2, b3, b4, b5, b6, b7, b8, b9⟩ := nd_cells HS7.out.bb1
   obtain ⟨c0, c1, c2, c3, c4, c5, c6, c7, c8, c9⟩ := nd_cells HS7.out.bb0
   obtain ⟨W7, hW7⟩ : ∃ W, w6.alloc (.cells #[.int .i64 op0, .int .i64 at0, .string tx0, .int .i64 vk0, .string nu0, .string vt0, .slice io0 iN0 ic0, .slice yo0 yN0 yc0, .slice no0 nN0 nc0, .slice ko0 kN0 kc0, .int .i64 0, .int .i64 0, .string ⟨#[]⟩, .int .i64 0, .string ⟨#[]⟩, .string ⟨#[]⟩, .slice none 0 0, .slice none 0 0, .slice none 0 0, .slice none 0 0, .int .i64 op2, .int .i64 at2, .string tx2, .int .i64 vk2, .string nu2, .string vt2, .slice io2 iN2 ic2, .slice yo2 yN2 yc2, .slice no2 nN2 nc2, .slice ko2 kN2 kc2] 28) = W := ⟨_, rfl⟩
   have HS8 := hQz (HS7.out.alloc [.int .i64 op0, .int .i64 at0, .string tx0, .int .i64 vk0, .string nu0, .string vt0, .slice io0 iN0 ic0, .slice yo0 yN0 yc0, .slice no0 nN0 nc0, .slice ko0 kN0 kc0, .int .i64 0, .int .i64 0, .string ⟨#[]⟩, .int .i64 0, .string ⟨#[]⟩, .string ⟨#[]⟩, .slice none 0 0, .slice none 0 0, .slice none 0 0, .slice none 0 0, .int .i64 op2, .int .i64 at2, .string tx2, .int .i64 vk2, .string nu2, .string vt2, .slice io2 iN2 ic2, .slice yo2 yN2 yc2, .slice no2 nN2 nc2, .slice ko2 kN2 kc2] 28)
   rw [hW7] at HS8
   obtain ⟨a0, a1, a2, a3, a4, a5, a6, a7, a8, a9⟩ := nd_cells HS8.out.bb4
   obtain ⟨b0, b1, b2, b3, b4, b5, b6, b7, b8, b9⟩ := nd_cells HS8.out.bb2
   obtain ⟨c0, c1, c2, c3, c4, c5, c6, c7, c8, c9⟩ := nd_cells HS8.out.bb1
   obtain ⟨r0, r1, r2, r3, r4, r5, r6, r7, r8, r9⟩ := nd_cells HS8.out.bb3
   obtain ⟨rf0, rf1, rf2, rf3, rf4, rf5, rf6, rf7, rf8, rf9⟩ := nd_frozen HS8.out.bb3
   go_wp2_with fail
   generalize hzZ : ((((((((((W7).setCell ⟨u.heap.size + 1, 0, none⟩ (.int .i64 8)).setCell ⟨u.heap.size + 1, 1, none⟩ (.int .i64 (pa1 : Int))).setCell ⟨u.heap.size + 1, 2, none⟩ (.string ⟨#[]⟩)).setCell ⟨u.heap.size + 1, 3, none⟩ (.int .i64 0)).setCell ⟨u.heap.size + 1, 4, none⟩ (.string ⟨#[]⟩)).setCell ⟨u.heap.size + 1, 5, none⟩ (.string ⟨#[]⟩)).setCell ⟨u.heap.size + 1, 6, none⟩ (.slice none 0 0)).setCell ⟨u.heap.size + 1, 7, none⟩ (.slice none 0 0)).setCell ⟨u.heap.size + 1, 8, none⟩ (.slice none 0 0)).setCell ⟨u.heap.size + 1, 9, none⟩ (.slice (some ⟨w6.heap.size, 0, none⟩) 3 3) = WZ
   have PZ := nd_set HS8.out.bb3 hzZ
   obtain ⟨m0, m1, m2, m3, m4, m5, m6, m7, m8, m9⟩ := nd_cells PZ.new
   have HZ := HS8.out.put 3 _ _ [.int .i64 8, .int .i64 (pa1 : Int), .string ⟨#[]⟩, .int .i64 0, .string ⟨#[]⟩, .string ⟨#[]⟩, .slice none 0 0, .slice none 0 0, .slice none 0 0, .slice (some ⟨w6.heap.size, 0, none⟩) 3 3] _ rfl PZ
   refine bodyPost_ret (v := .agg #[.int .i64 8, .int .i64 (pa1 : Int), .string ⟨#[]⟩, .int .i64 0, .string ⟨#[]⟩, .string ⟨#[]⟩, .slice none 0 0, .slice none 0 0, .slice none 0 0, .slice (some ⟨w6.heap.size, 0, none⟩) 3 3]) (by simp [results, Tryz.results147, go_sem, m0, m1, m2, m3, m4, m5, m6, m7, m8, m9]) rfl ?_
   have hR := HR.out
   refine ⟨HZ.bo.toBt, ?_⟩
   rw [← hR]
   exact ⟨⟨_, rfl, ⟨8, (pa1 : Int), 0, ⟨#[]⟩, ⟨#[]⟩, ⟨#[]⟩, none, none, none, some ⟨w6.heap.size, 0, none⟩, 0, 0, 0, 0, 0, 0, 3, 3⟩, rfl, NdI.lit (Ts := [T0, ndP 0 0 [], T2]) (ds := [⟨op0, at0, vk0, tx0, nu0, vt0, io0, yo0, no0, ko0, iN0, ic0, yN0, yc0, nN0, nc0, kN0, kc0⟩, nv0, ⟨op2, at2, vk2, tx2, nu2, vt2, io2, yo2, no2, ko2, iN2, ic2, yN2, yc2, nN2, nc2, kN2, kc2⟩]) 8 (pa1 : Int) .empty size0 rfl (by simp) HZ.bb0 (HZ.dn _ (HZ.bxs _ (List.mem_of_getElem? (i := 0) rfl)).1) (els3 HZ.t1 (NdI.leaf D _ 0 0 .empty size0) HZ.t0)⟩, HZ.px⟩
  | false =>
   have hR := HR.out
   rw [if_neg (by rw [hc2]; decide)] at hR
   replace HR := hQz hR
   clear hR
   refine (takesF [58] hc2 _ HSb.out.px).mono ?_
   rintro e w3 ⟨rfl, hb⟩
   have HS3 := hQz (HSb.out.keep hb)
   clear hb
   go_wp2_with fail
   refine (HPO.out.pipe _ _ _ _ HS3.out.dnW HS3.out.dbW HS3.out.px (by have := HL1.out; have := HM.out; omega)).mono ?_
   rintro e w4 ⟨hb, hm⟩
   have hR := HR.out
   obtain ⟨er, q, hr⟩ | ⟨T2, t2, o2, hr⟩ := pr_cases (P t1 o1)
   · rw [hr] at hm
     rw [pThen_bad hr] at hR
     obtain rfl : e = .panicked (fcs er q) := hm
     exact ⟨rfl, (HS3.out.bo.trans (Bo.ofBt hb)).toBt, by rw [← hR]⟩
   rw [hr] at hm
   rw [pThen_ok hr] at hR
   (try dsimp only at hR)
   obtain ⟨⟨v, rfl, hE⟩, hp⟩ := hm
   have HL4 := hQz (HPO.out.mp _ HS3.out.px.pat.le _ _ _ _ hr)
   have HO4 := hQz (HPO.out.bp _ _ _ _ _ HS3.out.px.pat.open_ hr)
   have HQ4 := hQz hr
   replace HR := hQz hR
   have HS4 := hQz (HS3.out.step hb hp)
   clear hb hp hr hR
   obtain ⟨d, rfl, hd⟩ := hE
   have HS5 := hQz (HS4.out.add hd)
   clear hd
   obtain ⟨op2, at2, vk2, tx2, nu2, vt2, io2, yo2, no2, ko2, iN2, ic2, yN2, yc2, nN2, nc2, kN2, kc2⟩ := d
   unfold NV.v NV.l
   dsimp only
   obtain ⟨c0, c1, c2, c3, c4, c5, c6, c7, c8, c9⟩ := nd_cells HS5.out.bb1
   obtain ⟨cf0, cf1, cf2, cf3, cf4, cf5, cf6, cf7, cf8, cf9⟩ := nd_frozen HS5.out.bb1
   go_wp2_with fail
   generalize hz5 : ((((((((((w4).setCell ⟨w2.heap.size, 0, none⟩ (.int .i64 op2)).setCell ⟨w2.heap.size, 1, none⟩ (.int .i64 at2)).setCell ⟨w2.heap.size, 2, none⟩ (.string tx2)).setCell ⟨w2.heap.size, 3, none⟩ (.int .i64 vk2)).setCell ⟨w2.heap.size, 4, none⟩ (.string nu2)).setCell ⟨w2.heap.size, 5, none⟩ (.string vt2)).setCell ⟨w2.heap.size, 6, none⟩ (.slice io2 iN2 ic2)).setCell ⟨w2.heap.size, 7, none⟩ (.slice yo2 yN2 yc2)).setCell ⟨w2.heap.size, 8, none⟩ (.slice no2 nN2 nc2)).setCell ⟨w2.heap.size, 9, none⟩ (.slice ko2 kN2 kc2) = W5
   have P5 := nd_set HS5.out.bb1 hz5
   have HS6 := hQz (HS5.out.put 1 _ _ [.int .i64 op2, .int .i64 at2, .string tx2, .int .i64 vk2, .string nu2, .string vt2, .slice io2 iN2 ic2, .slice yo2 yN2 yc2, .slice no2 nN2 nc2, .slice ko2 kN2 kc2] _ rfl P5)
   clear P5 hz5
   clear c0 cf0 c1 cf1 c2 cf2 c3 cf3 c4 cf4 c5 cf5 c6 cf6 c7 cf7 c8 cf8 c9 cf9
   obtain ⟨c3, hc3⟩ : ∃ c, syP ws t2 [93] = c := ⟨_, rfl⟩
   cases c3 with
   | true =>
    refine (saysX [93] hc3 _ HS6.out.px).mono ?_
    rintro e w6 ⟨rfl, hb⟩
    have HS7 := hQz (HS6.out.keep hb)
    clear hb
    have hR := HR.out
    rw [if_pos hc3] at hR
    replace HR := hQz hR
    clear hR
    go_wp2_with fail
    refine (leaveX [93] (by have := HO1.out; have := HO4.out; omega) _ HS7.out.px).mono ?_
    rintro e w7 ⟨hb, hm⟩
    have hR := HR.out
    obtain ⟨er, q, hr⟩ | ⟨_x, t5, o5, hr⟩ := pr_cases (pLeave ws nb [93] t2 o2)
    · rw [hr] at hm
      rw [pThen_bad hr] at hR
      obtain rfl : e = .panicked (fcs er q) := hm
      exact ⟨rfl, (HS7.out.bo.trans (Bo.ofBt hb)).toBt, by rw [← hR]⟩
    rw [hr] at hm
    rw [pThen_ok hr] at hR
    (try dsimp only at hR)
    obtain ⟨⟨v, rfl, hE⟩, hp⟩ := hm
    have HL7 := hQz (mv_leave (nb := nb) [93] _ HS7.out.px.pat.le _ _ _ _ hr)
    have HQ7 := hQz hr
    replace HR := hQz hR
    have HS8 := hQz (HS7.out.step hb hp)
    clear hb hp hr hR
    subst hE
    have HLv := HL7
    obtain ⟨a0, a1, a2, a3, a4, a5, a6, a7, a8, a9⟩ := nd_cells HS8.out.bb3
    obtain ⟨b0, b1, b2, b3, b4, b5, b6, b7, b8, b9⟩ := nd_cells HS8.out.bb1
    go_wp2_with fail
    refine (indexX _ pa1 T0 T2 ⟨op0, at0, vk0, tx0, nu0, vt0, io0, yo0, no0, ko0, iN0, ic0, yN0, yc0, nN0, nc0, kN0, kc0⟩ ⟨op2, at2, vk2, tx2, nu2, vt2, io2, yo2, no2, ko2, iN2, ic2, yN2, yc2, nN2, nc2, kN2, kc2⟩ _ HS8.out.dnW HS8.out.m1 HS8.out.m0).mono ?_
    rintro e w8 ⟨d, rfl, hb, hd⟩
    have HS9 := hQz ((HS8.out.keep hb).add (hd.weak (fun b hb _ => hb)))
    clear hb hd
    obtain ⟨op3, at3, vk3, tx3, nu3, vt3, io3, yo3, no3, ko3, iN3, ic3, yN3, yc3, nN3, nc3, kN3, kc3⟩ := d
    unfold NV.v NV.l
    dsimp only
    obtain ⟨r0, r1, r2, r3, r4, r5, r6, r7, r8, r9⟩ := nd_cells HS9.out.bb2
    obtain ⟨rf0, rf1, rf2, rf3, rf4, rf5, rf6, rf7, rf8, rf9⟩ := nd_frozen HS9.out.bb2
    go_wp2_with fail
    generalize hzZ : ((((((((((w8).setCell ⟨u.heap.size + 1, 0, none⟩ (.int .i64 op3)).setCell ⟨u.heap.size + 1, 1, none⟩ (.int .i64 at3)).setCell ⟨u.heap.size + 1, 2, none⟩ (.string tx3)).setCell ⟨u.heap.size + 1, 3, none⟩ (.int .i64 vk3)).setCell ⟨u.heap.size + 1, 4, none⟩ (.string nu3)).setCell ⟨u.heap.size + 1, 5, none⟩ (.string vt3)).setCell ⟨u.heap.size + 1, 6, none⟩ (.slice io3 iN3 ic3)).setCell ⟨u.heap.size + 1, 7, none⟩ (.slice yo3 yN3 yc3)).setCell ⟨u.heap.size + 1, 8, none⟩ (.slice no3 nN3 nc3)).setCell ⟨u.heap.size + 1, 9, none⟩ (.slice ko3 kN3 kc3) = WZ
    have PZ := nd_set HS9.out.bb2 hzZ
    obtain ⟨m0, m1, m2, m3, m4, m5, m6, m7, m8, m9⟩ := nd_cells PZ.new
    have HZ := HS9.out.put 2 _ _ [.int .i64 op3, .int .i64 at3, .string tx3, .int .i64 vk3, .string nu3, .string vt3, .slice io3 iN3 ic3, .slice yo3 yN3 yc3, .slice no3 nN3 nc3, .slice ko3 kN3 kc3] _ rfl PZ
    refine bodyPost_ret (v := .agg #[.int .i64 op3, .int .i64 at3, .string tx3, .int .i64 vk3, .string nu3, .string vt3, .slice io3 iN3 ic3, .slice yo3 yN3 yc3, .slice no3 nN3 nc3, .slice ko3 kN3 kc3]) (by simp [results, Tryz.results147, go_sem, m0, m1, m2, m3, m4, m5, m6, m7, m8, m9]) rfl ?_
    have hR := HR.out
    refine ⟨HZ.bo.toBt, ?_⟩
    rw [← hR]
    exact ⟨⟨_, rfl, ⟨op3, at3, vk3, tx3, nu3, vt3, io3, yo3, no3, ko3, iN3, ic3, yN3, yc3, nN3, nc3, kN3, kc3⟩, rfl, HZ.t0⟩, HZ.px⟩
   | false =>
    refine (saysX [93] hc3 _ HS6.out.px).mono ?_
    rintro e w6 ⟨rfl, hb⟩
    have HS7 := hQz (HS6.out.keep hb)
    clear hb
    have hR := HR.out
    rw [if_neg (by rw [hc3]; decide)] at hR
    replace HR := hQz hR
    clear hR
    go_wp2_with fail
    refine (mustX [58] _ HS7.out.px).mono ?_
    rintro e w7 ⟨hb, hm⟩
    have hR := HR.out
    obtain ⟨er, q, hr⟩ | ⟨x6, t6, o6, hr⟩ := pr_cases (pMust ws nb [58] t2 o2)
    · rw [hr] at hm
      rw [pThen_bad hr] at hR
      obtain rfl : e = .panicked (fcs er q) := hm
      exact ⟨rfl, (HS7.out.bo.trans (Bo.ofBt hb)).toBt, by rw [← hR]⟩
    rw [hr] at hm
    rw [pThen_ok hr] at hR
    (try dsimp only at hR)
    obtain ⟨⟨v, rfl, hE⟩, hp⟩ := hm
    have HL7 := hQz (mv_must (nb := nb) [58] _ HS7.out.px.pat.le _ _ _ _ hr)
    have HO7 := hQz (bl_must (nb := nb) [58] _ _ _ _ _ HS7.out.px.pat.open_ hr)
    have HQ7 := hQz hr
    replace HR := hQz hR
    have HS8 := hQz (HS7.out.step hb hp)
    clear hb hp hr hR
    unfold TkE at hE
    subst hE
    obtain ⟨kd6, pa6, fi6, tx6, er6⟩ := x6
    unfold tokV
    (try dsimp only at HR)
    dsimp only
    go_wp2_with fail
    obtain ⟨c4, hc4⟩ : ∃ c, syP ws t6 [93] = c := ⟨_, rfl⟩
    cases c4 with
    | true =>
     refine (saysX [93] hc4 _ HS8.out.px).mono ?_
     rintro e w8 ⟨rfl, hb⟩
     have HS9 := hQz (HS8.out.keep hb)
     clear hb
     have hR := HR.out
     rw [if_pos hc4] at hR
     replace HR := hQz hR
     clear hR
     go_wp2_with fail
     refine (leaveX [93] (by have := HO1.out; have := HO4.out; have := HO7.out; omega) _ HS9.out.px).mono ?_
     rintro e w9 ⟨hb, hm⟩
     have hR := HR.out
     obtain ⟨er, q, hr⟩ | ⟨_x, t7, o7, hr⟩ := pr_cases (pLeave ws nb [93] t6 o6)
     · rw [hr] at hm
       rw [pThen_bad hr] at hR
       obtain rfl : e = .panicked (fcs er q) := hm
       exact ⟨rfl, (HS9.out.bo.trans (Bo.ofBt hb)).toBt, by rw [← hR]⟩
     rw [hr] at hm
     rw [pThen_ok hr] at hR
     (try dsimp only at hR)
     obtain ⟨⟨v, rfl, hE⟩, hp⟩ := hm
     have HL9 := hQz (mv_leave (nb := nb) [93] _ HS9.out.px.pat.le _ _ _ _ hr)
     have HQ9 := hQz hr
     replace HR := hQz hR
     have HS10 := hQz (HS9.out.step hb hp)
     clear hb hp hr hR
     subst hE
     have HLv := HL9
     obtain ⟨a0, a1, a2, a3, a4, a5, a6, a7, a8, a9⟩ := nd_cells HS10.out.bb3
     obtain ⟨b0, b1, b2, b3, b4, b5, b6, b7, b8, b9⟩ := nd_cells HS10.out.bb1
     obtain ⟨c0, c1, c2, c3, c4, c5, c6, c7, c8, c9⟩ := nd_cells HS10.out.bb0
     obtain ⟨W10, hW10⟩ : ∃ W, w9.alloc (.cells #[.int .i64 op0, .int .i64 at0, .string tx0, .int .i64 vk0, .string nu0, .string vt0, .slice io0 iN0 ic0, .slice yo0 yN0 yc0, .slice no0 nN0 nc0, .slice ko0 kN0 kc0, .int .i64 op2, .int .i64 at2, .string tx2, .int .i64 vk2, .string nu2, .string vt2, .slice io2 iN2 ic2, .slice yo2 yN2 yc2, .slice no2 nN2 nc2, .slice ko2 kN2 kc2, .int .i64 0, .int .i64 0, .string ⟨#[]⟩, .int .i64 0, .string ⟨#[]⟩, .string ⟨#[]⟩, .slice none 0 0, .slice none 0 0, .slice none 0 0, .slice none 0 0] 28) = W := ⟨_, rfl⟩
     have HS11 := hQz (HS10.out.alloc [.int .i64 op0, .int .i64 at0, .string tx0, .int .i64 vk0, .string nu0, .string vt0, .slice io0 iN0 ic0, .slice yo0 yN0 yc0, .slice no0 nN0 nc0, .slice ko0 kN0 kc0, .int .i64 op2, .int .i64 at2, .string tx2, .int .i64 vk2, .string nu2, .string vt2, .slice io2 iN2 ic2, .slice yo2 yN2 yc2, .slice no2 nN2 nc2, .slice ko2 kN2 kc2, .int .i64 0, .int .i64 0, .string ⟨#[]⟩, .int .i64 0, .string ⟨#[]⟩, .string ⟨#[]⟩, .slice none 0 0, .slice none 0 0, .slice none 0 0, .slice none 0 0] 28)
     rw [hW10] at HS11
     obtain ⟨a0, a1, a2, a3, a4, a5, a6, a7, a8, a9⟩ := nd_cells HS11.out.bb4
     obtain ⟨b0, b1, b2, b3, b4, b5, b6, b7, b8, b9⟩ := nd_cells HS11.out.bb2
     obtain ⟨c0, c1, c2, c3, c4, c5, c6, c7, c8, c9⟩ := nd_cells HS11.out.bb1
     obtain ⟨r0, r1, r2, r3, r4, r5, r6, r7, r8, r9⟩ := nd_cells HS11.out.bb3
     obtain ⟨rf0, rf1, rf2, rf3, rf4, rf5, rf6, rf7, rf8, rf9⟩ := nd_frozen HS11.out.bb3
     go_wp2_with fail
     generalize hzZ : ((((((((((W10).setCell ⟨u.heap.size + 1, 0, none⟩ (.int .i64 8)).setCell ⟨u.heap.size + 1, 1, none⟩ (.int .i64 (pa1 : Int))).setCell ⟨u.heap.size + 1, 2, none⟩ (.string ⟨#[]⟩)).setCell ⟨u.heap.size + 1, 3, none⟩ (.int .i64 0)).setCell ⟨u.heap.size + 1, 4, none⟩ (.string ⟨#[]⟩)).setCell ⟨u.heap.size + 1, 5, none⟩ (.string ⟨#[]⟩)).setCell ⟨u.heap.size + 1, 6, none⟩ (.slice none 0 0)).setCell ⟨u.heap.size + 1, 7, none⟩ (.slice none 0 0)).setCell ⟨u.heap.size + 1, 8, none⟩ (.slice none 0 0)).setCell ⟨u.heap.size + 1, 9, none⟩ (.slice (some ⟨w9.heap.size, 0, none⟩) 3 3) = WZ
     have PZ := nd_set HS11.out.bb3 hzZ
     obtain ⟨m0, m1, m2, m3, m4, m5, m6, m7, m8, m9⟩ := nd_cells PZ.new
     have HZ := HS11.out.put 3 _ _ [.int .i64 8, .int .i64 (pa1 : Int), .string ⟨#[]⟩, .int .i64 0, .string ⟨#[]⟩, .string ⟨#[]⟩, .slice none 0 0, .slice none 0 0, .slice none 0 0, .slice (some ⟨w9.heap.size, 0, none⟩) 3 3] _ rfl PZ
     refine bodyPost_ret (v := .agg #[.int .i64 8, .int .i64 (pa1 : Int), .string ⟨#[]⟩, .int .i64 0, .string ⟨#[]⟩, .string ⟨#[]⟩, .slice none 0 0, .slice none 0 0, .slice none 0 0, .slice (some ⟨w9.heap.size, 0, none⟩) 3 3]) (by simp [results, Tryz.results147, go_sem, m0, m1, m2, m3, m4, m5, m6, m7, m8, m9]) rfl ?_
     have hR := HR.out
     refine ⟨HZ.bo.toBt, ?_⟩
     rw [← hR]
     exact ⟨⟨_, rfl, ⟨8, (pa1 : Int), 0, ⟨#[]⟩, ⟨#[]⟩, ⟨#[]⟩, none, none, none, some ⟨w9.heap.size, 0, none⟩, 0, 0, 0, 0, 0, 0, 3, 3⟩, rfl, NdI.lit (Ts := [T0, T2, ndP 0 0 []]) (ds := [⟨op0, at0, vk0, tx0, nu0, vt0, io0, yo0, no0, ko0, iN0, ic0, yN0, yc0, nN0, nc0, kN0, kc0⟩, ⟨op2, at2, vk2, tx2, nu2, vt2, io2, yo2, no2, ko2, iN2, ic2, yN2, yc2, nN2, nc2, kN2, kc2⟩, nv0]) 8 (pa1 : Int) .empty size0 rfl (by simp) HZ.bb0 (HZ.dn _ (HZ.bxs _ (List.mem_of_getElem? (i := 0) rfl)).1) (els3 HZ.t1 HZ.t0 (NdI.leaf D _ 0 0 .empty size0))⟩, HZ.px⟩
    | false =>
     refine (saysX [93] hc4 _ HS8.out.px).mono ?_
     rintro e w8 ⟨rfl, hb⟩
     have HS9 := hQz (HS8.out.keep hb)
     clear hb
     have hR := HR.out
     rw [if_neg (by rw [hc4]; decide)] at hR
     replace HR := hQz hR
     clear hR
     go_wp2_with fail
     refine (HPO.out.pipe _ _ _ _ HS9.out.dnW HS9.out.dbW HS9.out.px (by have := HL1.out; have := HL4.out; have := HL7.out; have := HM.out; omega)).mono ?_
     rintro e w9 ⟨hb, hm⟩
     have hR := HR.out
     obtain ⟨er, q, hr⟩ | ⟨T8, t8, o8, hr⟩ := pr_cases (P t6 o6)
     · rw [hr] at hm
       rw [pThen_bad hr] at hR
       obtain rfl : e = .panicked (fcs er q) := hm
       exact ⟨rfl, (HS9.out.bo.trans (Bo.ofBt hb)).toBt, by rw [← hR]⟩
     rw [hr] at hm
     rw [pThen_ok hr] at hR
     (try dsimp only at hR)
     obtain ⟨⟨v, rfl, hE⟩, hp⟩ := hm
     have HL9 := hQz (HPO.out.mp _ HS9.out.px.pat.le _ _ _ _ hr)
     have HO9 := hQz (HPO.out.bp _ _ _ _ _ HS9.out.px.pat.open_ hr)
     have HQ9 := hQz hr
     replace HR := hQz hR
     have HS10 := hQz (HS9.out.step hb hp)
     clear hb hp hr hR
     obtain ⟨d, rfl, hd⟩ := hE
     have HS11 := hQz (HS10.out.add hd)
     clear hd
     obtain ⟨op8, at8, vk8, tx8, nu8, vt8, io8, yo8, no8, ko8, iN8, ic8, yN8, yc8, nN8, nc8, kN8, kc8⟩ := d
     unfold NV.v NV.l
     dsimp only
     obtain ⟨c0, c1, c2, c3, c4, c5, c6, c7, c8, c9⟩ := nd_cells HS11.out.bb0
     obtain ⟨cf0, cf1, cf2, cf3, cf4, cf5, cf6, cf7, cf8, cf9⟩ := nd_frozen HS11.out.bb0
     go_wp2_with fail
     generalize hz10 : ((((((((((w9).setCell ⟨w2.heap.size + 1, 0, none⟩ (.int .i64 op8)).setCell ⟨w2.heap.size + 1, 1, none⟩ (.int .i64 at8)).setCell ⟨w2.heap.size + 1, 2, none⟩ (.string tx8)).setCell ⟨w2.heap.size + 1, 3, none⟩ (.int .i64 vk8)).setCell ⟨w2.heap.size + 1, 4, none⟩ (.string nu8)).setCell ⟨w2.heap.size + 1, 5, none⟩ (.string vt8)).setCell ⟨w2.heap.size + 1, 6, none⟩ (.slice io8 iN8 ic8)).setCell ⟨w2.heap.size + 1, 7, none⟩ (.slice yo8 yN8 yc8)).setCell ⟨w2.heap.size + 1, 8, none⟩ (.slice no8 nN8 nc8)).setCell ⟨w2.heap.size + 1, 9, none⟩ (.slice ko8 kN8 kc8) = W10
     have P10 := nd_set HS11.out.bb0 hz10
     have HS12 := hQz (HS11.out.put 0 _ _ [.int .i64 op8, .int .i64 at8, .string tx8, .int .i64 vk8, .string nu8, .string vt8, .slice io8 iN8 ic8, .slice yo8 yN8 yc8, .slice no8 nN8 nc8, .slice ko8 kN8 kc8] _ rfl P10)
     clear P10 hz10
     clear c0 cf0 c1 cf1 c2 cf2 c3 cf3 c4 cf4 c5 cf5 c6 cf6 c7 cf7 c8 cf8 c9 cf9
     refine (leaveX [93] (by have := HO1.out; have := HO4.out; have := HO7.out; have := HO9.out; omega) _ HS12.out.px).mono ?_
     rintro e w11 ⟨hb, hm⟩
     have hR := HR.out
     obtain ⟨er, q, hr⟩ | ⟨_x, t9, o9, hr⟩ := pr_cases (pLeave ws nb [93] t8 o8)
     · rw [hr] at hm
       rw [pThen_bad hr] at hR
       obtain rfl : e = .panicked (fcs er q) := hm
       exact ⟨rfl, (HS12.out.bo.trans (Bo.ofBt hb)).toBt, by rw [← hR]⟩
     rw [hr] at hm
     rw [pThen_ok hr] at hR
     (try dsimp only at hR)
     obtain ⟨⟨v, rfl, hE⟩, hp⟩ := hm
     have HL11 := hQz (mv_leave (nb := nb) [93] _ HS12.out.px.pat.le _ _ _ _ hr)
     have HQ11 := hQz hr
     replace HR := hQz hR
     have HS13 := hQz (HS12.out.step hb hp)
     clear hb hp hr hR
     subst hE
     have HLv := HL11
     obtain ⟨a0, a1, a2, a3, a4, a5, a6, a7, a8, a9⟩ := nd_cells HS13.out.bb3
     obtain ⟨b0, b1, b2, b3, b4, b5, b6, b7, b8, b9⟩ := nd_cells HS13.out.bb1
     obtain ⟨c0, c1, c2, c3, c4, c5, c6, c7, c8, c9⟩ := nd_cells HS13.out.bb0
     obtain ⟨W12, hW12⟩ : ∃ W, w11.alloc (.cells #[.int .i64 op0, .int .i64 at0, .string tx0, .int .i64 vk0, .string nu0, .string vt0, .slice io0 iN0 ic0, .slice yo0 yN0 yc0, .slice no0 nN0 nc0, .slice ko0 kN0 kc0, .int .i64 op2, .int .i64 at2, .string tx2, .int .i64 vk2, .string nu2, .string vt2, .slice io2 iN2 ic2, .slice yo2 yN2 yc2, .slice no2 nN2 nc2, .slice ko2 kN2 kc2, .int .i64 op8, .int .i64 at8, .string tx8, .int .i64 vk8, .string nu8, .string vt8, .slice io8 iN8 ic8, .slice yo8 yN8 yc8, .slice no8 nN8 nc8, .slice ko8 kN8 kc8] 28) = W := ⟨_, rfl⟩
     have HS14 := hQz (HS13.out.alloc [.int .i64 op0, .int .i64 at0, .string tx0, .int .i64 vk0, .string nu0, .string vt0, .slice io0 iN0 ic0, .slice yo0 yN0 yc0, .slice no0 nN0 nc0, .slice ko0 kN0 kc0, .int .i64 op2, .int .i64 at2, .string tx2, .int .i64 vk2, .string nu2, .string vt2, .slice io2 iN2 ic2, .slice yo2 yN2 yc2, .slice no2 nN2 nc2, .slice ko2 kN2 kc2, .int .i64 op8, .int .i64 at8, .string tx8, .int .i64 vk8, .string nu8, .string vt8, .slice io8 iN8 ic8, .slice yo8 yN8 yc8, .slice no8 nN8 nc8, .slice ko8 kN8 kc8] 28)
     rw [hW12] at HS14
     obtain ⟨a0, a1, a2, a3, a4, a5, a6, a7, a8, a9⟩ := nd_cells HS14.out.bb4
     obtain ⟨b0, b1, b2, b3, b4, b5, b6, b7, b8, b9⟩ := nd_cells HS14.out.bb2
     obtain ⟨c0, c1, c2, c3, c4, c5, c6, c7, c8, c9⟩ := nd_cells HS14.out.bb1
     obtain ⟨r0, r1, r2, r3, r4, r5, r6, r7, r8, r9⟩ := nd_cells HS14.out.bb3
     obtain ⟨rf0, rf1, rf2, rf3, rf4, rf5, rf6, rf7, rf8, rf9⟩ := nd_frozen HS14.out.bb3
     go_wp2_with fail
     generalize hzZ : ((((((((((W12).setCell ⟨u.heap.size + 1, 0, none⟩ (.int .i64 8)).setCell ⟨u.heap.size + 1, 1, none⟩ (.int .i64 (pa1 : Int))).setCell ⟨u.heap.size + 1, 2, none⟩ (.string ⟨#[]⟩)).setCell ⟨u.heap.size + 1, 3, none⟩ (.int .i64 0)).setCell ⟨u.heap.size + 1, 4, none⟩ (.string ⟨#[]⟩)).setCell ⟨u.heap.size + 1, 5, none⟩ (.string ⟨#[]⟩)).setCell ⟨u.heap.size + 1, 6, none⟩ (.slice none 0 0)).setCell ⟨u.heap.size + 1, 7, none⟩ (.slice none 0 0)).setCell ⟨u.heap.size + 1, 8, none⟩ (.slice none 0 0)).setCell ⟨u.heap.size + 1, 9, none⟩ (.slice (some ⟨w11.heap.size, 0, none⟩) 3 3) = WZ
     have PZ := nd_set HS14.out.bb3 hzZ
     obtain ⟨m0, m1, m2, m3, m4, m5, m6, m7, m8, m9⟩ := nd_cells PZ.new
     have HZ := HS14.out.put 3 _ _ [.int .i64 8, .int .i64 (pa1 : Int), .string ⟨#[]⟩, .int .i64 0, .string ⟨#[]⟩, .string ⟨#[]⟩, .slice none 0 0, .slice none 0 0, .slice none 0 0, .slice (some ⟨w11.heap.size, 0, none⟩) 3 3] _ rfl PZ
     refine bodyPost_ret (v := .agg #[.int .i64 8, .int .i64 (pa1 : Int), .string ⟨#[]⟩, .int .i64 0, .string ⟨#[]⟩, .string ⟨#[]⟩, .slice none 0 0, .slice none 0 0, .slice none 0 0, .slice (some ⟨w11.heap.size, 0, none⟩) 3 3]) (by simp [results, Tryz.results147, go_sem, m0, m1, m2, m3, m4, m5, m6, m7, m8, m9]) rfl ?_
     have hR := HR.out
     refine ⟨HZ.bo.toBt, ?_⟩
     rw [← hR]
     exact ⟨⟨_, rfl, ⟨8, (pa1 : Int), 0, ⟨#[]⟩, ⟨#[]⟩, ⟨#[]⟩, none, none, none, some ⟨w11.heap.size, 0, none⟩, 0, 0, 0, 0, 0, 0, 3, 3⟩, rfl, NdI.lit (Ts := [T0, T2, T8]) (ds := [⟨op0, at0, vk0, tx0, nu0, vt0, io0, yo0, no0, ko0, iN0, ic0, yN0, yc0, nN0, nc0, kN0, kc0⟩, ⟨op2, at2, vk2, tx2, nu2, vt2, io2, yo2, no2, ko2, iN2, ic2, yN2, yc2, nN2, nc2, kN2, kc2⟩, ⟨op8, at8, vk8, tx8, nu8, vt8, io8, yo8, no8, ko8, iN8, ic8, yN8, yc8, nN8, nc8, kN8, kc8⟩]) 8 (pa1 : Int) .empty size0 rfl (by simp) HZ.bb0 (HZ.dn _ (HZ.bxs _ (List.mem_of_getElem? (i := 0) rfl)).1) (els3 (HZ.m2.weak (fun b hb _ => hb.1)) HZ.t1 HZ.t0)⟩, HZ.px⟩
end
theorem then_pOk {α : Type} (x : PM α) (t o : Nat) : pThen x pOk t o = x t o := by
 unfold pThen
 cases x t o with
 | ok a t' o' => rfl
 | bad e q => rfl
section
variable {Fl : Bool} {D : Nat → Prop} {r0 : Option Nat} {w W : World} {B : Nat} {so : Option Addr} {sc : Nat} {ws : List Tok} {nb t o : Nat} {bx : List (Nat × List Value × TypeId)} {rv : Value} {Ts : List NT} {tr : List (NT × NV)} {x : NT × NV}
theorem SB.only (h : SB Fl D r0 w B so sc ws nb t o bx rv Ts (x :: tr) W) : SB Fl D r0 w B so sc ws nb t o bx rv Ts [x] W := h.trees [x] (fun q hq => by
 have : q = x := by simpa using hq
 subst this
 exact mcS)
theorem SB.mkrow {g : Nat} {l : List Value} {ty : TypeId} {T : NT} {d : NV} (h : SB Fl D r0 w B so sc ws nb t o ((g, l, ty) :: bx) rv Ts tr W) (hT : (∀ q ∈ tr, NdI (Dm D bx rv) W q.1 q.2) → Dm D bx rv g → W.heap[g]? = some (.cells l.toArray ty (0, 0)) → NdI (Dm D bx rv) W T d) : SB Fl D r0 w B so sc ws nb t o bx rv Ts ((T, d) :: tr) W := by
 have hu := h.unbox
 obtain ⟨k1, k2, k3⟩ := h.bxs _ mcS
 have hg : Dm D bx rv g := ⟨h.dn g k1, fun p hp => (List.pairwise_cons.1 h.apart).1 p hp, fun e => (h.rok g e).2.2.2 _ mcS rfl⟩
 exact hu.add (hT hu.trs hg k3)
end
section
variable {B : Nat} {so : Option Addr} {sc : Nat} {ws : List Tok} {nb : Nat} {m : Nat} {P : PM NT} {O : Nat → PM NT}
theorem suffixedX (h : PO B so sc ws nb (m + 1) P O) : NodeT B so sc ws nb 137 (fun v => #[.pointer (some ⟨B, 0, none⟩), v]) m (fun T => suffixedP ws nb P T) := by
 intro D u t o T0 d dn db hx hm hd
 dsimp only
 obtain ⟨R, hR⟩ : ∃ R, suffixedP ws nb P T0 t o = R := ⟨_, rfl⟩
 rw [hR]
 unfold suffixedP at hR
 replace hR := (then_pOk _ _ _).trans hR
 have HR := hQz hR
 have HPO := hQz h
 have HS00 := hQz (SB.new (Fl := false) (tr := [(T0, d)]) hx dn db (fun q hq => by simp only [List.mem_singleton] at hq; subst hq; exact hd))
 have HX := hQz (And.intro hx.pat.le hx.pat.open_)
 have HM := hQz hm
 have hfl0 := Tryz.fldX0
 have hfl1 := Tryz.fldX1
 have hfl3 := Tryz.fldX3
 clear hR h hx hm dn db hd
 obtain ⟨op0, at0, vk0, tx0, nu0, vt0, io0, yo0, no0, ko0, iN0, ic0, yN0, yc0, nN0, nc0, kN0, kc0⟩ := d
 unfold NV.v NV.l
 dsimp only
 have Htx := hQz HPO.out.tx
 go_enter Tryz.func137, Tryz.ntmps137
 go_wp2_with fail
 have HS0 := hQz ((HS00.out.alloc [.int .i64 op0, .int .i64 at0, .string tx0, .int .i64 vk0, .string nu0, .string vt0, .slice io0 iN0 ic0, .slice yo0 yN0 yc0, .slice no0 nN0 nc0, .slice ko0 kN0 kc0] 28).alloc [.int .i64 0, .int .i64 0, .string ⟨#[]⟩, .int .i64 0, .string ⟨#[]⟩, .string ⟨#[]⟩, .slice none 0 0, .slice none 0 0, .slice none 0 0, .slice none 0 0] 28)
 rw [World.size_alloc] at HS0
 go_loopw [] (fun wr => ∃ (A : NT) (d : NV) (t3 o3 f : Nat), Hid (ws.length < t3 + f) ∧ Hid (SB false D none u B so sc ws nb t3 o3 [(u.heap.size + 1, [.int .i64 0, .int .i64 0, .string ⟨#[]⟩, .int .i64 0, .string ⟨#[]⟩, .string ⟨#[]⟩, .slice none 0 0, .slice none 0 0, .slice none 0 0, .slice none 0 0], 28), (u.heap.size, d.l, 28)] (.slice none 0 0) [] [(A, d)] wr) ∧ Hid (t ≤ t3 ∧ o3 = o) ∧ Hid (pThen (lpP (fun (a : NT) t o =>
  if isP ws 4 t then .ok (.inl (idxP (hrP ws t).at_ a (saidP (hrP ws t)))) (t + 1) o
  else if syP ws t [46] then pThen (pTake ws) (fun x => pThen (textP ws nb P) fun k => pOk (.inl (idxP x.at_ a k))) t o
  else if syP ws t [91] then pThen (bracketP ws nb P a) (fun n => pOk (.inl n)) t o
  else if syP ws t [63] then .ok (.inl (ndP 10 (hrP ws t).at_ [a])) (t + 1) o
  else .ok (.inr a) t o) f A) pOk t3 o3 = R)) (fun wr => ws.length + 1 - tkOf B wr)
 case atStart => exact ⟨T0, ⟨op0, at0, vk0, tx0, nu0, vt0, io0, yo0, no0, ko0, iN0, ic0, yN0, yc0, nN0, nc0, kN0, kc0⟩, t, o, ws.length + 1, (by show _ < _; have := HX.out; omega), HS0, ⟨Nat.le_refl _, rfl⟩, HR⟩
 case round =>
  clear HR HS0 HS00
  obtain ⟨A, d, t3, o3, f, HF, HS0, HK, HR⟩ := hrel
  obtain ⟨op1, at1, vk1, tx1, nu1, vt1, io1, yo1, no1, ko1, iN1, ic1, yN1, yc1, nN1, nc1, kN1, kc1⟩ := d
  unfold NV.l at HS0
  dsimp only at HS0
  obtain ⟨f, rfl⟩ : ∃ f', f = f' + 1 := ⟨f - 1, by have := HF.out; have := HS0.out.px.pat.le; omega⟩
  have HTk := hQz HS0.out.px.tk
  have hR := HR.out
  rw [lp_step] at hR
  replace HR := hQz hR
  clear hR
  obtain ⟨c4, h4⟩ : ∃ c, isP ws 4 t3 = c := ⟨_, rfl⟩
  cases c4 with
  | true =>
   have hR := HR.out
   rw [pThen_ok (a := .inl (idxP (hrP ws t3).at_ A (saidP (hrP ws t3)))) (t' := t3 + 1) (o' := o3) (by (try dsimp only); rw [if_pos h4])] at hR
   (try dsimp only at hR)
   replace HR := hQz hR
   clear hR
   go_wp2_with fail
   refine (isX 4 h4 _ HS0.out.px).mono ?_
   rintro e w1 ⟨rfl, hb⟩
   have HS1 := hQz (HS0.out.keep hb)
   clear hb
   go_wp2_with fail
   refine (takeX (is_lt (by decide) h4) _ HS1.out.px).mono ?_
   rintro e w2 ⟨rfl, hb, hp⟩
   have HS2 := hQz (HS1.out.step hb hp)
   clear hb hp
   have HTx := hQz (Htx.out t3)
   have hl4 := hQz (is_lt (by decide) h4)
   clear h4
   generalize hrP ws t3 = X at *
   obtain ⟨kd, pa, fi, tx, er⟩ := X
   unfold tokV
   dsimp only at HTx HR ⊢
   obtain ⟨W3, hW3⟩ : ∃ W, w2.alloc (.cells #[.int .i64 (kd : Int), .int .i64 (pa : Int), .int .i64 (fi : Int), .string ⟨tx.toArray⟩] 39) = W := ⟨_, rfl⟩
   have HS3 := hQz (HS2.out.alloc [.int .i64 (kd : Int), .int .i64 (pa : Int), .int .i64 (fi : Int), .string ⟨tx.toArray⟩] 39)
   rw [hW3] at HS3
   go_wp2_with fail
   have HS4 := hQz (HS3.out.drew)
   clear hW3
   obtain ⟨c0, c1, c2, c3⟩ := tb_cells HS4.out.bb0
   obtain ⟨p0, p1, p2, p3, p4, p5, p6, p7, p8, p9⟩ := nd_cells HS4.out.bb2
   refine wp_region_K 6 (S := (fun u1 => u1.cell? ⟨w2.heap.size, 0, none⟩ = some (.int .i64 (kd : Int)) ∧ u1.cell? ⟨w2.heap.size, 1, none⟩ = some (.int .i64 (pa : Int)) ∧ u1.cell? ⟨w2.heap.size, 2, none⟩ = some (.int .i64 (fi : Int)) ∧ u1.cell? ⟨w2.heap.size, 3, none⟩ = some (.string ⟨tx.toArray⟩) ∧ u1.cell? ⟨u.heap.size, 0, none⟩ = some (.int .i64 op1) ∧ u1.cell? ⟨u.heap.size, 1, none⟩ = some (.int .i64 at1) ∧ u1.cell? ⟨u.heap.size, 2, none⟩ = some (.string tx1) ∧ u1.cell? ⟨u.heap.size, 3, none⟩ = some (.int .i64 vk1) ∧ u1.cell? ⟨u.heap.size, 4, none⟩ = some (.string nu1) ∧ u1.cell? ⟨u.heap.size, 5, none⟩ = some (.string vt1) ∧ u1.cell? ⟨u.heap.size, 6, none⟩ = some (.slice io1 iN1 ic1) ∧ u1.cell? ⟨u.heap.size, 7, none⟩ = some (.slice yo1 yN1 yc1) ∧ u1.cell? ⟨u.heap.size, 8, none⟩ = some (.slice no1 nN1 nc1) ∧ u1.cell? ⟨u.heap.size, 9, none⟩ = some (.slice ko1 kN1 kc1))) (by kernel_rfl) (by exact ⟨c0, c1, c2, c3, p0, p1, p2, p3, p4, p5, p6, p7, p8, p9⟩) (fun hHeld => ?_)
   clear c0 c1 c2 c3
   clear p0 p1 p2 p3 p4 p5 p6 p7 p8 p9
   refine wpAnyK_take (i := 0) (oi := _) (v := .pointer (some ⟨w2.heap.size, 1, none⟩)) rfl (by kernel_rfl) (by kernel_rfl) (by kernel_rfl) (by kernel_rfl) (fun _ _ _ h => h) (Or.inl ⟨by rfl, ?_⟩) (by assumption) ?_
   · intro w hSw
     go_simp
     try (intro hq; exfalso; omega)
   try simp only [Act.put, qsA, qsB, qsC]
   refine wpAnyK_take (i := 1) (oi := _) (v := .int .i64 (pa : Int)) rfl (by kernel_rfl) (by kernel_rfl) (by kernel_rfl) (by kernel_rfl) (fun _ _ _ h => h) (Or.inl ⟨by rfl, ?_⟩) (by assumption) ?_
   · intro w hSw
     obtain ⟨hs0, hs1, hs2, hs3, hp0, hp1, hp2, hp3, hp4, hp5, hp6, hp7, hp8, hp9⟩ := hSw
     go_simp
     try (intro hq; exfalso; omega)
   try simp only [Act.put, qsA, qsB, qsC]
   refine wpAnyK_take (i := 2) (oi := _) (v := .agg #[.int .i64 op1, .int .i64 at1, .string tx1, .int .i64 vk1, .string nu1, .string vt1, .slice io1 iN1 ic1, .slice yo1 yN1 yc1, .slice no1 nN1 nc1, .slice ko1 kN1 kc1]) rfl (by kernel_rfl) (by kernel_rfl) (by kernel_rfl) (by kernel_rfl) (fun _ _ _ h => h) (Or.inl ⟨by rfl, ?_⟩) (by assumption) ?_
   · intro w hSw
     obtain ⟨hs0, hs1, hs2, hs3, hp0, hp1, hp2, hp3, hp4, hp5, hp6, hp7, hp8, hp9⟩ := hSw
     go_simp
     try (intro hq; exfalso; omega)
   try simp only [Act.put, qsA, qsB, qsC]
   refine wpAnyK_take (i := 3) (oi := _) (v := .agg #[.int .i64 (kd : Int), .int .i64 (pa : Int), .int .i64 (fi : Int), .string ⟨tx.toArray⟩]) rfl (by kernel_rfl) (by kernel_rfl) (by kernel_rfl) (by kernel_rfl) (fun _ _ _ h => h) (Or.inl ⟨by rfl, ?_⟩) (by assumption) ?_
   · intro w hSw
     obtain ⟨hs0, hs1, hs2, hs3, hp0, hp1, hp2, hp3, hp4, hp5, hp6, hp7, hp8, hp9⟩ := hSw
     go_simp
     try (intro hq; exfalso; omega)
   try simp only [Act.put, qsA, qsB, qsC]
   refine wpAnyK_one (i := 4) (o := _) (by kernel_rfl) rfl (fun K2 hK2 => ?_)
   go_simp
   go_at_call 145
   refine (saidX (fun _ => False) ⟨kd, pa, fi, tx, er⟩ (by have := HTx.out; show tx.length ≤ _; omega) _).mono ?_
   rintro e w4 ⟨d, rfl, hb, hd⟩
   have HS5 := hQz ((HS4.out.keep hb).add (hd.weak (fun b hb _ => hb.elim)))
   clear hb hd
   obtain ⟨op21, at21, vk21, tx21, nu21, vt21, io21, yo21, no21, ko21, iN21, ic21, yN21, yc21, nN21, nc21, kN21, kc21⟩ := d
   unfold NV.v NV.l
   dsimp only
   obtain ⟨c0, c1, c2, c3⟩ := tb_cells HS5.out.bb0
   obtain ⟨p0, p1, p2, p3, p4, p5, p6, p7, p8, p9⟩ := nd_cells HS5.out.bb2
   go_wp2_with fail
   refine hK2.out _ _ (fun _ => ⟨c0, c1, c2, c3, p0, p1, p2, p3, p4, p5, p6, p7, p8, p9⟩) (fun hHeld => ?_)
   replace hHeld := hHeld (by decide)
   clear hK2 K2
   try simp only [Act.put, qsA, qsB, qsC]
   clear c0 c1 c2 c3
   clear p0 p1 p2 p3 p4 p5 p6 p7 p8 p9
   refine wpAnyK_one (i := 5) (o := _) (by kernel_rfl) rfl (fun K2 hK2 => ?_)
   go_simp
   go_at_call 144
   refine (indexX _ pa A (saidP ⟨kd, pa, fi, tx, er⟩) ⟨op1, at1, vk1, tx1, nu1, vt1, io1, yo1, no1, ko1, iN1, ic1, yN1, yc1, nN1, nc1, kN1, kc1⟩ ⟨op21, at21, vk21, tx21, nu21, vt21, io21, yo21, no21, ko21, iN21, ic21, yN21, yc21, nN21, nc21, kN21, kc21⟩ _ HS5.out.dnW HS5.out.m1 HS5.out.m0).mono ?_
   rintro e w5 ⟨d, rfl, hb, hd⟩
   have HS6 := hQz ((HS5.out.keep hb).add (hd.weak (fun b hb _ => hb)))
   clear hb hd
   obtain ⟨op22, at22, vk22, tx22, nu22, vt22, io22, yo22, no22, ko22, iN22, ic22, yN22, yc22, nN22, nc22, kN22, kc22⟩ := d
   unfold NV.v NV.l
   dsimp only
   obtain ⟨c0, c1, c2, c3⟩ := tb_cells HS6.out.bb0
   obtain ⟨p0, p1, p2, p3, p4, p5, p6, p7, p8, p9⟩ := nd_cells HS6.out.bb2
   obtain ⟨pf0, pf1, pf2, pf3, pf4, pf5, pf6, pf7, pf8, pf9⟩ := nd_frozen HS6.out.bb2
   go_wp2_with fail
   refine hK2.out _ _ (fun _ => ⟨c0, c1, c2, c3, p0, p1, p2, p3, p4, p5, p6, p7, p8, p9⟩) (fun hHeld => ?_)
   replace hHeld := hHeld (by decide)
   clear hK2 K2
   try simp only [Act.put, qsA, qsB, qsC]
   refine wpAnyK_one (i := 6) (o := _) (by kernel_rfl) rfl (fun K2 hK2 => ?_)
   go_simp
   generalize hz6 : ((((((((((w5).setCell ⟨u.heap.size, 0, none⟩ (.int .i64 op22)).setCell ⟨u.heap.size, 1, none⟩ (.int .i64 at22)).setCell ⟨u.heap.size, 2, none⟩ (.string tx22)).setCell ⟨u.heap.size, 3, none⟩ (.int .i64 vk22)).setCell ⟨u.heap.size, 4, none⟩ (.string nu22)).setCell ⟨u.heap.size, 5, none⟩ (.string vt22)).setCell ⟨u.heap.size, 6, none⟩ (.slice io22 iN22 ic22)).setCell ⟨u.heap.size, 7, none⟩ (.slice yo22 yN22 yc22)).setCell ⟨u.heap.size, 8, none⟩ (.slice no22 nN22 nc22)).setCell ⟨u.heap.size, 9, none⟩ (.slice ko22 kN22 kc22) = W6
   have P6 := nd_set HS6.out.bb2 hz6
   have HS7 := hQz (HS6.out.put 2 _ _ [.int .i64 op22, .int .i64 at22, .string tx22, .int .i64 vk22, .string nu22, .string vt22, .slice io22 iN22 ic22, .slice yo22 yN22 yc22, .slice no22 nN22 nc22, .slice ko22 kN22 kc22] _ rfl P6)
   clear P6 hz6
   go_wp2_with fail
   refine hK2.out _ _ (fun hne => absurd rfl hne) (fun _ => ?_)
   clear hK2 K2
   try simp only [Act.put, qsA, qsB, qsC]
   refine wpAnyK_done (by kernel_rfl) ?_ _
   clear c0 c1 c2 c3
   clear p0 p1 p2 p3 p4 p5 p6 p7 p8 p9
   clear hHeld pf0 pf1 pf2 pf3 pf4 pf5 pf6 pf7 pf8 pf9
   have HS8 := hQz (HS7.out.unbox.only)
   go_wp2_with fail
   go_roundw
   case rel =>
    refine ⟨idxP pa A (saidP ⟨kd, pa, fi, tx, er⟩), ⟨op22, at22, vk22, tx22, nu22, vt22, io22, yo22, no22, ko22, iN22, ic22, yN22, yc22, nN22, nc22, kN22, kc22⟩, t3 + 1, o3, f, ?_, HS8, ?_, HR⟩
    · have h1 := HF.out
      have h2 := hl4.out
      show _ < _
      omega
    · have h1 := HK.out
      have h2 := hl4.out
      exact ⟨by omega, by omega⟩
   case measure =>
    rw [HTk.out, HS8.out.px.tk]
    have h2 := hl4.out
    have h3 := HS0.out.px.pat.le
    omega
  | false =>
   go_wp2_with fail
   refine (isX 4 h4 _ HS0.out.px).mono ?_
   rintro e w1 ⟨rfl, hb⟩
   have HS1 := hQz (HS0.out.keep hb)
   clear hb
   go_wp2_with fail
   obtain ⟨c5, h5⟩ : ∃ c, syP ws t3 [46] = c := ⟨_, rfl⟩
   cases c5 with
   | true =>
    have hR := HR.out
    rw [pThen_congr (y := pThen (pTake ws) (fun x => pThen (textP ws nb P) fun k => pOk (.inl (idxP x.at_ A k)))) (by (try dsimp only); rw [if_neg (by rw [h4]; decide), if_pos h5]), pThen_assoc, pThen_ok (x := pTake ws) rfl] at hR
    (try dsimp only at hR)
    rw [pThen_assoc] at hR
    replace HR := hQz hR
    clear hR
    refine (saysX [46] h5 _ HS1.out.px).mono ?_
    rintro e w2 ⟨rfl, hb⟩
    have HS2 := hQz (HS1.out.keep hb)
    clear hb
    go_wp2_with fail
    refine (takeX (sy_lt h5) _ HS2.out.px).mono ?_
    rintro e w3 ⟨rfl, hb, hp⟩
    have HS3 := hQz (HS2.out.step hb hp)
    clear hb hp
    have hl4 := hQz (sy_lt h5)
    clear h4 h5
    generalize hrP ws t3 = X at *
    obtain ⟨kd, pa, fi, tx, er⟩ := X
    unfold tokV
    dsimp only at HR ⊢
    go_wp2_with fail
    have HS4 := hQz (HS3.out.drew)
    obtain ⟨p0, p1, p2, p3, p4, p5, p6, p7, p8, p9⟩ := nd_cells HS4.out.bb1
    refine wp_region_K 5 (S := (fun u1 => u1.cell? ⟨u.heap.size, 0, none⟩ = some (.int .i64 op1) ∧ u1.cell? ⟨u.heap.size, 1, none⟩ = some (.int .i64 at1) ∧ u1.cell? ⟨u.heap.size, 2, none⟩ = some (.string tx1) ∧ u1.cell? ⟨u.heap.size, 3, none⟩ = some (.int .i64 vk1) ∧ u1.cell? ⟨u.heap.size, 4, none⟩ = some (.string nu1) ∧ u1.cell? ⟨u.heap.size, 5, none⟩ = some (.string vt1) ∧ u1.cell? ⟨u.heap.size, 6, none⟩ = some (.slice io1 iN1 ic1) ∧ u1.cell? ⟨u.heap.size, 7, none⟩ = some (.slice yo1 yN1 yc1) ∧ u1.cell? ⟨u.heap.size, 8, none⟩ = some (.slice no1 nN1 nc1) ∧ u1.cell? ⟨u.heap.size, 9, none⟩ = some (.slice ko1 kN1 kc1))) (by kernel_rfl) (by exact ⟨p0, p1, p2, p3, p4, p5, p6, p7, p8, p9⟩) (fun hHeld => ?_)
    clear p0 p1 p2 p3 p4 p5 p6 p7 p8 p9
    refine wpAnyK_take (i := 0) (oi := _) (v := .int .i64 (pa : Int)) rfl (by kernel_rfl) (by kernel_rfl) (by kernel_rfl) (by kernel_rfl) (fun _ _ _ h => h) (Or.inl ⟨by rfl, ?_⟩) (by assumption) ?_
    · intro w hSw
      go_simp
      try (intro hq; exfalso; omega)
    try simp only [Act.put, qsA, qsB, qsC]
    refine wpAnyK_take (i := 1) (oi := _) (v := .agg #[.int .i64 op1, .int .i64 at1, .string tx1, .int .i64 vk1, .string nu1, .string vt1, .slice io1 iN1 ic1, .slice yo1 yN1 yc1, .slice no1 nN1 nc1, .slice ko1 kN1 kc1]) rfl (by kernel_rfl) (by kernel_rfl) (by kernel_rfl) (by kernel_rfl) (fun _ _ _ h => h) (Or.inl ⟨by rfl, ?_⟩) (by assumption) ?_
    · intro w hSw
      obtain ⟨hp0, hp1, hp2, hp3, hp4, hp5, hp6, hp7, hp8, hp9⟩ := hSw
      go_simp
      try (intro hq; exfalso; omega)
    try simp only [Act.put, qsA, qsB, qsC]
    refine wpAnyK_take (i := 2) (oi := _) (v := .pointer (some ⟨B, 0, none⟩)) rfl (by kernel_rfl) (by kernel_rfl) (by kernel_rfl) (by kernel_rfl) (fun _ _ _ h => h) (Or.inl ⟨by rfl, ?_⟩) (by assumption) ?_
    · intro w hSw
      go_simp
      try (intro hq; exfalso; omega)
    try simp only [Act.put, qsA, qsB, qsC]
    refine wpAnyK_one (i := 3) (o := _) (by kernel_rfl) rfl (fun K2 hK2 => ?_)
    go_simp
    go_at_call 146
    refine (textX HPO.out _ _ _ _ HS4.out.dnW HS4.out.dbW HS4.out.px (by have := HK.out; have := HM.out; omega)).mono ?_
    rintro e w4 ⟨hb, hm⟩
    (try dsimp only at hm)
    have hR := HR.out
    obtain ⟨er, q, hr⟩ | ⟨T2, t5, o5, hr⟩ := pr_cases (textP ws nb P (t3 + 1) o3)
    · rw [hr] at hm
      rw [pThen_bad hr] at hR
      obtain rfl : e = .panicked (fcs er q) := hm
      exact ⟨rfl, (HS4.out.bo.trans (Bo.ofBt hb)).toBt, by rw [← hR]⟩
    rw [hr] at hm
    rw [pThen_ok hr] at hR
    (try dsimp only at hR)
    obtain ⟨⟨v, rfl, hE⟩, hp⟩ := hm
    have HL4 := hQz (mv_text (nb := nb) HPO.out.mp _ HS4.out.px.pat.le _ _ _ _ hr)
    have HO4 := hQz (bl_text (nb := nb) HPO.out.bp _ _ _ _ _ HS4.out.px.pat.open_ hr)
    have HQ4 := hQz hr
    replace HR := hQz hR
    have HS5 := hQz (HS4.out.step hb hp)
    clear hb hp hr hR
    obtain ⟨d, rfl, hd⟩ := hE
    have HS6 := hQz (HS5.out.add hd)
    clear hd
    obtain ⟨op21, at21, vk21, tx21, nu21, vt21, io21, yo21, no21, ko21, iN21, ic21, yN21, yc21, nN21, nc21, kN21, kc21⟩ := d
    unfold NV.v NV.l
    dsimp only
    have hR := HR.out
    rw [pThen_ok (x := pOk _) rfl] at hR
    (try dsimp only at hR)
    replace HR := hQz hR
    clear hR
    obtain ⟨p0, p1, p2, p3, p4, p5, p6, p7, p8, p9⟩ := nd_cells HS6.out.bb1
    go_wp2_with fail
    refine hK2.out _ _ (fun _ => ⟨p0, p1, p2, p3, p4, p5, p6, p7, p8, p9⟩) (fun hHeld => ?_)
    replace hHeld := hHeld (by decide)
    clear hK2 K2
    try simp only [Act.put, qsA, qsB, qsC]
    clear p0 p1 p2 p3 p4 p5 p6 p7 p8 p9
    refine wpAnyK_one (i := 4) (o := _) (by kernel_rfl) rfl (fun K2 hK2 => ?_)
    go_simp
    go_at_call 144
    refine (indexX _ pa A T2 ⟨op1, at1, vk1, tx1, nu1, vt1, io1, yo1, no1, ko1, iN1, ic1, yN1, yc1, nN1, nc1, kN1, kc1⟩ ⟨op21, at21, vk21, tx21, nu21, vt21, io21, yo21, no21, ko21, iN21, ic21, yN21, yc21, nN21, nc21, kN21, kc21⟩ _ HS6.out.dnW HS6.out.m1 HS6.out.m0).mono ?_
    rintro e w5 ⟨d, rfl, hb, hd⟩
    have HS7 := hQz ((HS6.out.keep hb).add (hd.weak (fun b hb _ => hb)))
    clear hb hd
    obtain ⟨op22, at22, vk22, tx22, nu22, vt22, io22, yo22, no22, ko22, iN22, ic22, yN22, yc22, nN22, nc22, kN22, kc22⟩ := d
    unfold NV.v NV.l
    dsimp only
    obtain ⟨p0, p1, p2, p3, p4, p5, p6, p7, p8, p9⟩ := nd_cells HS7.out.bb1
    obtain ⟨pf0, pf1, pf2, pf3, pf4, pf5, pf6, pf7, pf8, pf9⟩ := nd_frozen HS7.out.bb1
    go_wp2_with fail
    refine hK2.out _ _ (fun _ => ⟨p0, p1, p2, p3, p4, p5, p6, p7, p8, p9⟩) (fun hHeld => ?_)
    replace hHeld := hHeld (by decide)
    clear hK2 K2
    try simp only [Act.put, qsA, qsB, qsC]
    refine wpAnyK_one (i := 5) (o := _) (by kernel_rfl) rfl (fun K2 hK2 => ?_)
    go_simp
    generalize hz6 : ((((((((((w5).setCell ⟨u.heap.size, 0, none⟩ (.int .i64 op22)).setCell ⟨u.heap.size, 1, none⟩ (.int .i64 at22)).setCell ⟨u.heap.size, 2, none⟩ (.string tx22)).setCell ⟨u.heap.size, 3, none⟩ (.int .i64 vk22)).setCell ⟨u.heap.size, 4, none⟩ (.string nu22)).setCell ⟨u.heap.size, 5, none⟩ (.string vt22)).setCell ⟨u.heap.size, 6, none⟩ (.slice io22 iN22 ic22)).setCell ⟨u.heap.size, 7, none⟩ (.slice yo22 yN22 yc22)).setCell ⟨u.heap.size, 8, none⟩ (.slice no22 nN22 nc22)).setCell ⟨u.heap.size, 9, none⟩ (.slice ko22 kN22 kc22) = W6
    have P6 := nd_set HS7.out.bb1 hz6
    have HS8 := hQz (HS7.out.put 1 _ _ [.int .i64 op22, .int .i64 at22, .string tx22, .int .i64 vk22, .string nu22, .string vt22, .slice io22 iN22 ic22, .slice yo22 yN22 yc22, .slice no22 nN22 nc22, .slice ko22 kN22 kc22] _ rfl P6)
    clear P6 hz6
    go_wp2_with fail
    refine hK2.out _ _ (fun hne => absurd rfl hne) (fun _ => ?_)
    clear hK2 K2
    try simp only [Act.put, qsA, qsB, qsC]
    refine wpAnyK_done (by kernel_rfl) ?_ _
    clear p0 p1 p2 p3 p4 p5 p6 p7 p8 p9 pf0 pf1 pf2 pf3 pf4 pf5 pf6 pf7 pf8 pf9
    clear hHeld
    have HS9 := hQz (HS8.out.only)
    go_wp2_with fail
    go_roundw
    case rel =>
     refine ⟨idxP pa A T2, ⟨op22, at22, vk22, tx22, nu22, vt22, io22, yo22, no22, ko22, iN22, ic22, yN22, yc22, nN22, nc22, kN22, kc22⟩, t5, o5, f, ?_, HS9, ?_, HR⟩
     · have h1 := HF.out
       have h2 := hl4.out
       have h4 := HL4.out
       have h5 := HO4.out
       show _ < _
       omega
     · have h1 := HK.out
       have h2 := hl4.out
       have h4 := HL4.out
       have h5 := HO4.out
       exact ⟨by omega, by omega⟩
    case measure =>
     rw [HTk.out, HS9.out.px.tk]
     have h2 := hl4.out
     have h4 := HL4.out
     have h5 := HO4.out
     have h3 := HS0.out.px.pat.le
     omega
   | false =>
    refine (saysX [46] h5 _ HS1.out.px).mono ?_
    rintro e w2 ⟨rfl, hb⟩
    have HS2 := hQz (HS1.out.keep hb)
    clear hb
    go_wp2_with fail
    obtain ⟨c6, h6⟩ : ∃ c, syP ws t3 [91] = c := ⟨_, rfl⟩
    cases c6 with
    | true =>
     have hR := HR.out
     rw [pThen_congr (y := pThen (bracketP ws nb P A) (fun n => pOk (.inl n))) (by (try dsimp only); rw [if_neg (by rw [h4]; decide), if_neg (by rw [h5]; decide), if_pos h6]), pThen_assoc] at hR
     replace HR := hQz hR
     clear hR
     refine (saysX [91] h6 _ HS2.out.px).mono ?_
     rintro e w3 ⟨rfl, hb⟩
     have HS3 := hQz (HS2.out.keep hb)
     clear hb
     obtain ⟨p0, p1, p2, p3, p4, p5, p6, p7, p8, p9⟩ := nd_cells HS3.out.bb1
     go_wp2_with fail
     clear p0 p1 p2 p3 p4 p5 p6 p7 p8 p9
     refine (bracketX HPO.out _ _ _ _ A ⟨op1, at1, vk1, tx1, nu1, vt1, io1, yo1, no1, ko1, iN1, ic1, yN1, yc1, nN1, nc1, kN1, kc1⟩ HS3.out.dnW HS3.out.dbW HS3.out.px (by have := HK.out; have := HM.out; omega) HS3.out.m0).mono ?_
     rintro e w4 ⟨hb, hm⟩
     (try dsimp only at hm)
     have hR := HR.out
     obtain ⟨er, q, hr⟩ | ⟨T2, t5, o5, hr⟩ := pr_cases (bracketP ws nb P A t3 o3)
     · rw [hr] at hm
       rw [pThen_bad hr] at hR
       obtain rfl : e = .panicked (fcs er q) := hm
       exact ⟨rfl, (HS3.out.bo.trans (Bo.ofBt hb)).toBt, by rw [← hR]⟩
     rw [hr] at hm
     rw [pThen_ok hr] at hR
     (try dsimp only at hR)
     obtain ⟨⟨v, rfl, hE⟩, hp⟩ := hm
     have HL4 := hQz (mv_bracket (nb := nb) HPO.out.mp A _ HS3.out.px.pat.le _ _ _ _ hr)
     have HO4 := hQz (bl_bracket (nb := nb) HPO.out.bp A _ _ _ _ _ HS3.out.px.pat.open_ hr)
     have HQ4 := hQz hr
     replace HR := hQz hR
     have HS4 := hQz (HS3.out.step hb hp)
     clear hb hp hr hR
     obtain ⟨d, rfl, hd⟩ := hE
     have HS5 := hQz (HS4.out.add hd)
     clear hd
     obtain ⟨op22, at22, vk22, tx22, nu22, vt22, io22, yo22, no22, ko22, iN22, ic22, yN22, yc22, nN22, nc22, kN22, kc22⟩ := d
     unfold NV.v NV.l
     dsimp only
     have hR := HR.out
     rw [pThen_ok (x := pOk _) rfl] at hR
     (try dsimp only at hR)
     replace HR := hQz hR
     clear hR
     obtain ⟨p0, p1, p2, p3, p4, p5, p6, p7, p8, p9⟩ := nd_cells HS5.out.bb1
     obtain ⟨pf0, pf1, pf2, pf3, pf4, pf5, pf6, pf7, pf8, pf9⟩ := nd_frozen HS5.out.bb1
     go_wp2_with fail
     generalize hz5 : ((((((((((w4).setCell ⟨u.heap.size, 0, none⟩ (.int .i64 op22)).setCell ⟨u.heap.size, 1, none⟩ (.int .i64 at22)).setCell ⟨u.heap.size, 2, none⟩ (.string tx22)).setCell ⟨u.heap.size, 3, none⟩ (.int .i64 vk22)).setCell ⟨u.heap.size, 4, none⟩ (.string nu22)).setCell ⟨u.heap.size, 5, none⟩ (.string vt22)).setCell ⟨u.heap.size, 6, none⟩ (.slice io22 iN22 ic22)).setCell ⟨u.heap.size, 7, none⟩ (.slice yo22 yN22 yc22)).setCell ⟨u.heap.size, 8, none⟩ (.slice no22 nN22 nc22)).setCell ⟨u.heap.size, 9, none⟩ (.slice ko22 kN22 kc22) = W5
     have P5 := nd_set HS5.out.bb1 hz5
     have HS6 := hQz (HS5.out.put 1 _ _ [.int .i64 op22, .int .i64 at22, .string tx22, .int .i64 vk22, .string nu22, .string vt22, .slice io22 iN22 ic22, .slice yo22 yN22 yc22, .slice no22 nN22 nc22, .slice ko22 kN22 kc22] _ rfl P5)
     clear P5 hz5
     clear p0 p1 p2 p3 p4 p5 p6 p7 p8 p9 pf0 pf1 pf2 pf3 pf4 pf5 pf6 pf7 pf8 pf9
     have HS7 := hQz (HS6.out.only)
     go_roundw
     case rel =>
      refine ⟨T2, ⟨op22, at22, vk22, tx22, nu22, vt22, io22, yo22, no22, ko22, iN22, ic22, yN22, yc22, nN22, nc22, kN22, kc22⟩, t5, o5, f, ?_, HS7, ?_, HR⟩
      · have h1 := HF.out
        have h4 := HL4.out
        have h5 := HO4.out
        show _ < _
        omega
      · have h1 := HK.out
        have h4 := HL4.out
        have h5 := HO4.out
        exact ⟨by omega, by omega⟩
     case measure =>
      rw [HTk.out, HS7.out.px.tk]
      have h4 := HL4.out
      have h5 := HO4.out
      have h3 := HS0.out.px.pat.le
      omega
    | false =>
     refine (saysX [91] h6 _ HS2.out.px).mono ?_
     rintro e w3 ⟨rfl, hb⟩
     have HS3 := hQz (HS2.out.keep hb)
     clear hb
     go_wp2_with fail
     obtain ⟨c7, h7⟩ : ∃ c, syP ws t3 [63] = c := ⟨_, rfl⟩
     cases c7 with
     | true =>
      have hR := HR.out
      rw [pThen_ok (a := .inl (ndP 10 (hrP ws t3).at_ [A])) (t' := t3 + 1) (o' := o3) (by (try dsimp only); rw [if_neg (by rw [h4]; decide), if_neg (by rw [h5]; decide), if_neg (by rw [h6]; decide), if_pos h7])] at hR
      (try dsimp only at hR)
      replace HR := hQz hR
      clear hR
      refine (saysX [63] h7 _ HS3.out.px).mono ?_
      rintro e w4 ⟨rfl, hb⟩
      have HS4 := hQz (HS3.out.keep hb)
      clear hb
      have hl4 := hQz (sy_lt h7)
      have HTake : Hid (∀ W, PX W B so sc ws nb t3 o3 → Calls Tryz.prog 109 #[.pointer (some ⟨B, 0, none⟩)] W fun e w' => e = .returned (tokV (hrP ws t3)) ∧ Bt B W w' ∧ PX w' B so sc ws nb (t3 + 1) o3) := fun W hW => takeX (sy_lt h7) W hW
      clear h4 h5 h6 h7
      generalize hrP ws t3 = X at *
      obtain ⟨kd, pa, fi, tx, er⟩ := X
      unfold tokV at HTake
      dsimp only at HR HTake
      go_wp2_with fail
      have HS5 := hQz (HS4.out.drew)
      obtain ⟨p0, p1, p2, p3, p4, p5, p6, p7, p8, p9⟩ := nd_cells HS5.out.bb1
      refine wp_region_K 8 (S := (fun u1 => u1.cell? ⟨u.heap.size, 0, none⟩ = some (.int .i64 op1) ∧ u1.cell? ⟨u.heap.size, 1, none⟩ = some (.int .i64 at1) ∧ u1.cell? ⟨u.heap.size, 2, none⟩ = some (.string tx1) ∧ u1.cell? ⟨u.heap.size, 3, none⟩ = some (.int .i64 vk1) ∧ u1.cell? ⟨u.heap.size, 4, none⟩ = some (.string nu1) ∧ u1.cell? ⟨u.heap.size, 5, none⟩ = some (.string vt1) ∧ u1.cell? ⟨u.heap.size, 6, none⟩ = some (.slice io1 iN1 ic1) ∧ u1.cell? ⟨u.heap.size, 7, none⟩ = some (.slice yo1 yN1 yc1) ∧ u1.cell? ⟨u.heap.size, 8, none⟩ = some (.slice no1 nN1 nc1) ∧ u1.cell? ⟨u.heap.size, 9, none⟩ = some (.slice ko1 kN1 kc1))) (by kernel_rfl) (by exact ⟨p0, p1, p2, p3, p4, p5, p6, p7, p8, p9⟩) (fun hHeld => ?_)
      clear p0 p1 p2 p3 p4 p5 p6 p7 p8 p9
      refine wpAnyK_take (i := 0) (oi := _) (v := .pointer (some ⟨B, 0, none⟩)) rfl (by kernel_rfl) (by kernel_rfl) (by kernel_rfl) (by kernel_rfl) (fun _ _ _ h => h) (Or.inl ⟨by rfl, ?_⟩) (by assumption) ?_
      · intro w hSw
        go_simp
        try (intro hq; exfalso; omega)
      try simp only [Act.put, qsA, qsB, qsC]
      refine wpAnyK_take (i := 1) (oi := _) (v := .pointer (some ⟨B, 0, none⟩)) rfl (by kernel_rfl) (by kernel_rfl) (by kernel_rfl) (by kernel_rfl) (fun _ _ _ h => h) (Or.inl ⟨by rfl, ?_⟩) (by assumption) ?_
      · intro w hSw
        go_simp
        try (intro hq; exfalso; omega)
      try simp only [Act.put, qsA, qsB, qsC]
      refine wpAnyK_take (i := 2) (oi := _) (v := .pointer (some ⟨B, 0, none⟩)) rfl (by kernel_rfl) (by kernel_rfl) (by kernel_rfl) (by kernel_rfl) (fun _ _ _ h => h) (Or.inl ⟨by rfl, ?_⟩) (by assumption) ?_
      · intro w hSw
        go_simp
        try (intro hq; exfalso; omega)
      try simp only [Act.put, qsA, qsB, qsC]
      refine wpAnyK_take (i := 5) (oi := _) (v := .agg #[.int .i64 op1, .int .i64 at1, .string tx1, .int .i64 vk1, .string nu1, .string vt1, .slice io1 iN1 ic1, .slice yo1 yN1 yc1, .slice no1 nN1 nc1, .slice ko1 kN1 kc1]) rfl (by kernel_rfl) (by kernel_rfl) (by kernel_rfl) (by kernel_rfl) (fun _ _ _ h => h) (Or.inl ⟨by rfl, ?_⟩) (by assumption) ?_
      · intro w hSw
        obtain ⟨hp0, hp1, hp2, hp3, hp4, hp5, hp6, hp7, hp8, hp9⟩ := hSw
        go_simp
        try (intro hq; exfalso; omega)
      try simp only [Act.put, qsA, qsB, qsC]
      refine wpAnyK_two (i := 3) (j := 6) (oi := _) (oj := _) (by kernel_rfl) rfl rfl (fun K2 hK2 => ?_) (fun K2 hK2 => ?_)
      · go_simp
        go_at_call 109
        refine (HTake.out _ HS5.out.px).mono ?_
        rintro e w5 ⟨rfl, hb, hp⟩
        have HS6 := hQz (HS5.out.step hb hp)
        clear hb hp
        obtain ⟨p0, p1, p2, p3, p4, p5, p6, p7, p8, p9⟩ := nd_cells HS6.out.bb1
        go_wp2_with fail
        refine hK2.out _ _ (fun _ => ⟨p0, p1, p2, p3, p4, p5, p6, p7, p8, p9⟩) (fun hHeld => ?_)
        replace hHeld := hHeld (by decide)
        clear hK2 K2
        try simp only [Act.put, qsA, qsB, qsC]
        clear p0 p1 p2 p3 p4 p5 p6 p7 p8 p9
        refine wpAnyK_take (i := 4) (oi := _) (v := .int .i64 (pa : Int)) rfl (by kernel_rfl) (by kernel_rfl) (by kernel_rfl) (by kernel_rfl) (fun _ _ _ h => h) (Or.inl ⟨by rfl, ?_⟩) (by assumption) ?_
        · intro w hSw
          go_simp
          try (intro hq; exfalso; omega)
        try simp only [Act.put, qsA, qsB, qsC]
        obtain ⟨W6, hW6⟩ : ∃ W, w5.alloc (.cells #[.int .i64 op1, .int .i64 at1, .string tx1, .int .i64 vk1, .string nu1, .string vt1, .slice io1 iN1 ic1, .slice yo1 yN1 yc1, .slice no1 nN1 nc1, .slice ko1 kN1 kc1] 28) = W := ⟨_, rfl⟩
        have HS7 := hQz (HS6.out.alloc [.int .i64 op1, .int .i64 at1, .string tx1, .int .i64 vk1, .string nu1, .string vt1, .slice io1 iN1 ic1, .slice yo1 yN1 yc1, .slice no1 nN1 nc1, .slice ko1 kN1 kc1] 28)
        rw [hW6] at HS7
        obtain ⟨p0, p1, p2, p3, p4, p5, p6, p7, p8, p9⟩ := nd_cells HS7.out.bb2
        refine wpAnyK_one (i := 6) (o := _) (by kernel_rfl) rfl (fun K2 hK2 => ?_)
        go_simp
        go_wp2_with fail
        refine hK2.out _ _ (fun _ => ⟨p0, p1, p2, p3, p4, p5, p6, p7, p8, p9⟩) (fun hHeld => ?_)
        replace hHeld := hHeld (by decide)
        clear hK2 K2
        try simp only [Act.put, qsA, qsB, qsC]
        clear p0 p1 p2 p3 p4 p5 p6 p7 p8 p9
        clear hW6
        refine wpAnyK_take (i := 7) (oi := _) (v := .agg #[.int .i64 10, .int .i64 (pa : Int), .string ⟨#[]⟩, .int .i64 0, .string ⟨#[]⟩, .string ⟨#[]⟩, .slice none 0 0, .slice none 0 0, .slice none 0 0, .slice (some ⟨w5.heap.size, 0, none⟩) 1 1]) rfl (by kernel_rfl) (by kernel_rfl) (by kernel_rfl) (by kernel_rfl) (fun _ _ _ h => h) (Or.inl ⟨by rfl, ?_⟩) (by assumption) ?_
        · intro w hSw
          go_simp
          try (intro hq; exfalso; omega)
        try simp only [Act.put, qsA, qsB, qsC]
        obtain ⟨p0, p1, p2, p3, p4, p5, p6, p7, p8, p9⟩ := nd_cells HS7.out.bb2
        obtain ⟨pf0, pf1, pf2, pf3, pf4, pf5, pf6, pf7, pf8, pf9⟩ := nd_frozen HS7.out.bb2
        refine wpAnyK_one (i := 8) (o := _) (by kernel_rfl) rfl (fun K2 hK2 => ?_)
        go_simp
        generalize hz7 : ((((((((((W6).setCell ⟨u.heap.size, 0, none⟩ (.int .i64 10)).setCell ⟨u.heap.size, 1, none⟩ (.int .i64 (pa : Int))).setCell ⟨u.heap.size, 2, none⟩ (.string ⟨#[]⟩)).setCell ⟨u.heap.size, 3, none⟩ (.int .i64 0)).setCell ⟨u.heap.size, 4, none⟩ (.string ⟨#[]⟩)).setCell ⟨u.heap.size, 5, none⟩ (.string ⟨#[]⟩)).setCell ⟨u.heap.size, 6, none⟩ (.slice none 0 0)).setCell ⟨u.heap.size, 7, none⟩ (.slice none 0 0)).setCell ⟨u.heap.size, 8, none⟩ (.slice none 0 0)).setCell ⟨u.heap.size, 9, none⟩ (.slice (some ⟨w5.heap.size, 0, none⟩) 1 1) = W7
        have P7 := nd_set HS7.out.bb2 hz7
        have HS8 := hQz (HS7.out.put 2 _ _ [.int .i64 10, .int .i64 (pa : Int), .string ⟨#[]⟩, .int .i64 0, .string ⟨#[]⟩, .string ⟨#[]⟩, .slice none 0 0, .slice none 0 0, .slice none 0 0, .slice (some ⟨w5.heap.size, 0, none⟩) 1 1] _ rfl P7)
        clear P7 hz7
        go_wp2_with fail
        refine hK2.out _ _ (fun hne => absurd rfl hne) (fun _ => ?_)
        clear hK2 K2
        try simp only [Act.put, qsA, qsB, qsC]
        refine wpAnyK_done (by kernel_rfl) ?_ _
        clear p0 p1 p2 p3 p4 p5 p6 p7 p8 p9 pf0 pf1 pf2 pf3 pf4 pf5 pf6 pf7 pf8 pf9
        clear hHeld
        go_wp2_with fail
        have HS9 := hQz ((HS8.out.mkrow (T := ndP 10 pa [A]) (d := ⟨10, (pa : Int), 0, ⟨#[]⟩, ⟨#[]⟩, ⟨#[]⟩, none, none, none, some ⟨w5.heap.size, 0, none⟩, 0, 0, 0, 0, 0, 0, 1, 1⟩) (fun ht hg hw => NdI.lit (Ts := [A]) (ds := [⟨op1, at1, vk1, tx1, nu1, vt1, io1, yo1, no1, ko1, iN1, ic1, yN1, yc1, nN1, nc1, kN1, kc1⟩]) 10 (pa : Int) .empty size0 rfl (by simp) hw hg (els1 (ht (A, _) mcS)))).only)
        go_roundw
        case rel =>
         refine ⟨ndP 10 pa [A], ⟨10, (pa : Int), 0, ⟨#[]⟩, ⟨#[]⟩, ⟨#[]⟩, none, none, none, some ⟨w5.heap.size, 0, none⟩, 0, 0, 0, 0, 0, 0, 1, 1⟩, t3 + 1, o3, f, ?_, HS9, ?_, HR⟩
         · have h1 := HF.out
           show _ < _
           omega
         · have h1 := HK.out
           exact ⟨by omega, by omega⟩
        case measure =>
         rw [HTk.out, HS9.out.px.tk]
         have h2 := hl4.out
         omega
      · obtain ⟨W5, hW5⟩ : ∃ W, w4.drew.alloc (.cells #[.int .i64 op1, .int .i64 at1, .string tx1, .int .i64 vk1, .string nu1, .string vt1, .slice io1 iN1 ic1, .slice yo1 yN1 yc1, .slice no1 nN1 nc1, .slice ko1 kN1 kc1] 28) = W := ⟨_, rfl⟩
        have HS6 := hQz (HS5.out.alloc [.int .i64 op1, .int .i64 at1, .string tx1, .int .i64 vk1, .string nu1, .string vt1, .slice io1 iN1 ic1, .slice yo1 yN1 yc1, .slice no1 nN1 nc1, .slice ko1 kN1 kc1] 28)
        rw [hW5] at HS6
        rw [show w4.drew.heap.size = w4.heap.size from rfl] at HS6
        obtain ⟨p0, p1, p2, p3, p4, p5, p6, p7, p8, p9⟩ := nd_cells HS6.out.bb2
        go_simp
        go_wp2_with fail
        refine hK2.out _ _ (fun _ => ⟨p0, p1, p2, p3, p4, p5, p6, p7, p8, p9⟩) (fun hHeld => ?_)
        replace hHeld := hHeld (by decide)
        clear hK2 K2
        try simp only [Act.put, qsA, qsB, qsC]
        clear p0 p1 p2 p3 p4 p5 p6 p7 p8 p9
        refine wpAnyK_one (i := 3) (o := _) (by kernel_rfl) rfl (fun K2 hK2 => ?_)
        go_simp
        go_at_call 109
        refine (HTake.out _ HS6.out.px).mono ?_
        rintro e w6 ⟨rfl, hb, hp⟩
        have HS7 := hQz (HS6.out.step hb hp)
        clear hb hp
        clear hW5
        obtain ⟨p0, p1, p2, p3, p4, p5, p6, p7, p8, p9⟩ := nd_cells HS7.out.bb2
        go_wp2_with fail
        refine hK2.out _ _ (fun _ => ⟨p0, p1, p2, p3, p4, p5, p6, p7, p8, p9⟩) (fun hHeld => ?_)
        replace hHeld := hHeld (by decide)
        clear hK2 K2
        try simp only [Act.put, qsA, qsB, qsC]
        clear p0 p1 p2 p3 p4 p5 p6 p7 p8 p9
        refine wpAnyK_take (i := 4) (oi := _) (v := .int .i64 (pa : Int)) rfl (by kernel_rfl) (by kernel_rfl) (by kernel_rfl) (by kernel_rfl) (fun _ _ _ h => h) (Or.inl ⟨by rfl, ?_⟩) (by assumption) ?_
        · intro w hSw
          go_simp
          try (intro hq; exfalso; omega)
        try simp only [Act.put, qsA, qsB, qsC]
        refine wpAnyK_take (i := 7) (oi := _) (v := .agg #[.int .i64 10, .int .i64 (pa : Int), .string ⟨#[]⟩, .int .i64 0, .string ⟨#[]⟩, .string ⟨#[]⟩, .slice none 0 0, .slice none 0 0, .slice none 0 0, .slice (some ⟨w4.heap.size, 0, none⟩) 1 1]) rfl (by kernel_rfl) (by kernel_rfl) (by kernel_rfl) (by kernel_rfl) (fun _ _ _ h => h) (Or.inl ⟨by rfl, ?_⟩) (by assumption) ?_
        · intro w hSw
          go_simp
          try (intro hq; exfalso; omega)
        try simp only [Act.put, qsA, qsB, qsC]
        obtain ⟨p0, p1, p2, p3, p4, p5, p6, p7, p8, p9⟩ := nd_cells HS7.out.bb2
        obtain ⟨pf0, pf1, pf2, pf3, pf4, pf5, pf6, pf7, pf8, pf9⟩ := nd_frozen HS7.out.bb2
        refine wpAnyK_one (i := 8) (o := _) (by kernel_rfl) rfl (fun K2 hK2 => ?_)
        go_simp
        generalize hz7 : ((((((((((w6).setCell ⟨u.heap.size, 0, none⟩ (.int .i64 10)).setCell ⟨u.heap.size, 1, none⟩ (.int .i64 (pa : Int))).setCell ⟨u.heap.size, 2, none⟩ (.string ⟨#[]⟩)).setCell ⟨u.heap.size, 3, none⟩ (.int .i64 0)).setCell ⟨u.heap.size, 4, none⟩ (.string ⟨#[]⟩)).setCell ⟨u.heap.size, 5, none⟩ (.string ⟨#[]⟩)).setCell ⟨u.heap.size, 6, none⟩ (.slice none 0 0)).setCell ⟨u.heap.size, 7, none⟩ (.slice none 0 0)).setCell ⟨u.heap.size, 8, none⟩ (.slice none 0 0)).setCell ⟨u.heap.size, 9, none⟩ (.slice (some ⟨w4.heap.size, 0, none⟩) 1 1) = W7
        have P7 := nd_set HS7.out.bb2 hz7
        have HS8 := hQz (HS7.out.put 2 _ _ [.int .i64 10, .int .i64 (pa : Int), .string ⟨#[]⟩, .int .i64 0, .string ⟨#[]⟩, .string ⟨#[]⟩, .slice none 0 0, .slice none 0 0, .slice none 0 0, .slice (some ⟨w4.heap.size, 0, none⟩) 1 1] _ rfl P7)
        clear P7 hz7
        go_wp2_with fail
        refine hK2.out _ _ (fun hne => absurd rfl hne) (fun _ => ?_)
        clear hK2 K2
        try simp only [Act.put, qsA, qsB, qsC]
        refine wpAnyK_done (by kernel_rfl) ?_ _
        clear p0 p1 p2 p3 p4 p5 p6 p7 p8 p9 pf0 pf1 pf2 pf3 pf4 pf5 pf6 pf7 pf8 pf9
        clear hHeld
        go_wp2_with fail
        have HS9 := hQz ((HS8.out.mkrow (T := ndP 10 pa [A]) (d := ⟨10, (pa : Int), 0, ⟨#[]⟩, ⟨#[]⟩, ⟨#[]⟩, none, none, none, some ⟨w4.heap.size, 0, none⟩, 0, 0, 0, 0, 0, 0, 1, 1⟩) (fun ht hg hw => NdI.lit (Ts := [A]) (ds := [⟨op1, at1, vk1, tx1, nu1, vt1, io1, yo1, no1, ko1, iN1, ic1, yN1, yc1, nN1, nc1, kN1, kc1⟩]) 10 (pa : Int) .empty size0 rfl (by simp) hw hg (els1 (ht (A, _) mcS)))).only)
        go_roundw
        case rel =>
         refine ⟨ndP 10 pa [A], ⟨10, (pa : Int), 0, ⟨#[]⟩, ⟨#[]⟩, ⟨#[]⟩, none, none, none, some ⟨w4.heap.size, 0, none⟩, 0, 0, 0, 0, 0, 0, 1, 1⟩, t3 + 1, o3, f, ?_, HS9, ?_, HR⟩
         · have h1 := HF.out
           show _ < _
           omega
         · have h1 := HK.out
           exact ⟨by omega, by omega⟩
        case measure =>
         rw [HTk.out, HS9.out.px.tk]
         have h2 := hl4.out
         omega
     | false =>
      have hR := HR.out
      rw [pThen_ok (a := .inr A) (t' := t3) (o' := o3) (by (try dsimp only); rw [if_neg (by rw [h4]; decide), if_neg (by rw [h5]; decide), if_neg (by rw [h6]; decide), if_neg (by rw [h7]; decide)])] at hR
      (try dsimp only at hR)
      replace HR := hQz hR
      clear hR
      refine (saysX [63] h7 _ HS3.out.px).mono ?_
      rintro e w4 ⟨rfl, hb⟩
      have HS4 := hQz (HS3.out.keep hb)
      clear hb
      obtain ⟨p0, p1, p2, p3, p4, p5, p6, p7, p8, p9⟩ := nd_cells HS4.out.bb1
      obtain ⟨r0, r1, r2, r3, r4, r5, r6, r7, r8, r9⟩ := nd_cells HS4.out.bb0
      obtain ⟨rf0, rf1, rf2, rf3, rf4, rf5, rf6, rf7, rf8, rf9⟩ := nd_frozen HS4.out.bb0
      go_wp2_with fail
      generalize hzZ : ((((((((((w4).setCell ⟨u.heap.size + 1, 0, none⟩ (.int .i64 op1)).setCell ⟨u.heap.size + 1, 1, none⟩ (.int .i64 at1)).setCell ⟨u.heap.size + 1, 2, none⟩ (.string tx1)).setCell ⟨u.heap.size + 1, 3, none⟩ (.int .i64 vk1)).setCell ⟨u.heap.size + 1, 4, none⟩ (.string nu1)).setCell ⟨u.heap.size + 1, 5, none⟩ (.string vt1)).setCell ⟨u.heap.size + 1, 6, none⟩ (.slice io1 iN1 ic1)).setCell ⟨u.heap.size + 1, 7, none⟩ (.slice yo1 yN1 yc1)).setCell ⟨u.heap.size + 1, 8, none⟩ (.slice no1 nN1 nc1)).setCell ⟨u.heap.size + 1, 9, none⟩ (.slice ko1 kN1 kc1) = WZ
      have PZ := nd_set HS4.out.bb0 hzZ
      obtain ⟨m0, m1, m2, m3, m4, m5, m6, m7, m8, m9⟩ := nd_cells PZ.new
      have HZ := HS4.out.put 0 _ _ [.int .i64 op1, .int .i64 at1, .string tx1, .int .i64 vk1, .string nu1, .string vt1, .slice io1 iN1 ic1, .slice yo1 yN1 yc1, .slice no1 nN1 nc1, .slice ko1 kN1 kc1] _ rfl PZ
      refine bodyPost_ret (v := .agg #[.int .i64 op1, .int .i64 at1, .string tx1, .int .i64 vk1, .string nu1, .string vt1, .slice io1 iN1 ic1, .slice yo1 yN1 yc1, .slice no1 nN1 nc1, .slice ko1 kN1 kc1]) (by simp [results, Tryz.results137, go_sem, m0, m1, m2, m3, m4, m5, m6, m7, m8, m9]) rfl ?_
      have hR := HR.out
      refine ⟨HZ.bo.toBt, ?_⟩
      rw [← hR]
      exact ⟨⟨_, rfl, ⟨op1, at1, vk1, tx1, nu1, vt1, io1, yo1, no1, ko1, iN1, ic1, yN1, yc1, nN1, nc1, kN1, kc1⟩, rfl, HZ.t0⟩, HZ.px⟩
end
end Go.Proofs.YtajnaiddcobkiaaGreatDoor
