import Derived.Test.YtajnaiddcobkiaaGreatDoorM39
import Derived.Test.YtajnaiddcobkiaaGreatDoorM36
namespace Go.Proofs.YtajnaiddcobkiaaGreatDoor
open Go.RowKit Go.Shelf
set_option linter.unusedVariables false
set_option linter.unusedSimpArgs false
attribute [local go_sem] Oper.semAt_some
set_option maxRecDepth 100000
set_option maxHeartbeats 12800000
section
variable (ws : List Tok) (nb : Nat) (P : PM NT) (O : Nat → PM NT)
def dotP : PM NT := fun t o => if isP ws 6 (t + 1) || isP ws 7 (t + 1) then pThen (textP ws nb P) (fun k => pOk (idxP (hrP ws t).at_ (selfP (hrP ws t).at_) k)) (t + 1) o else .ok (selfP (hrP ws t).at_) (t + 1) o
def markedP : PM NT := fun t o => if (hrP ws t).text = [46] then dotP ws nb P t o else if (hrP ws t).text = [46, 46] then .ok (txP 33 (hrP ws t).at_ [114, 101, 99, 117, 114, 115, 101] []) (t + 1) o
 else if (hrP ws t).text = [40] then groupP ws nb P t o else if (hrP ws t).text = [91] then listP ws nb P t o else if (hrP ws t).text = [123] then recordP ws nb P O t o else pFt ws nb t o
def ownedP : PM NT := fun t o => if (hrP ws t).text = [110, 117, 108, 108] then .ok (cnP (hrP ws t).at_ vtN) (t + 1) o else if (hrP ws t).text = [116, 114, 117, 101] then .ok (cnP (hrP ws t).at_ (.mk 2 .empty .empty [] [])) (t + 1) o
 else if (hrP ws t).text = [102, 97, 108, 115, 101] then .ok (cnP (hrP ws t).at_ (.mk 1 .empty .empty [] [])) (t + 1) o else if (hrP ws t).text = [105, 102] then choiceP ws nb P t o
 else if (hrP ws t).text = [98, 114, 101, 97, 107] then pThen (pBe ws nb 3) (fun y => pOk (txP 35 (hrP ws t).at_ y.text [])) (t + 1) o else pFt ws nb t o
theorem term_eq (t o : Nat) : termP ws nb P O t o = if (hrP ws t).kind = 10 then markedP ws nb P O t o else if (hrP ws t).kind = 2 then ownedP ws nb P t o
 else if (hrP ws t).kind = 4 then .ok (fldP (hrP ws t)) (t + 1) o else if (hrP ws t).kind = 5 then .ok (cnP (hrP ws t).at_ (.mk 3 ⟨(hrP ws t).text.toArray⟩ .empty [] [])) (t + 1) o
 else if (hrP ws t).kind = 6 ∨ (hrP ws t).kind = 7 then textP ws nb P t o else if (hrP ws t).kind = 3 then .ok (varP (hrP ws t)) (t + 1) o else if (hrP ws t).kind = 1 then callP ws nb P t o else pFt ws nb t o := rfl
end
section
variable {B : Nat} {so : Option Addr} {sc : Nat} {ws : List Tok} {nb : Nat} {m : Nat} {P : PM NT} {O : Nat → PM NT}
theorem dotX (h : PO B so sc ws nb (m + 1) P O) : NodeL B so sc ws nb 162 m (dotP ws nb P) := by
 intro D u t o dn db hx hm ht
 obtain ⟨R, hR⟩ : ∃ R, dotP ws nb P t o = R := ⟨_, rfl⟩
 rw [hR]
 unfold dotP at hR
 have HR := hQz hR
 have HPO := hQz h
 have HS0 := hQz (SB.new (Fl := false) (tr := []) hx dn db (fun q hq => by simp at hq))
 have HX := hQz (And.intro hx.pat.le hx.pat.open_)
 have HM := hQz hm
 have hfl0 := Tryz.fldX0
 have hfl1 := Tryz.fldX1
 have hfl3 := Tryz.fldX3
 clear hR h hx hm dn db
 have Htx := hQz (HPO.out.tx t)
 have HT : Hid (∀ u, PX u B so sc ws nb t o → Calls Tryz.prog 109 #[.pointer (some ⟨B, 0, none⟩)] u fun e w' => e = .returned (tokV (hrP ws t)) ∧ Bt B u w' ∧ PX w' B so sc ws nb (t + 1) o) := fun u hu => takeX ht u hu
 clear ht
 generalize hrP ws t = X at *
 obtain ⟨kd, pa, fi, tx, er⟩ := X
 unfold tokV at HT
 dsimp only at HT HR
 obtain ⟨c6, h6⟩ : ∃ c, isP ws 6 (t + 1) = c := ⟨_, rfl⟩
 cases c6 with
 | true =>
  go_enter Tryz.func162, Tryz.ntmps162
  go_wp2_with fail
  have HS1 := hQz (HS0.out.alloc [.int .i64 0, .int .i64 0, .string ⟨#[]⟩, .int .i64 0, .string ⟨#[]⟩, .string ⟨#[]⟩, .slice none 0 0, .slice none 0 0, .slice none 0 0, .slice none 0 0] 28)
  refine (HT.out _ HS1.out.px).mono ?_
  rintro e w1 ⟨rfl, hb, hp⟩
  have HS2 := hQz (HS1.out.step hb hp)
  clear hb hp
  go_wp2_with fail
  refine (isX 6 h6 _ HS2.out.px).mono ?_
  rintro e w2 ⟨rfl, hb⟩
  have HS3 := hQz (HS2.out.keep hb)
  clear hb
  go_wp2_with fail
  have hR := HR.out
  rw [if_pos (by rw [h6]; rfl)] at hR
  replace HR := hQz hR
  clear hR
  refine (selfX (fun _ => False) pa _).mono ?_
  rintro e w3 ⟨d, rfl, hb, hd⟩
  have HS4 := hQz ((HS3.out.keep hb).add (hd.weak (fun b hb _ => hb.elim)))
  clear hb hd
  obtain ⟨op1, at1, vk1, tx1, nu1, vt1, io1, yo1, no1, ko1, iN1, ic1, yN1, yc1, nN1, nc1, kN1, kc1⟩ := d
  unfold NV.v NV.l
  dsimp only
  go_wp2_with fail
  refine (textX HPO.out _ _ _ _ HS4.out.dnW HS4.out.dbW HS4.out.px (by have := HM.out; omega)).mono ?_
  rintro e w4 ⟨hb, hm⟩
  (try dsimp only at hm)
  have hR := HR.out
  obtain ⟨er, q, hr⟩ | ⟨T2, t2, o2, hr⟩ := pr_cases (textP ws nb P (t + 1) o)
  · rw [hr] at hm
    rw [pThen_bad hr] at hR
    obtain rfl : e = .panicked (fcs er q) := hm
    exact ⟨rfl, (HS4.out.bo.trans (Bo.ofBt hb)).toBt, by rw [← hR]⟩
  rw [hr] at hm
  rw [pThen_ok hr] at hR
  (try dsimp only at hR)
  obtain ⟨⟨v, rfl, hE⟩, hp⟩ := hm
  have HQ4 := hQz hr
  replace HR := hQz hR
  have HS5 := hQz (HS4.out.step hb hp)
  clear hb hp hr hR
  obtain ⟨d, rfl, hd⟩ := hE
  have HS6 := hQz (HS5.out.add hd)
  clear hd
  obtain ⟨op2, at2, vk2, tx2, nu2, vt2, io2, yo2, no2, ko2, iN2, ic2, yN2, yc2, nN2, nc2, kN2, kc2⟩ := d
  unfold NV.v NV.l
  dsimp only
  go_wp2_with fail
  refine (indexX _ pa (selfP pa) T2 ⟨op1, at1, vk1, tx1, nu1, vt1, io1, yo1, no1, ko1, iN1, ic1, yN1, yc1, nN1, nc1, kN1, kc1⟩ ⟨op2, at2, vk2, tx2, nu2, vt2, io2, yo2, no2, ko2, iN2, ic2, yN2, yc2, nN2, nc2, kN2, kc2⟩ _ HS6.out.dnW HS6.out.m1 HS6.out.m0).mono ?_
  rintro e w5 ⟨d, rfl, hb, hd⟩
  have HS7 := hQz ((HS6.out.keep hb).add (hd.weak (fun b hb _ => hb)))
  clear hb hd
  obtain ⟨op3, at3, vk3, tx3, nu3, vt3, io3, yo3, no3, ko3, iN3, ic3, yN3, yc3, nN3, nc3, kN3, kc3⟩ := d
  unfold NV.v NV.l
  dsimp only
  obtain ⟨r0, r1, r2, r3, r4, r5, r6, r7, r8, r9⟩ := nd_cells HS7.out.bb0
  obtain ⟨rf0, rf1, rf2, rf3, rf4, rf5, rf6, rf7, rf8, rf9⟩ := nd_frozen HS7.out.bb0
  go_wp2_with fail
  generalize hzZ : ((((((((((w5).setCell ⟨u.heap.size, 0, none⟩ (.int .i64 op3)).setCell ⟨u.heap.size, 1, none⟩ (.int .i64 at3)).setCell ⟨u.heap.size, 2, none⟩ (.string tx3)).setCell ⟨u.heap.size, 3, none⟩ (.int .i64 vk3)).setCell ⟨u.heap.size, 4, none⟩ (.string nu3)).setCell ⟨u.heap.size, 5, none⟩ (.string vt3)).setCell ⟨u.heap.size, 6, none⟩ (.slice io3 iN3 ic3)).setCell ⟨u.heap.size, 7, none⟩ (.slice yo3 yN3 yc3)).setCell ⟨u.heap.size, 8, none⟩ (.slice no3 nN3 nc3)).setCell ⟨u.heap.size, 9, none⟩ (.slice ko3 kN3 kc3) = WZ
  have PZ := nd_set HS7.out.bb0 hzZ
  obtain ⟨m0, m1, m2, m3, m4, m5, m6, m7, m8, m9⟩ := nd_cells PZ.new
  have HZ := HS7.out.put 0 _ _ [.int .i64 op3, .int .i64 at3, .string tx3, .int .i64 vk3, .string nu3, .string vt3, .slice io3 iN3 ic3, .slice yo3 yN3 yc3, .slice no3 nN3 nc3, .slice ko3 kN3 kc3] _ rfl PZ
  refine bodyPost_ret (v := .agg #[.int .i64 op3, .int .i64 at3, .string tx3, .int .i64 vk3, .string nu3, .string vt3, .slice io3 iN3 ic3, .slice yo3 yN3 yc3, .slice no3 nN3 nc3, .slice ko3 kN3 kc3]) (by simp [results, Tryz.results162, go_sem, m0, m1, m2, m3, m4, m5, m6, m7, m8, m9]) rfl ?_
  have hR := HR.out
  refine ⟨HZ.bo.toBt, ?_⟩
  rw [← hR]
  exact ⟨⟨_, rfl, ⟨op3, at3, vk3, tx3, nu3, vt3, io3, yo3, no3, ko3, iN3, ic3, yN3, yc3, nN3, nc3, kN3, kc3⟩, rfl, HZ.t0⟩, HZ.px⟩
 | false =>
  obtain ⟨c7, h7⟩ : ∃ c, isP ws 7 (t + 1) = c := ⟨_, rfl⟩
  cases c7 with
  | true =>
   go_enter Tryz.func162, Tryz.ntmps162
   go_wp2_with fail
   have HS1 := hQz (HS0.out.alloc [.int .i64 0, .int .i64 0, .string ⟨#[]⟩, .int .i64 0, .string ⟨#[]⟩, .string ⟨#[]⟩, .slice none 0 0, .slice none 0 0, .slice none 0 0, .slice none 0 0] 28)
   refine (HT.out _ HS1.out.px).mono ?_
   rintro e w1 ⟨rfl, hb, hp⟩
   have HS2 := hQz (HS1.out.step hb hp)
   clear hb hp
   go_wp2_with fail
   refine (isX 6 h6 _ HS2.out.px).mono ?_
   rintro e w2 ⟨rfl, hb⟩
   have HS3 := hQz (HS2.out.keep hb)
   clear hb
   go_wp2_with fail
   refine (isX 7 h7 _ HS3.out.px).mono ?_
   rintro e w3 ⟨rfl, hb⟩
   have HS4 := hQz (HS3.out.keep hb)
   clear hb
   go_wp2_with fail
   have hR := HR.out
   rw [if_pos (by rw [h6, h7]; rfl)] at hR
   replace HR := hQz hR
   clear hR
   refine (selfX (fun _ => False) pa _).mono ?_
   rintro e w4 ⟨d, rfl, hb, hd⟩
   have HS5 := hQz ((HS4.out.keep hb).add (hd.weak (fun b hb _ => hb.elim)))
   clear hb hd
   obtain ⟨op1, at1, vk1, tx1, nu1, vt1, io1, yo1, no1, ko1, iN1, ic1, yN1, yc1, nN1, nc1, kN1, kc1⟩ := d
   unfold NV.v NV.l
   dsimp only
   go_wp2_with fail
   refine (textX HPO.out _ _ _ _ HS5.out.dnW HS5.out.dbW HS5.out.px (by have := HM.out; omega)).mono ?_
   rintro e w5 ⟨hb, hm⟩
   (try dsimp only at hm)
   have hR := HR.out
   obtain ⟨er, q, hr⟩ | ⟨T2, t2, o2, hr⟩ := pr_cases (textP ws nb P (t + 1) o)
   · rw [hr] at hm
     rw [pThen_bad hr] at hR
     obtain rfl : e = .panicked (fcs er q) := hm
     exact ⟨rfl, (HS5.out.bo.trans (Bo.ofBt hb)).toBt, by rw [← hR]⟩
   rw [hr] at hm
   rw [pThen_ok hr] at hR
   (try dsimp only at hR)
   obtain ⟨⟨v, rfl, hE⟩, hp⟩ := hm
   have HQ5 := hQz hr
   replace HR := hQz hR
   have HS6 := hQz (HS5.out.step hb hp)
   clear hb hp hr hR
   obtain ⟨d, rfl, hd⟩ := hE
   have HS7 := hQz (HS6.out.add hd)
   clear hd
   obtain ⟨op2, at2, vk2, tx2, nu2, vt2, io2, yo2, no2, ko2, iN2, ic2, yN2, yc2, nN2, nc2, kN2, kc2⟩ := d
   unfold NV.v NV.l
   dsimp only
   go_wp2_with fail
   refine (indexX _ pa (selfP pa) T2 ⟨op1, at1, vk1, tx1, nu1, vt1, io1, yo1, no1, ko1, iN1, ic1, yN1, yc1, nN1, nc1, kN1, kc1⟩ ⟨op2, at2, vk2, tx2, nu2, vt2, io2, yo2, no2, ko2, iN2, ic2, yN2, yc2, nN2, nc2, kN2, kc2⟩ _ HS7.out.dnW HS7.out.m1 HS7.out.m0).mono ?_
   rintro e w6 ⟨d, rfl, hb, hd⟩
   have HS8 := hQz ((HS7.out.keep hb).add (hd.weak (fun b hb _ => hb)))
   clear hb hd
   obtain ⟨op3, at3, vk3, tx3, nu3, vt3, io3, yo3, no3, ko3, iN3, ic3, yN3, yc3, nN3, nc3, kN3, kc3⟩ := d
   unfold NV.v NV.l
   dsimp only
   obtain ⟨r0, r1, r2, r3, r4, r5, r6, r7, r8, r9⟩ := nd_cells HS8.out.bb0
   obtain ⟨rf0, rf1, rf2, rf3, rf4, rf5, rf6, rf7, rf8, rf9⟩ := nd_frozen HS8.out.bb0
   go_wp2_with fail
   generalize hzZ : ((((((((((w6).setCell ⟨u.heap.size, 0, none⟩ (.int .i64 op3)).setCell ⟨u.heap.size, 1, none⟩ (.int .i64 at3)).setCell ⟨u.heap.size, 2, none⟩ (.string tx3)).setCell ⟨u.heap.size, 3, none⟩ (.int .i64 vk3)).setCell ⟨u.heap.size, 4, none⟩ (.string nu3)).setCell ⟨u.heap.size, 5, none⟩ (.string vt3)).setCell ⟨u.heap.size, 6, none⟩ (.slice io3 iN3 ic3)).setCell ⟨u.heap.size, 7, none⟩ (.slice yo3 yN3 yc3)).setCell ⟨u.heap.size, 8, none⟩ (.slice no3 nN3 nc3)).setCell ⟨u.heap.size, 9, none⟩ (.slice ko3 kN3 kc3) = WZ
   have PZ := nd_set HS8.out.bb0 hzZ
   obtain ⟨m0, m1, m2, m3, m4, m5, m6, m7, m8, m9⟩ := nd_cells PZ.new
   have HZ := HS8.out.put 0 _ _ [.int .i64 op3, .int .i64 at3, .string tx3, .int .i64 vk3, .string nu3, .string vt3, .slice io3 iN3 ic3, .slice yo3 yN3 yc3, .slice no3 nN3 nc3, .slice ko3 kN3 kc3] _ rfl PZ
   refine bodyPost_ret (v := .agg #[.int .i64 op3, .int .i64 at3, .string tx3, .int .i64 vk3, .string nu3, .string vt3, .slice io3 iN3 ic3, .slice yo3 yN3 yc3, .slice no3 nN3 nc3, .slice ko3 kN3 kc3]) (by simp [results, Tryz.results162, go_sem, m0, m1, m2, m3, m4, m5, m6, m7, m8, m9]) rfl ?_
   have hR := HR.out
   refine ⟨HZ.bo.toBt, ?_⟩
   rw [← hR]
   exact ⟨⟨_, rfl, ⟨op3, at3, vk3, tx3, nu3, vt3, io3, yo3, no3, ko3, iN3, ic3, yN3, yc3, nN3, nc3, kN3, kc3⟩, rfl, HZ.t0⟩, HZ.px⟩
  | false =>
   go_enter Tryz.func162, Tryz.ntmps162
   go_wp2_with fail
   have HS1 := hQz (HS0.out.alloc [.int .i64 0, .int .i64 0, .string ⟨#[]⟩, .int .i64 0, .string ⟨#[]⟩, .string ⟨#[]⟩, .slice none 0 0, .slice none 0 0, .slice none 0 0, .slice none 0 0] 28)
   refine (HT.out _ HS1.out.px).mono ?_
   rintro e w1 ⟨rfl, hb, hp⟩
   have HS2 := hQz (HS1.out.step hb hp)
   clear hb hp
   go_wp2_with fail
   refine (isX 6 h6 _ HS2.out.px).mono ?_
   rintro e w2 ⟨rfl, hb⟩
   have HS3 := hQz (HS2.out.keep hb)
   clear hb
   go_wp2_with fail
   refine (isX 7 h7 _ HS3.out.px).mono ?_
   rintro e w3 ⟨rfl, hb⟩
   have HS4 := hQz (HS3.out.keep hb)
   clear hb
   go_wp2_with fail
   have hR := HR.out
   rw [if_neg (by rw [h6, h7]; decide)] at hR
   replace HR := hQz hR
   clear hR
   refine (selfX (fun _ => False) pa _).mono ?_
   rintro e w4 ⟨d, rfl, hb, hd⟩
   have HS5 := hQz ((HS4.out.keep hb).add (hd.weak (fun b hb _ => hb.elim)))
   clear hb hd
   obtain ⟨op1, at1, vk1, tx1, nu1, vt1, io1, yo1, no1, ko1, iN1, ic1, yN1, yc1, nN1, nc1, kN1, kc1⟩ := d
   unfold NV.v NV.l
   dsimp only
   obtain ⟨r0, r1, r2, r3, r4, r5, r6, r7, r8, r9⟩ := nd_cells HS5.out.bb0
   obtain ⟨rf0, rf1, rf2, rf3, rf4, rf5, rf6, rf7, rf8, rf9⟩ := nd_frozen HS5.out.bb0
   go_wp2_with fail
   generalize hzZ : ((((((((((w4).setCell ⟨u.heap.size, 0, none⟩ (.int .i64 op1)).setCell ⟨u.heap.size, 1, none⟩ (.int .i64 at1)).setCell ⟨u.heap.size, 2, none⟩ (.string tx1)).setCell ⟨u.heap.size, 3, none⟩ (.int .i64 vk1)).setCell ⟨u.heap.size, 4, none⟩ (.string nu1)).setCell ⟨u.heap.size, 5, none⟩ (.string vt1)).setCell ⟨u.heap.size, 6, none⟩ (.slice io1 iN1 ic1)).setCell ⟨u.heap.size, 7, none⟩ (.slice yo1 yN1 yc1)).setCell ⟨u.heap.size, 8, none⟩ (.slice no1 nN1 nc1)).setCell ⟨u.heap.size, 9, none⟩ (.slice ko1 kN1 kc1) = WZ
   have PZ := nd_set HS5.out.bb0 hzZ
   obtain ⟨m0, m1, m2, m3, m4, m5, m6, m7, m8, m9⟩ := nd_cells PZ.new
   have HZ := HS5.out.put 0 _ _ [.int .i64 op1, .int .i64 at1, .string tx1, .int .i64 vk1, .string nu1, .string vt1, .slice io1 iN1 ic1, .slice yo1 yN1 yc1, .slice no1 nN1 nc1, .slice ko1 kN1 kc1] _ rfl PZ
   refine bodyPost_ret (v := .agg #[.int .i64 op1, .int .i64 at1, .string tx1, .int .i64 vk1, .string nu1, .string vt1, .slice io1 iN1 ic1, .slice yo1 yN1 yc1, .slice no1 nN1 nc1, .slice ko1 kN1 kc1]) (by simp [results, Tryz.results162, go_sem, m0, m1, m2, m3, m4, m5, m6, m7, m8, m9]) rfl ?_
   have hR := HR.out
   refine ⟨HZ.bo.toBt, ?_⟩
   rw [← hR]
   exact ⟨⟨_, rfl, ⟨op1, at1, vk1, tx1, nu1, vt1, io1, yo1, no1, ko1, iN1, ic1, yN1, yc1, nN1, nc1, kN1, kc1⟩, rfl, HZ.t0⟩, HZ.px⟩
theorem markedX (h : PO B so sc ws nb (m + 1) P O) : NodeL B so sc ws nb 148 m (markedP ws nb P O) := by
 intro D u t o dn db hx hm ht
 obtain ⟨R, hR⟩ : ∃ R, markedP ws nb P O t o = R := ⟨_, rfl⟩
 rw [hR]
 unfold markedP at hR
 have HR := hQz hR
 have HPO := hQz h
 have HS0 := hQz (SB.new (Fl := false) (tr := []) hx dn db (fun q hq => by simp at hq))
 have HX := hQz (And.intro hx.pat.le hx.pat.open_)
 have HM := hQz hm
 have hfl0 := Tryz.fldX0
 have hfl1 := Tryz.fldX1
 have hfl3 := Tryz.fldX3
 clear hR h hx hm dn db
 have Htx := hQz (HPO.out.tx t)
 have HH : Hid (∀ u, PX u B so sc ws nb t o → Calls Tryz.prog 80 #[.pointer (some ⟨B, 0, none⟩)] u fun e w' => e = .returned (tokV (hrP ws t)) ∧ Below u.heap.size u w') := fun u hu => hereX u hu
 have HT : Hid (∀ u, PX u B so sc ws nb t o → Calls Tryz.prog 109 #[.pointer (some ⟨B, 0, none⟩)] u fun e w' => e = .returned (tokV (hrP ws t)) ∧ Bt B u w' ∧ PX w' B so sc ws nb (t + 1) o) := fun u hu => takeX ht u hu
 have Hdot : Hid (∀ (D : Nat → Prop) (W : World), (∀ b, W.heap.size ≤ b → D b) → (∀ b, D b → b ≠ B) → PX W B so sc ws nb t o → Calls Tryz.prog 162 #[.pointer (some ⟨B, 0, none⟩)] W fun e w' => PxR B so sc ws nb W (NdE D) (dotP ws nb P t o) e w') := fun D W d1 d2 hW => dotX HPO.out D W t o d1 d2 hW HM.out ht
 have Hgr : Hid (∀ (D : Nat → Prop) (W : World), (∀ b, W.heap.size ≤ b → D b) → (∀ b, D b → b ≠ B) → PX W B so sc ws nb t o → Calls Tryz.prog 163 #[.pointer (some ⟨B, 0, none⟩)] W fun e w' => PxR B so sc ws nb W (NdE D) (groupP ws nb P t o) e w') := fun D W d1 d2 hW => groupX HPO.out D W t o d1 d2 hW HM.out
 have Hli : Hid (∀ (D : Nat → Prop) (W : World), (∀ b, W.heap.size ≤ b → D b) → (∀ b, D b → b ≠ B) → PX W B so sc ws nb t o → Calls Tryz.prog 164 #[.pointer (some ⟨B, 0, none⟩)] W fun e w' => PxR B so sc ws nb W (NdE D) (listP ws nb P t o) e w') := fun D W d1 d2 hW => listX HPO.out D W t o d1 d2 hW HM.out
 have Hre : Hid (∀ (D : Nat → Prop) (W : World), (∀ b, W.heap.size ≤ b → D b) → (∀ b, D b → b ≠ B) → PX W B so sc ws nb t o → Calls Tryz.prog 165 #[.pointer (some ⟨B, 0, none⟩)] W fun e w' => PxR B so sc ws nb W (NdE D) (recordP ws nb P O t o) e w') := fun D W d1 d2 hW => recordX HPO.out D W t o d1 d2 hW HM.out
 generalize hPHdot : dotP ws nb P t o = QHdot at *
 generalize hPHgr : groupP ws nb P t o = QHgr at *
 generalize hPHli : listP ws nb P t o = QHli at *
 generalize hPHre : recordP ws nb P O t o = QHre at *
 clear ht
 generalize hrP ws t = X at *
 obtain ⟨kd, pa, fi, tx, er⟩ := X
 unfold tokV at HH HT
 dsimp only at HH HT HR Htx
 by_cases g0 : tx = [46]
 · subst g0
   have hR := HR.out
   rw [if_pos rfl] at hR
   replace HR := hQz hR
   clear hR
   go_enter Tryz.func148, Tryz.ntmps148
   go_wp2_with fail
   have HS1 := hQz (HS0.out.alloc [.int .i64 0, .int .i64 0, .string ⟨#[]⟩, .int .i64 0, .string ⟨#[]⟩, .string ⟨#[]⟩, .slice none 0 0, .slice none 0 0, .slice none 0 0, .slice none 0 0] 28)
   refine (HH.out _ HS1.out.px).mono ?_
   rintro e w1 ⟨rfl, hb⟩
   have HS2 := hQz (HS1.out.keep hb)
   clear hb
   go_wp2_with fail
   refine (Hdot.out _ _ HS2.out.dnW HS2.out.dbW HS2.out.px).mono ?_
   rintro e w9 ⟨hb, hm⟩
   have hR := HR.out
   rw [hR] at hm
   obtain ⟨er, q, hr⟩ | ⟨T9, t9, o9, hr⟩ := pr_cases R
   · rw [hr] at hm
     obtain rfl : e = .panicked (fcs er q) := hm
     exact ⟨rfl, (HS2.out.bo.trans (Bo.ofBt hb)).toBt, by rw [hr]⟩
   rw [hr] at hm
   obtain ⟨⟨v, rfl, hE⟩, hp⟩ := hm
   clear HR
   have HR := hQz hr.symm
   clear hr hR
   have HS3 := hQz (HS2.out.step hb hp)
   clear hb hp
   obtain ⟨d, rfl, hd⟩ := hE
   have HS4 := hQz (HS3.out.add hd)
   clear hd
   obtain ⟨op9, at9, vk9, tx9, nu9, vt9, io9, yo9, no9, ko9, iN9, ic9, yN9, yc9, nN9, nc9, kN9, kc9⟩ := d
   unfold NV.v NV.l
   dsimp only
   obtain ⟨r0, r1, r2, r3, r4, r5, r6, r7, r8, r9⟩ := nd_cells HS4.out.bb0
   obtain ⟨rf0, rf1, rf2, rf3, rf4, rf5, rf6, rf7, rf8, rf9⟩ := nd_frozen HS4.out.bb0
   go_wp2_with fail
   generalize hzZ : ((((((((((w9).setCell ⟨u.heap.size, 0, none⟩ (.int .i64 op9)).setCell ⟨u.heap.size, 1, none⟩ (.int .i64 at9)).setCell ⟨u.heap.size, 2, none⟩ (.string tx9)).setCell ⟨u.heap.size, 3, none⟩ (.int .i64 vk9)).setCell ⟨u.heap.size, 4, none⟩ (.string nu9)).setCell ⟨u.heap.size, 5, none⟩ (.string vt9)).setCell ⟨u.heap.size, 6, none⟩ (.slice io9 iN9 ic9)).setCell ⟨u.heap.size, 7, none⟩ (.slice yo9 yN9 yc9)).setCell ⟨u.heap.size, 8, none⟩ (.slice no9 nN9 nc9)).setCell ⟨u.heap.size, 9, none⟩ (.slice ko9 kN9 kc9) = WZ
   have PZ := nd_set HS4.out.bb0 hzZ
   obtain ⟨m0, m1, m2, m3, m4, m5, m6, m7, m8, m9⟩ := nd_cells PZ.new
   have HZ := HS4.out.put 0 _ _ [.int .i64 op9, .int .i64 at9, .string tx9, .int .i64 vk9, .string nu9, .string vt9, .slice io9 iN9 ic9, .slice yo9 yN9 yc9, .slice no9 nN9 nc9, .slice ko9 kN9 kc9] _ rfl PZ
   refine bodyPost_ret (v := .agg #[.int .i64 op9, .int .i64 at9, .string tx9, .int .i64 vk9, .string nu9, .string vt9, .slice io9 iN9 ic9, .slice yo9 yN9 yc9, .slice no9 nN9 nc9, .slice ko9 kN9 kc9]) (by simp [results, Tryz.results148, go_sem, m0, m1, m2, m3, m4, m5, m6, m7, m8, m9]) rfl ?_
   have hR := HR.out
   refine ⟨HZ.bo.toBt, ?_⟩
   rw [← hR]
   exact ⟨⟨_, rfl, ⟨op9, at9, vk9, tx9, nu9, vt9, io9, yo9, no9, ko9, iN9, ic9, yN9, yc9, nN9, nc9, kN9, kc9⟩, rfl, HZ.t0⟩, HZ.px⟩
 have b0 : (tx == [46]) = false := by rw [bqZ]; exact g0
 by_cases g1 : tx = [46, 46]
 · subst g1
   have hR := HR.out
   rw [if_neg (by decide), if_pos rfl] at hR
   replace HR := hQz hR
   clear hR
   go_enter Tryz.func148, Tryz.ntmps148
   go_wp2_with fail
   have HS1 := hQz (HS0.out.alloc [.int .i64 0, .int .i64 0, .string ⟨#[]⟩, .int .i64 0, .string ⟨#[]⟩, .string ⟨#[]⟩, .slice none 0 0, .slice none 0 0, .slice none 0 0, .slice none 0 0] 28)
   refine (HH.out _ HS1.out.px).mono ?_
   rintro e w1 ⟨rfl, hb⟩
   have HS2 := hQz (HS1.out.keep hb)
   clear hb
   go_wp2_with fail
   refine (HT.out _ HS2.out.px).mono ?_
   rintro e w2 ⟨rfl, hb, hp⟩
   have HS3 := hQz (HS2.out.step hb hp)
   clear hb hp
   obtain ⟨r0, r1, r2, r3, r4, r5, r6, r7, r8, r9⟩ := nd_cells HS3.out.bb0
   obtain ⟨rf0, rf1, rf2, rf3, rf4, rf5, rf6, rf7, rf8, rf9⟩ := nd_frozen HS3.out.bb0
   go_wp2_with fail
   generalize hzZ : ((((((((((w2).setCell ⟨u.heap.size, 0, none⟩ (.int .i64 33)).setCell ⟨u.heap.size, 1, none⟩ (.int .i64 (pa : Int))).setCell ⟨u.heap.size, 2, none⟩ (.string ⟨#[114, 101, 99, 117, 114, 115, 101]⟩)).setCell ⟨u.heap.size, 3, none⟩ (.int .i64 0)).setCell ⟨u.heap.size, 4, none⟩ (.string ⟨#[]⟩)).setCell ⟨u.heap.size, 5, none⟩ (.string ⟨#[]⟩)).setCell ⟨u.heap.size, 6, none⟩ (.slice none 0 0)).setCell ⟨u.heap.size, 7, none⟩ (.slice none 0 0)).setCell ⟨u.heap.size, 8, none⟩ (.slice none 0 0)).setCell ⟨u.heap.size, 9, none⟩ (.slice none 0 0) = WZ
   have PZ := nd_set HS3.out.bb0 hzZ
   obtain ⟨m0, m1, m2, m3, m4, m5, m6, m7, m8, m9⟩ := nd_cells PZ.new
   have HZ := HS3.out.put 0 _ _ [.int .i64 33, .int .i64 (pa : Int), .string ⟨#[114, 101, 99, 117, 114, 115, 101]⟩, .int .i64 0, .string ⟨#[]⟩, .string ⟨#[]⟩, .slice none 0 0, .slice none 0 0, .slice none 0 0, .slice none 0 0] _ rfl PZ
   refine bodyPost_ret (v := .agg #[.int .i64 33, .int .i64 (pa : Int), .string ⟨#[114, 101, 99, 117, 114, 115, 101]⟩, .int .i64 0, .string ⟨#[]⟩, .string ⟨#[]⟩, .slice none 0 0, .slice none 0 0, .slice none 0 0, .slice none 0 0]) (by simp [results, Tryz.results148, go_sem, m0, m1, m2, m3, m4, m5, m6, m7, m8, m9]) rfl ?_
   have hR := HR.out
   refine ⟨HZ.bo.toBt, ?_⟩
   rw [← hR]
   exact ⟨⟨_, rfl, ⟨33, (pa : Int), 0, ⟨#[114, 101, 99, 117, 114, 115, 101]⟩, ⟨#[]⟩, ⟨#[]⟩, none, none, none, none, 0, 0, 0, 0, 0, 0, 0, 0⟩, rfl, NdI.leaf D _ 33 (pa : Int) ⟨#[114, 101, 99, 117, 114, 115, 101]⟩ (by decide)⟩, HZ.px⟩
 have b1 : (tx == [46, 46]) = false := by rw [bqZ]; exact g1
 by_cases g2 : tx = [40]
 · subst g2
   have hR := HR.out
   rw [if_neg (by decide), if_neg (by decide), if_pos rfl] at hR
   replace HR := hQz hR
   clear hR
   go_enter Tryz.func148, Tryz.ntmps148
   go_wp2_with fail
   have HS1 := hQz (HS0.out.alloc [.int .i64 0, .int .i64 0, .string ⟨#[]⟩, .int .i64 0, .string ⟨#[]⟩, .string ⟨#[]⟩, .slice none 0 0, .slice none 0 0, .slice none 0 0, .slice none 0 0] 28)
   refine (HH.out _ HS1.out.px).mono ?_
   rintro e w1 ⟨rfl, hb⟩
   have HS2 := hQz (HS1.out.keep hb)
   clear hb
   go_wp2_with fail
   refine (Hgr.out _ _ HS2.out.dnW HS2.out.dbW HS2.out.px).mono ?_
   rintro e w9 ⟨hb, hm⟩
   have hR := HR.out
   rw [hR] at hm
   obtain ⟨er, q, hr⟩ | ⟨T9, t9, o9, hr⟩ := pr_cases R
   · rw [hr] at hm
     obtain rfl : e = .panicked (fcs er q) := hm
     exact ⟨rfl, (HS2.out.bo.trans (Bo.ofBt hb)).toBt, by rw [hr]⟩
   rw [hr] at hm
   obtain ⟨⟨v, rfl, hE⟩, hp⟩ := hm
   clear HR
   have HR := hQz hr.symm
   clear hr hR
   have HS3 := hQz (HS2.out.step hb hp)
   clear hb hp
   obtain ⟨d, rfl, hd⟩ := hE
   have HS4 := hQz (HS3.out.add hd)
   clear hd
   obtain ⟨op9, at9, vk9, tx9, nu9, vt9, io9, yo9, no9, ko9, iN9, ic9, yN9, yc9, nN9, nc9, kN9, kc9⟩ := d
   unfold NV.v NV.l
   dsimp only
   obtain ⟨r0, r1, r2, r3, r4, r5, r6, r7, r8, r9⟩ := nd_cells HS4.out.bb0
   obtain ⟨rf0, rf1, rf2, rf3, rf4, rf5, rf6, rf7, rf8, rf9⟩ := nd_frozen HS4.out.bb0
   go_wp2_with fail
   generalize hzZ : ((((((((((w9).setCell ⟨u.heap.size, 0, none⟩ (.int .i64 op9)).setCell ⟨u.heap.size, 1, none⟩ (.int .i64 at9)).setCell ⟨u.heap.size, 2, none⟩ (.string tx9)).setCell ⟨u.heap.size, 3, none⟩ (.int .i64 vk9)).setCell ⟨u.heap.size, 4, none⟩ (.string nu9)).setCell ⟨u.heap.size, 5, none⟩ (.string vt9)).setCell ⟨u.heap.size, 6, none⟩ (.slice io9 iN9 ic9)).setCell ⟨u.heap.size, 7, none⟩ (.slice yo9 yN9 yc9)).setCell ⟨u.heap.size, 8, none⟩ (.slice no9 nN9 nc9)).setCell ⟨u.heap.size, 9, none⟩ (.slice ko9 kN9 kc9) = WZ
   have PZ := nd_set HS4.out.bb0 hzZ
   obtain ⟨m0, m1, m2, m3, m4, m5, m6, m7, m8, m9⟩ := nd_cells PZ.new
   have HZ := HS4.out.put 0 _ _ [.int .i64 op9, .int .i64 at9, .string tx9, .int .i64 vk9, .string nu9, .string vt9, .slice io9 iN9 ic9, .slice yo9 yN9 yc9, .slice no9 nN9 nc9, .slice ko9 kN9 kc9] _ rfl PZ
   refine bodyPost_ret (v := .agg #[.int .i64 op9, .int .i64 at9, .string tx9, .int .i64 vk9, .string nu9, .string vt9, .slice io9 iN9 ic9, .slice yo9 yN9 yc9, .slice no9 nN9 nc9, .slice ko9 kN9 kc9]) (by simp [results, Tryz.results148, go_sem, m0, m1, m2, m3, m4, m5, m6, m7, m8, m9]) rfl ?_
   have hR := HR.out
   refine ⟨HZ.bo.toBt, ?_⟩
   rw [← hR]
   exact ⟨⟨_, rfl, ⟨op9, at9, vk9, tx9, nu9, vt9, io9, yo9, no9, ko9, iN9, ic9, yN9, yc9, nN9, nc9, kN9, kc9⟩, rfl, HZ.t0⟩, HZ.px⟩
 have b2 : (tx == [40]) = false := by rw [bqZ]; exact g2
 by_cases g3 : tx = [91]
 · subst g3
   have hR := HR.out
   rw [if_neg (by decide), if_neg (by decide), if_neg (by decide), if_pos rfl] at hR
   replace HR := hQz hR
   clear hR
   go_enter Tryz.func148, Tryz.ntmps148
   go_wp2_with fail
   have HS1 := hQz (HS0.out.alloc [.int .i64 0, .int .i64 0, .string ⟨#[]⟩, .int .i64 0, .string ⟨#[]⟩, .string ⟨#[]⟩, .slice none 0 0, .slice none 0 0, .slice none 0 0, .slice none 0 0] 28)
   refine (HH.out _ HS1.out.px).mono ?_
   rintro e w1 ⟨rfl, hb⟩
   have HS2 := hQz (HS1.out.keep hb)
   clear hb
   go_wp2_with fail
   refine (Hli.out _ _ HS2.out.dnW HS2.out.dbW HS2.out.px).mono ?_
   rintro e w9 ⟨hb, hm⟩
   have hR := HR.out
   rw [hR] at hm
   obtain ⟨er, q, hr⟩ | ⟨T9, t9, o9, hr⟩ := pr_cases R
   · rw [hr] at hm
     obtain rfl : e = .panicked (fcs er q) := hm
     exact ⟨rfl, (HS2.out.bo.trans (Bo.ofBt hb)).toBt, by rw [hr]⟩
   rw [hr] at hm
   obtain ⟨⟨v, rfl, hE⟩, hp⟩ := hm
   clear HR
   have HR := hQz hr.symm
   clear hr hR
   have HS3 := hQz (HS2.out.step hb hp)
   clear hb hp
   obtain ⟨d, rfl, hd⟩ := hE
   have HS4 := hQz (HS3.out.add hd)
   clear hd
   obtain ⟨op9, at9, vk9, tx9, nu9, vt9, io9, yo9, no9, ko9, iN9, ic9, yN9, yc9, nN9, nc9, kN9, kc9⟩ := d
   unfold NV.v NV.l
   dsimp only
   obtain ⟨r0, r1, r2, r3, r4, r5, r6, r7, r8, r9⟩ := nd_cells HS4.out.bb0
   obtain ⟨rf0, rf1, rf2, rf3, rf4, rf5, rf6, rf7, rf8, rf9⟩ := nd_frozen HS4.out.bb0
   go_wp2_with fail
   generalize hzZ : ((((((((((w9).setCell ⟨u.heap.size, 0, none⟩ (.int .i64 op9)).setCell ⟨u.heap.size, 1, none⟩ (.int .i64 at9)).setCell ⟨u.heap.size, 2, none⟩ (.string tx9)).setCell ⟨u.heap.size, 3, none⟩ (.int .i64 vk9)).setCell ⟨u.heap.size, 4, none⟩ (.string nu9)).setCell ⟨u.heap.size, 5, none⟩ (.string vt9)).setCell ⟨u.heap.size, 6, none⟩ (.slice io9 iN9 ic9)).setCell ⟨u.heap.size, 7, none⟩ (.slice yo9 yN9 yc9)).setCell ⟨u.heap.size, 8, none⟩ (.slice no9 nN9 nc9)).setCell ⟨u.heap.size, 9, none⟩ (.slice ko9 kN9 kc9) = WZ
   have PZ := nd_set HS4.out.bb0 hzZ
   obtain ⟨m0, m1, m2, m3, m4, m5, m6, m7, m8, m9⟩ := nd_cells PZ.new
   have HZ := HS4.out.put 0 _ _ [.int .i64 op9, .int .i64 at9, .string tx9, .int .i64 vk9, .string nu9, .string vt9, .slice io9 iN9 ic9, .slice yo9 yN9 yc9, .slice no9 nN9 nc9, .slice ko9 kN9 kc9] _ rfl PZ
   refine bodyPost_ret (v := .agg #[.int .i64 op9, .int .i64 at9, .string tx9, .int .i64 vk9, .string nu9, .string vt9, .slice io9 iN9 ic9, .slice yo9 yN9 yc9, .slice no9 nN9 nc9, .slice ko9 kN9 kc9]) (by simp [results, Tryz.results148, go_sem, m0, m1, m2, m3, m4, m5, m6, m7, m8, m9]) rfl ?_
   have hR := HR.out
   refine ⟨HZ.bo.toBt, ?_⟩
   rw [← hR]
   exact ⟨⟨_, rfl, ⟨op9, at9, vk9, tx9, nu9, vt9, io9, yo9, no9, ko9, iN9, ic9, yN9, yc9, nN9, nc9, kN9, kc9⟩, rfl, HZ.t0⟩, HZ.px⟩
 have b3 : (tx == [91]) = false := by rw [bqZ]; exact g3
 by_cases g4 : tx = [123]
 · subst g4
   have hR := HR.out
   rw [if_neg (by decide), if_neg (by decide), if_neg (by decide), if_neg (by decide), if_pos rfl] at hR
   replace HR := hQz hR
   clear hR
   go_enter Tryz.func148, Tryz.ntmps148
   go_wp2_with fail
   have HS1 := hQz (HS0.out.alloc [.int .i64 0, .int .i64 0, .string ⟨#[]⟩, .int .i64 0, .string ⟨#[]⟩, .string ⟨#[]⟩, .slice none 0 0, .slice none 0 0, .slice none 0 0, .slice none 0 0] 28)
   refine (HH.out _ HS1.out.px).mono ?_
   rintro e w1 ⟨rfl, hb⟩
   have HS2 := hQz (HS1.out.keep hb)
   clear hb
   go_wp2_with fail
   refine (Hre.out _ _ HS2.out.dnW HS2.out.dbW HS2.out.px).mono ?_
   rintro e w9 ⟨hb, hm⟩
   have hR := HR.out
   rw [hR] at hm
   obtain ⟨er, q, hr⟩ | ⟨T9, t9, o9, hr⟩ := pr_cases R
   · rw [hr] at hm
     obtain rfl : e = .panicked (fcs er q) := hm
     exact ⟨rfl, (HS2.out.bo.trans (Bo.ofBt hb)).toBt, by rw [hr]⟩
   rw [hr] at hm
   obtain ⟨⟨v, rfl, hE⟩, hp⟩ := hm
   clear HR
   have HR := hQz hr.symm
   clear hr hR
   have HS3 := hQz (HS2.out.step hb hp)
   clear hb hp
   obtain ⟨d, rfl, hd⟩ := hE
   have HS4 := hQz (HS3.out.add hd)
   clear hd
   obtain ⟨op9, at9, vk9, tx9, nu9, vt9, io9, yo9, no9, ko9, iN9, ic9, yN9, yc9, nN9, nc9, kN9, kc9⟩ := d
   unfold NV.v NV.l
   dsimp only
   obtain ⟨r0, r1, r2, r3, r4, r5, r6, r7, r8, r9⟩ := nd_cells HS4.out.bb0
   obtain ⟨rf0, rf1, rf2, rf3, rf4, rf5, rf6, rf7, rf8, rf9⟩ := nd_frozen HS4.out.bb0
   go_wp2_with fail
   generalize hzZ : ((((((((((w9).setCell ⟨u.heap.size, 0, none⟩ (.int .i64 op9)).setCell ⟨u.heap.size, 1, none⟩ (.int .i64 at9)).setCell ⟨u.heap.size, 2, none⟩ (.string tx9)).setCell ⟨u.heap.size, 3, none⟩ (.int .i64 vk9)).setCell ⟨u.heap.size, 4, none⟩ (.string nu9)).setCell ⟨u.heap.size, 5, none⟩ (.string vt9)).setCell ⟨u.heap.size, 6, none⟩ (.slice io9 iN9 ic9)).setCell ⟨u.heap.size, 7, none⟩ (.slice yo9 yN9 yc9)).setCell ⟨u.heap.size, 8, none⟩ (.slice no9 nN9 nc9)).setCell ⟨u.heap.size, 9, none⟩ (.slice ko9 kN9 kc9) = WZ
   have PZ := nd_set HS4.out.bb0 hzZ
   obtain ⟨m0, m1, m2, m3, m4, m5, m6, m7, m8, m9⟩ := nd_cells PZ.new
   have HZ := HS4.out.put 0 _ _ [.int .i64 op9, .int .i64 at9, .string tx9, .int .i64 vk9, .string nu9, .string vt9, .slice io9 iN9 ic9, .slice yo9 yN9 yc9, .slice no9 nN9 nc9, .slice ko9 kN9 kc9] _ rfl PZ
   refine bodyPost_ret (v := .agg #[.int .i64 op9, .int .i64 at9, .string tx9, .int .i64 vk9, .string nu9, .string vt9, .slice io9 iN9 ic9, .slice yo9 yN9 yc9, .slice no9 nN9 nc9, .slice ko9 kN9 kc9]) (by simp [results, Tryz.results148, go_sem, m0, m1, m2, m3, m4, m5, m6, m7, m8, m9]) rfl ?_
   have hR := HR.out
   refine ⟨HZ.bo.toBt, ?_⟩
   rw [← hR]
   exact ⟨⟨_, rfl, ⟨op9, at9, vk9, tx9, nu9, vt9, io9, yo9, no9, ko9, iN9, ic9, yN9, yc9, nN9, nc9, kN9, kc9⟩, rfl, HZ.t0⟩, HZ.px⟩
 have b4 : (tx == [123]) = false := by rw [bqZ]; exact g4
 have hR := HR.out
 rw [if_neg g0, if_neg g1, if_neg g2, if_neg g3, if_neg g4] at hR
 unfold pFt at hR
 replace HR := hQz hR
 clear hR
 clear g0 g1 g2 g3 g4
 go_enter Tryz.func148, Tryz.ntmps148
 go_wp2_with fail
 have HS1 := hQz (HS0.out.alloc [.int .i64 0, .int .i64 0, .string ⟨#[]⟩, .int .i64 0, .string ⟨#[]⟩, .string ⟨#[]⟩, .slice none 0 0, .slice none 0 0, .slice none 0 0, .slice none 0 0] 28)
 refine (HH.out _ HS1.out.px).mono ?_
 rintro e w1 ⟨rfl, hb⟩
 have HS2 := hQz (HS1.out.keep hb)
 clear hb
 go_wp2_with fail
 refine (faultX _ HS2.out.px).mono ?_
 rintro e w2 ⟨rfl, hb⟩
 have HS3 := hQz (HS2.out.keep hb)
 clear hb
 generalize ftE ws t = fe at *
 generalize ftQ ws nb t = fq at *
 go_wp2_with fail
 exact ⟨rfl, HS3.out.bo.toBt, by rw [← HR.out]; rfl⟩
end
section
variable {B : Nat} {so : Option Addr} {sc : Nat} {ws : List Tok} {nb : Nat} {m : Nat} {P : PM NT} {O : Nat → PM NT}
theorem ownedX (h : PO B so sc ws nb (m + 1) P O) : NodeL B so sc ws nb 149 m (ownedP ws nb P) := by
 intro D u t o dn db hx hm ht
 obtain ⟨R, hR⟩ : ∃ R, ownedP ws nb P t o = R := ⟨_, rfl⟩
 rw [hR]
 unfold ownedP at hR
 have HR := hQz hR
 have HPO := hQz h
 have HS0 := hQz (SB.new (Fl := false) (tr := []) hx dn db (fun q hq => by simp at hq))
 have HX := hQz (And.intro hx.pat.le hx.pat.open_)
 have HM := hQz hm
 have hfl0 := Tryz.fldX0
 have hfl1 := Tryz.fldX1
 have hfl3 := Tryz.fldX3
 clear hR h hx hm dn db
 have Htx := hQz (HPO.out.tx t)
 have Htx2 := hQz HPO.out.tx
 have HH : Hid (∀ u, PX u B so sc ws nb t o → Calls Tryz.prog 80 #[.pointer (some ⟨B, 0, none⟩)] u fun e w' => e = .returned (tokV (hrP ws t)) ∧ Below u.heap.size u w') := fun u hu => hereX u hu
 have HT : Hid (∀ u, PX u B so sc ws nb t o → Calls Tryz.prog 109 #[.pointer (some ⟨B, 0, none⟩)] u fun e w' => e = .returned (tokV (hrP ws t)) ∧ Bt B u w' ∧ PX w' B so sc ws nb (t + 1) o) := fun u hu => takeX ht u hu
 have Hch : Hid (∀ (D : Nat → Prop) (W : World), (∀ b, W.heap.size ≤ b → D b) → (∀ b, D b → b ≠ B) → PX W B so sc ws nb t o → Calls Tryz.prog 166 #[.pointer (some ⟨B, 0, none⟩)] W fun e w' => PxR B so sc ws nb W (NdE D) (choiceP ws nb P t o) e w') := fun D W d1 d2 hW => choiceX HPO.out D W t o d1 d2 hW HM.out
 generalize hPHch : choiceP ws nb P t o = QHch at *
 clear ht
 generalize hrP ws t = X at *
 obtain ⟨kd, pa, fi, tx, er⟩ := X
 unfold tokV at HH HT
 dsimp only at HH HT HR Htx
 by_cases g0 : tx = [110, 117, 108, 108]
 · subst g0
   have hR := HR.out
   rw [if_pos rfl] at hR
   replace HR := hQz hR
   clear hR
   go_enter Tryz.func149, Tryz.ntmps149
   go_wp2_with fail
   have HS1 := hQz (HS0.out.alloc [.int .i64 0, .int .i64 0, .string ⟨#[]⟩, .int .i64 0, .string ⟨#[]⟩, .string ⟨#[]⟩, .slice none 0 0, .slice none 0 0, .slice none 0 0, .slice none 0 0] 28)
   refine (HH.out _ HS1.out.px).mono ?_
   rintro e w1 ⟨rfl, hb⟩
   have HS2 := hQz (HS1.out.keep hb)
   clear hb
   go_wp2_with fail
   refine (HT.out _ HS2.out.px).mono ?_
   rintro e w2 ⟨rfl, hb, hp⟩
   have HS3 := hQz (HS2.out.step hb hp)
   clear hb hp
   go_wp2_with fail
   refine (constX (fun _ => False) pa 0 ⟨#[]⟩ ⟨#[]⟩ size0 size0 _).mono ?_
   rintro e w3 ⟨d, rfl, hb, hd⟩
   have HS4 := hQz ((HS3.out.keep hb).add (hd.weak (fun b hb _ => hb.elim)))
   clear hb hd
   obtain ⟨op1, at1, vk1, tx1, nu1, vt1, io1, yo1, no1, ko1, iN1, ic1, yN1, yc1, nN1, nc1, kN1, kc1⟩ := d
   unfold NV.v NV.l
   dsimp only
   obtain ⟨r0, r1, r2, r3, r4, r5, r6, r7, r8, r9⟩ := nd_cells HS4.out.bb0
   obtain ⟨rf0, rf1, rf2, rf3, rf4, rf5, rf6, rf7, rf8, rf9⟩ := nd_frozen HS4.out.bb0
   go_wp2_with fail
   generalize hzZ : ((((((((((w3).setCell ⟨u.heap.size, 0, none⟩ (.int .i64 op1)).setCell ⟨u.heap.size, 1, none⟩ (.int .i64 at1)).setCell ⟨u.heap.size, 2, none⟩ (.string tx1)).setCell ⟨u.heap.size, 3, none⟩ (.int .i64 vk1)).setCell ⟨u.heap.size, 4, none⟩ (.string nu1)).setCell ⟨u.heap.size, 5, none⟩ (.string vt1)).setCell ⟨u.heap.size, 6, none⟩ (.slice io1 iN1 ic1)).setCell ⟨u.heap.size, 7, none⟩ (.slice yo1 yN1 yc1)).setCell ⟨u.heap.size, 8, none⟩ (.slice no1 nN1 nc1)).setCell ⟨u.heap.size, 9, none⟩ (.slice ko1 kN1 kc1) = WZ
   have PZ := nd_set HS4.out.bb0 hzZ
   obtain ⟨m0, m1, m2, m3, m4, m5, m6, m7, m8, m9⟩ := nd_cells PZ.new
   have HZ := HS4.out.put 0 _ _ [.int .i64 op1, .int .i64 at1, .string tx1, .int .i64 vk1, .string nu1, .string vt1, .slice io1 iN1 ic1, .slice yo1 yN1 yc1, .slice no1 nN1 nc1, .slice ko1 kN1 kc1] _ rfl PZ
   refine bodyPost_ret (v := .agg #[.int .i64 op1, .int .i64 at1, .string tx1, .int .i64 vk1, .string nu1, .string vt1, .slice io1 iN1 ic1, .slice yo1 yN1 yc1, .slice no1 nN1 nc1, .slice ko1 kN1 kc1]) (by simp [results, Tryz.results149, go_sem, m0, m1, m2, m3, m4, m5, m6, m7, m8, m9]) rfl ?_
   have hR := HR.out
   refine ⟨HZ.bo.toBt, ?_⟩
   rw [← hR]
   exact ⟨⟨_, rfl, ⟨op1, at1, vk1, tx1, nu1, vt1, io1, yo1, no1, ko1, iN1, ic1, yN1, yc1, nN1, nc1, kN1, kc1⟩, rfl, HZ.t0⟩, HZ.px⟩
 have b0 : (tx == [110, 117, 108, 108]) = false := by rw [bqZ]; exact g0
 by_cases g1 : tx = [116, 114, 117, 101]
 · subst g1
   have hR := HR.out
   rw [if_neg (by decide), if_pos rfl] at hR
   replace HR := hQz hR
   clear hR
   go_enter Tryz.func149, Tryz.ntmps149
   go_wp2_with fail
   have HS1 := hQz (HS0.out.alloc [.int .i64 0, .int .i64 0, .string ⟨#[]⟩, .int .i64 0, .string ⟨#[]⟩, .string ⟨#[]⟩, .slice none 0 0, .slice none 0 0, .slice none 0 0, .slice none 0 0] 28)
   refine (HH.out _ HS1.out.px).mono ?_
   rintro e w1 ⟨rfl, hb⟩
   have HS2 := hQz (HS1.out.keep hb)
   clear hb
   go_wp2_with fail
   refine (HT.out _ HS2.out.px).mono ?_
   rintro e w2 ⟨rfl, hb, hp⟩
   have HS3 := hQz (HS2.out.step hb hp)
   clear hb hp
   go_wp2_with fail
   refine (constX (fun _ => False) pa 2 ⟨#[]⟩ ⟨#[]⟩ size0 size0 _).mono ?_
   rintro e w3 ⟨d, rfl, hb, hd⟩
   have HS4 := hQz ((HS3.out.keep hb).add (hd.weak (fun b hb _ => hb.elim)))
   clear hb hd
   obtain ⟨op1, at1, vk1, tx1, nu1, vt1, io1, yo1, no1, ko1, iN1, ic1, yN1, yc1, nN1, nc1, kN1, kc1⟩ := d
   unfold NV.v NV.l
   dsimp only
   obtain ⟨r0, r1, r2, r3, r4, r5, r6, r7, r8, r9⟩ := nd_cells HS4.out.bb0
   obtain ⟨rf0, rf1, rf2, rf3, rf4, rf5, rf6, rf7, rf8, rf9⟩ := nd_frozen HS4.out.bb0
   go_wp2_with fail
   generalize hzZ : ((((((((((w3).setCell ⟨u.heap.size, 0, none⟩ (.int .i64 op1)).setCell ⟨u.heap.size, 1, none⟩ (.int .i64 at1)).setCell ⟨u.heap.size, 2, none⟩ (.string tx1)).setCell ⟨u.heap.size, 3, none⟩ (.int .i64 vk1)).setCell ⟨u.heap.size, 4, none⟩ (.string nu1)).setCell ⟨u.heap.size, 5, none⟩ (.string vt1)).setCell ⟨u.heap.size, 6, none⟩ (.slice io1 iN1 ic1)).setCell ⟨u.heap.size, 7, none⟩ (.slice yo1 yN1 yc1)).setCell ⟨u.heap.size, 8, none⟩ (.slice no1 nN1 nc1)).setCell ⟨u.heap.size, 9, none⟩ (.slice ko1 kN1 kc1) = WZ
   have PZ := nd_set HS4.out.bb0 hzZ
   obtain ⟨m0, m1, m2, m3, m4, m5, m6, m7, m8, m9⟩ := nd_cells PZ.new
   have HZ := HS4.out.put 0 _ _ [.int .i64 op1, .int .i64 at1, .string tx1, .int .i64 vk1, .string nu1, .string vt1, .slice io1 iN1 ic1, .slice yo1 yN1 yc1, .slice no1 nN1 nc1, .slice ko1 kN1 kc1] _ rfl PZ
   refine bodyPost_ret (v := .agg #[.int .i64 op1, .int .i64 at1, .string tx1, .int .i64 vk1, .string nu1, .string vt1, .slice io1 iN1 ic1, .slice yo1 yN1 yc1, .slice no1 nN1 nc1, .slice ko1 kN1 kc1]) (by simp [results, Tryz.results149, go_sem, m0, m1, m2, m3, m4, m5, m6, m7, m8, m9]) rfl ?_
   have hR := HR.out
   refine ⟨HZ.bo.toBt, ?_⟩
   rw [← hR]
   exact ⟨⟨_, rfl, ⟨op1, at1, vk1, tx1, nu1, vt1, io1, yo1, no1, ko1, iN1, ic1, yN1, yc1, nN1, nc1, kN1, kc1⟩, rfl, HZ.t0⟩, HZ.px⟩
 have b1 : (tx == [116, 114, 117, 101]) = false := by rw [bqZ]; exact g1
 by_cases g2 : tx = [102, 97, 108, 115, 101]
 · subst g2
   have hR := HR.out
   rw [if_neg (by decide), if_neg (by decide), if_pos rfl] at hR
   replace HR := hQz hR
   clear hR
   go_enter Tryz.func149, Tryz.ntmps149
   go_wp2_with fail
   have HS1 := hQz (HS0.out.alloc [.int .i64 0, .int .i64 0, .string ⟨#[]⟩, .int .i64 0, .string ⟨#[]⟩, .string ⟨#[]⟩, .slice none 0 0, .slice none 0 0, .slice none 0 0, .slice none 0 0] 28)
   refine (HH.out _ HS1.out.px).mono ?_
   rintro e w1 ⟨rfl, hb⟩
   have HS2 := hQz (HS1.out.keep hb)
   clear hb
   go_wp2_with fail
   refine (HT.out _ HS2.out.px).mono ?_
   rintro e w2 ⟨rfl, hb, hp⟩
   have HS3 := hQz (HS2.out.step hb hp)
   clear hb hp
   go_wp2_with fail
   refine (constX (fun _ => False) pa 1 ⟨#[]⟩ ⟨#[]⟩ size0 size0 _).mono ?_
   rintro e w3 ⟨d, rfl, hb, hd⟩
   have HS4 := hQz ((HS3.out.keep hb).add (hd.weak (fun b hb _ => hb.elim)))
   clear hb hd
   obtain ⟨op1, at1, vk1, tx1, nu1, vt1, io1, yo1, no1, ko1, iN1, ic1, yN1, yc1, nN1, nc1, kN1, kc1⟩ := d
   unfold NV.v NV.l
   dsimp only
   obtain ⟨r0, r1, r2, r3, r4, r5, r6, r7, r8, r9⟩ := nd_cells HS4.out.bb0
   obtain ⟨rf0, rf1, rf2, rf3, rf4, rf5, rf6, rf7, rf8, rf9⟩ := nd_frozen HS4.out.bb0
   go_wp2_with fail
   generalize hzZ : ((((((((((w3).setCell ⟨u.heap.size, 0, none⟩ (.int .i64 op1)).setCell ⟨u.heap.size, 1, none⟩ (.int .i64 at1)).setCell ⟨u.heap.size, 2, none⟩ (.string tx1)).setCell ⟨u.heap.size, 3, none⟩ (.int .i64 vk1)).setCell ⟨u.heap.size, 4, none⟩ (.string nu1)).setCell ⟨u.heap.size, 5, none⟩ (.string vt1)).setCell ⟨u.heap.size, 6, none⟩ (.slice io1 iN1 ic1)).setCell ⟨u.heap.size, 7, none⟩ (.slice yo1 yN1 yc1)).setCell ⟨u.heap.size, 8, none⟩ (.slice no1 nN1 nc1)).setCell ⟨u.heap.size, 9, none⟩ (.slice ko1 kN1 kc1) = WZ
   have PZ := nd_set HS4.out.bb0 hzZ
   obtain ⟨m0, m1, m2, m3, m4, m5, m6, m7, m8, m9⟩ := nd_cells PZ.new
   have HZ := HS4.out.put 0 _ _ [.int .i64 op1, .int .i64 at1, .string tx1, .int .i64 vk1, .string nu1, .string vt1, .slice io1 iN1 ic1, .slice yo1 yN1 yc1, .slice no1 nN1 nc1, .slice ko1 kN1 kc1] _ rfl PZ
   refine bodyPost_ret (v := .agg #[.int .i64 op1, .int .i64 at1, .string tx1, .int .i64 vk1, .string nu1, .string vt1, .slice io1 iN1 ic1, .slice yo1 yN1 yc1, .slice no1 nN1 nc1, .slice ko1 kN1 kc1]) (by simp [results, Tryz.results149, go_sem, m0, m1, m2, m3, m4, m5, m6, m7, m8, m9]) rfl ?_
   have hR := HR.out
   refine ⟨HZ.bo.toBt, ?_⟩
   rw [← hR]
   exact ⟨⟨_, rfl, ⟨op1, at1, vk1, tx1, nu1, vt1, io1, yo1, no1, ko1, iN1, ic1, yN1, yc1, nN1, nc1, kN1, kc1⟩, rfl, HZ.t0⟩, HZ.px⟩
 have b2 : (tx == [102, 97, 108, 115, 101]) = false := by rw [bqZ]; exact g2
 by_cases g3 : tx = [105, 102]
 · subst g3
   have hR := HR.out
   rw [if_neg (by decide), if_neg (by decide), if_neg (by decide), if_pos rfl] at hR
   replace HR := hQz hR
   clear hR
   go_enter Tryz.func149, Tryz.ntmps149
   go_wp2_with fail
   have HS1 := hQz (HS0.out.alloc [.int .i64 0, .int .i64 0, .string ⟨#[]⟩, .int .i64 0, .string ⟨#[]⟩, .string ⟨#[]⟩, .slice none 0 0, .slice none 0 0, .slice none 0 0, .slice none 0 0] 28)
   refine (HH.out _ HS1.out.px).mono ?_
   rintro e w1 ⟨rfl, hb⟩
   have HS2 := hQz (HS1.out.keep hb)
   clear hb
   go_wp2_with fail
   refine (Hch.out _ _ HS2.out.dnW HS2.out.dbW HS2.out.px).mono ?_
   rintro e w9 ⟨hb, hm⟩
   have hR := HR.out
   rw [hR] at hm
   obtain ⟨er, q, hr⟩ | ⟨T9, t9, o9, hr⟩ := pr_cases R
   · rw [hr] at hm
     obtain rfl : e = .panicked (fcs er q) := hm
     exact ⟨rfl, (HS2.out.bo.trans (Bo.ofBt hb)).toBt, by rw [hr]⟩
   rw [hr] at hm
   obtain ⟨⟨v, rfl, hE⟩, hp⟩ := hm
   clear HR
   have HR := hQz hr.symm
   clear hr hR
   have HS3 := hQz (HS2.out.step hb hp)
   clear hb hp
   obtain ⟨d, rfl, hd⟩ := hE
   have HS4 := hQz (HS3.out.add hd)
   clear hd
   obtain ⟨op9, at9, vk9, tx9, nu9, vt9, io9, yo9, no9, ko9, iN9, ic9, yN9, yc9, nN9, nc9, kN9, kc9⟩ := d
   unfold NV.v NV.l
   dsimp only
   obtain ⟨r0, r1, r2, r3, r4, r5, r6, r7, r8, r9⟩ := nd_cells HS4.out.bb0
   obtain ⟨rf0, rf1, rf2, rf3, rf4, rf5, rf6, rf7, rf8, rf9⟩ := nd_frozen HS4.out.bb0
   go_wp2_with fail
   generalize hzZ : ((((((((((w9).setCell ⟨u.heap.size, 0, none⟩ (.int .i64 op9)).setCell ⟨u.heap.size, 1, none⟩ (.int .i64 at9)).setCell ⟨u.heap.size, 2, none⟩ (.string tx9)).setCell ⟨u.heap.size, 3, none⟩ (.int .i64 vk9)).setCell ⟨u.heap.size, 4, none⟩ (.string nu9)).setCell ⟨u.heap.size, 5, none⟩ (.string vt9)).setCell ⟨u.heap.size, 6, none⟩ (.slice io9 iN9 ic9)).setCell ⟨u.heap.size, 7, none⟩ (.slice yo9 yN9 yc9)).setCell ⟨u.heap.size, 8, none⟩ (.slice no9 nN9 nc9)).setCell ⟨u.heap.size, 9, none⟩ (.slice ko9 kN9 kc9) = WZ
   have PZ := nd_set HS4.out.bb0 hzZ
   obtain ⟨m0, m1, m2, m3, m4, m5, m6, m7, m8, m9⟩ := nd_cells PZ.new
   have HZ := HS4.out.put 0 _ _ [.int .i64 op9, .int .i64 at9, .string tx9, .int .i64 vk9, .string nu9, .string vt9, .slice io9 iN9 ic9, .slice yo9 yN9 yc9, .slice no9 nN9 nc9, .slice ko9 kN9 kc9] _ rfl PZ
   refine bodyPost_ret (v := .agg #[.int .i64 op9, .int .i64 at9, .string tx9, .int .i64 vk9, .string nu9, .string vt9, .slice io9 iN9 ic9, .slice yo9 yN9 yc9, .slice no9 nN9 nc9, .slice ko9 kN9 kc9]) (by simp [results, Tryz.results149, go_sem, m0, m1, m2, m3, m4, m5, m6, m7, m8, m9]) rfl ?_
   have hR := HR.out
   refine ⟨HZ.bo.toBt, ?_⟩
   rw [← hR]
   exact ⟨⟨_, rfl, ⟨op9, at9, vk9, tx9, nu9, vt9, io9, yo9, no9, ko9, iN9, ic9, yN9, yc9, nN9, nc9, kN9, kc9⟩, rfl, HZ.t0⟩, HZ.px⟩
 have b3 : (tx == [105, 102]) = false := by rw [bqZ]; exact g3
 by_cases g4 : tx = [98, 114, 101, 97, 107]
 · subst g4
   have hR := HR.out
   rw [if_neg (by decide), if_neg (by decide), if_neg (by decide), if_neg (by decide), if_pos rfl] at hR
   replace HR := hQz hR
   clear hR
   go_enter Tryz.func149, Tryz.ntmps149
   go_wp2_with fail
   have HS1 := hQz (HS0.out.alloc [.int .i64 0, .int .i64 0, .string ⟨#[]⟩, .int .i64 0, .string ⟨#[]⟩, .string ⟨#[]⟩, .slice none 0 0, .slice none 0 0, .slice none 0 0, .slice none 0 0] 28)
   refine (HH.out _ HS1.out.px).mono ?_
   rintro e w1 ⟨rfl, hb⟩
   have HS2 := hQz (HS1.out.keep hb)
   clear hb
   go_wp2_with fail
   refine (HT.out _ HS2.out.px).mono ?_
   rintro e w2 ⟨rfl, hb, hp⟩
   have HS3 := hQz (HS2.out.step hb hp)
   clear hb hp
   go_wp2_with fail
   refine (beX 3 (by decide) _ HS3.out.px).mono ?_
   rintro e w3 ⟨hb, hm⟩
   (try dsimp only at hm)
   have hR := HR.out
   obtain ⟨er, q, hr⟩ | ⟨x2, t2, o2, hr⟩ := pr_cases (pBe ws nb 3 (t + 1) o)
   · rw [hr] at hm
     rw [pThen_bad hr] at hR
     obtain rfl : e = .panicked (fcs er q) := hm
     exact ⟨rfl, (HS3.out.bo.trans (Bo.ofBt hb)).toBt, by rw [← hR]⟩
   rw [hr] at hm
   rw [pThen_ok hr] at hR
   (try dsimp only at hR)
   obtain ⟨⟨v, rfl, hE⟩, hp⟩ := hm
   have HL3 := hQz (mv_be (nb := nb) (k := 3) (by decide) _ HS3.out.px.pat.le _ _ _ _ hr)
   have HO3 := hQz (bl_be (nb := nb) 3 _ _ _ _ _ HS3.out.px.pat.open_ hr)
   have HQ3 := hQz hr
   replace HR := hQz hR
   have HS4 := hQz (HS3.out.step hb hp)
   clear hb hp hr hR
   unfold TkE at hE
   subst hE
   have HT2 : Hid (x2.text.length ≤ 140737488355000) := by rw [show x2 = _ from be_eq HQ3.out]; exact Htx2.out _
   obtain ⟨kd2, pa2, fi2, tx2, er2⟩ := x2
   unfold tokV
   dsimp only at HT2 HR ⊢
   obtain ⟨r0, r1, r2, r3, r4, r5, r6, r7, r8, r9⟩ := nd_cells HS4.out.bb0
   obtain ⟨rf0, rf1, rf2, rf3, rf4, rf5, rf6, rf7, rf8, rf9⟩ := nd_frozen HS4.out.bb0
   go_wp2_with fail
   generalize hzZ : ((((((((((w3).setCell ⟨u.heap.size, 0, none⟩ (.int .i64 35)).setCell ⟨u.heap.size, 1, none⟩ (.int .i64 (pa : Int))).setCell ⟨u.heap.size, 2, none⟩ (.string ⟨tx2.toArray⟩)).setCell ⟨u.heap.size, 3, none⟩ (.int .i64 0)).setCell ⟨u.heap.size, 4, none⟩ (.string ⟨#[]⟩)).setCell ⟨u.heap.size, 5, none⟩ (.string ⟨#[]⟩)).setCell ⟨u.heap.size, 6, none⟩ (.slice none 0 0)).setCell ⟨u.heap.size, 7, none⟩ (.slice none 0 0)).setCell ⟨u.heap.size, 8, none⟩ (.slice none 0 0)).setCell ⟨u.heap.size, 9, none⟩ (.slice none 0 0) = WZ
   have PZ := nd_set HS4.out.bb0 hzZ
   obtain ⟨m0, m1, m2, m3, m4, m5, m6, m7, m8, m9⟩ := nd_cells PZ.new
   have HZ := HS4.out.put 0 _ _ [.int .i64 35, .int .i64 (pa : Int), .string ⟨tx2.toArray⟩, .int .i64 0, .string ⟨#[]⟩, .string ⟨#[]⟩, .slice none 0 0, .slice none 0 0, .slice none 0 0, .slice none 0 0] _ rfl PZ
   refine bodyPost_ret (v := .agg #[.int .i64 35, .int .i64 (pa : Int), .string ⟨tx2.toArray⟩, .int .i64 0, .string ⟨#[]⟩, .string ⟨#[]⟩, .slice none 0 0, .slice none 0 0, .slice none 0 0, .slice none 0 0]) (by simp [results, Tryz.results149, go_sem, m0, m1, m2, m3, m4, m5, m6, m7, m8, m9]) rfl ?_
   have hR := HR.out
   refine ⟨HZ.bo.toBt, ?_⟩
   rw [← hR]
   exact ⟨⟨_, rfl, ⟨35, (pa : Int), 0, ⟨tx2.toArray⟩, ⟨#[]⟩, ⟨#[]⟩, none, none, none, none, 0, 0, 0, 0, 0, 0, 0, 0⟩, rfl, NdI.leaf D _ 35 (pa : Int) ⟨tx2.toArray⟩ (by have := HT2.out; show tx2.length ≤ _; omega)⟩, HZ.px⟩
 have b4 : (tx == [98, 114, 101, 97, 107]) = false := by rw [bqZ]; exact g4
 have hR := HR.out
 rw [if_neg g0, if_neg g1, if_neg g2, if_neg g3, if_neg g4] at hR
 unfold pFt at hR
 replace HR := hQz hR
 clear hR
 clear g0 g1 g2 g3 g4
 go_enter Tryz.func149, Tryz.ntmps149
 go_wp2_with fail
 have HS1 := hQz (HS0.out.alloc [.int .i64 0, .int .i64 0, .string ⟨#[]⟩, .int .i64 0, .string ⟨#[]⟩, .string ⟨#[]⟩, .slice none 0 0, .slice none 0 0, .slice none 0 0, .slice none 0 0] 28)
 refine (HH.out _ HS1.out.px).mono ?_
 rintro e w1 ⟨rfl, hb⟩
 have HS2 := hQz (HS1.out.keep hb)
 clear hb
 go_wp2_with fail
 refine (faultX _ HS2.out.px).mono ?_
 rintro e w2 ⟨rfl, hb⟩
 have HS3 := hQz (HS2.out.keep hb)
 clear hb
 generalize ftE ws t = fe at *
 generalize ftQ ws nb t = fq at *
 go_wp2_with fail
 exact ⟨rfl, HS3.out.bo.toBt, by rw [← HR.out]; rfl⟩
theorem termX (h : PO B so sc ws nb (m + 1) P O) : NodeC B so sc ws nb 138 m (termP ws nb P O) := by
 intro D u t o dn db hx hm
 obtain ⟨R, hR⟩ : ∃ R, termP ws nb P O t o = R := ⟨_, rfl⟩
 rw [hR]
 rw [term_eq] at hR
 have HR := hQz hR
 have HPO := hQz h
 have HS0 := hQz (SB.new (Fl := false) (tr := []) hx dn db (fun q hq => by simp at hq))
 have HX := hQz (And.intro hx.pat.le hx.pat.open_)
 have HM := hQz hm
 have hfl0 := Tryz.fldX0
 have hfl1 := Tryz.fldX1
 have hfl3 := Tryz.fldX3
 clear hR h hx hm dn db
 have Htx := hQz (HPO.out.tx t)
 have HH : Hid (∀ u, PX u B so sc ws nb t o → Calls Tryz.prog 80 #[.pointer (some ⟨B, 0, none⟩)] u fun e w' => e = .returned (tokV (hrP ws t)) ∧ Below u.heap.size u w') := fun u hu => hereX u hu
 have HT : Hid ((hrP ws t).kind ≠ 0 → ∀ u, PX u B so sc ws nb t o → Calls Tryz.prog 109 #[.pointer (some ⟨B, 0, none⟩)] u fun e w' => e = .returned (tokV (hrP ws t)) ∧ Bt B u w' ∧ PX w' B so sc ws nb (t + 1) o) := fun h u hu => takeX (kindL h) u hu
 have Hma : Hid ((hrP ws t).kind ≠ 0 → ∀ (D : Nat → Prop) (W : World), (∀ b, W.heap.size ≤ b → D b) → (∀ b, D b → b ≠ B) → PX W B so sc ws nb t o → Calls Tryz.prog 148 #[.pointer (some ⟨B, 0, none⟩)] W fun e w' => PxR B so sc ws nb W (NdE D) (markedP ws nb P O t o) e w') := fun hk D W d1 d2 hW => markedX HPO.out D W t o d1 d2 hW HM.out (kindL hk)
 have How : Hid ((hrP ws t).kind ≠ 0 → ∀ (D : Nat → Prop) (W : World), (∀ b, W.heap.size ≤ b → D b) → (∀ b, D b → b ≠ B) → PX W B so sc ws nb t o → Calls Tryz.prog 149 #[.pointer (some ⟨B, 0, none⟩)] W fun e w' => PxR B so sc ws nb W (NdE D) (ownedP ws nb P t o) e w') := fun hk D W d1 d2 hW => ownedX HPO.out D W t o d1 d2 hW HM.out (kindL hk)
 have Hte : Hid ((hrP ws t).kind ≠ 0 → ∀ (D : Nat → Prop) (W : World), (∀ b, W.heap.size ≤ b → D b) → (∀ b, D b → b ≠ B) → PX W B so sc ws nb t o → Calls Tryz.prog 146 #[.pointer (some ⟨B, 0, none⟩)] W fun e w' => PxR B so sc ws nb W (NdE D) (textP ws nb P t o) e w') := fun hk D W d1 d2 hW => textX HPO.out D W t o d1 d2 hW HM.out
 have Hca : Hid ((hrP ws t).kind ≠ 0 → ∀ (D : Nat → Prop) (W : World), (∀ b, W.heap.size ≤ b → D b) → (∀ b, D b → b ≠ B) → PX W B so sc ws nb t o → Calls Tryz.prog 153 #[.pointer (some ⟨B, 0, none⟩)] W fun e w' => PxR B so sc ws nb W (NdE D) (callP ws nb P t o) e w') := fun hk D W d1 d2 hW => callX HPO.out D W t o d1 d2 hW HM.out (kindL hk)
 generalize hPHma : markedP ws nb P O t o = QHma at *
 generalize hPHow : ownedP ws nb P t o = QHow at *
 generalize hPHte : textP ws nb P t o = QHte at *
 generalize hPHca : callP ws nb P t o = QHca at *
 generalize hrP ws t = X at *
 obtain ⟨kd, pa, fi, tx, er⟩ := X
 unfold tokV at HH HT
 dsimp only at HH HT HR Htx Hma How Hte Hca
 by_cases k10 : kd = 10
 · have q10 : ((kd : Int) == 10) = true := by rw [k10]; rfl
   have HKz : Hid (kd ≠ 0) := by show _ ≠ _; omega
   have hR := HR.out
   rw [if_pos (by omega)] at hR
   replace HR := hQz hR
   clear hR
   clear k10
   go_enter Tryz.func138, Tryz.ntmps138
   go_wp2_with fail
   have HS1 := hQz (HS0.out.alloc [.int .i64 0, .int .i64 0, .string ⟨#[]⟩, .int .i64 0, .string ⟨#[]⟩, .string ⟨#[]⟩, .slice none 0 0, .slice none 0 0, .slice none 0 0, .slice none 0 0] 28)
   refine (HH.out _ HS1.out.px).mono ?_
   rintro e w1 ⟨rfl, hb⟩
   have HS2 := hQz (HS1.out.keep hb)
   clear hb
   go_wp2_with fail
   refine (Hma.out HKz.out _ _ HS2.out.dnW HS2.out.dbW HS2.out.px).mono ?_
   rintro e w9 ⟨hb, hm⟩
   have hR := HR.out
   rw [hR] at hm
   obtain ⟨er, q, hr⟩ | ⟨T9, t9, o9, hr⟩ := pr_cases R
   · rw [hr] at hm
     obtain rfl : e = .panicked (fcs er q) := hm
     exact ⟨rfl, (HS2.out.bo.trans (Bo.ofBt hb)).toBt, by rw [hr]⟩
   rw [hr] at hm
   obtain ⟨⟨v, rfl, hE⟩, hp⟩ := hm
   clear HR
   have HR := hQz hr.symm
   clear hr hR
   have HS3 := hQz (HS2.out.step hb hp)
   clear hb hp
   obtain ⟨d, rfl, hd⟩ := hE
   have HS4 := hQz (HS3.out.add hd)
   clear hd
   obtain ⟨op9, at9, vk9, tx9, nu9, vt9, io9, yo9, no9, ko9, iN9, ic9, yN9, yc9, nN9, nc9, kN9, kc9⟩ := d
   unfold NV.v NV.l
   dsimp only
   obtain ⟨r0, r1, r2, r3, r4, r5, r6, r7, r8, r9⟩ := nd_cells HS4.out.bb0
   obtain ⟨rf0, rf1, rf2, rf3, rf4, rf5, rf6, rf7, rf8, rf9⟩ := nd_frozen HS4.out.bb0
   go_wp2_with fail
   generalize hzZ : ((((((((((w9).setCell ⟨u.heap.size, 0, none⟩ (.int .i64 op9)).setCell ⟨u.heap.size, 1, none⟩ (.int .i64 at9)).setCell ⟨u.heap.size, 2, none⟩ (.string tx9)).setCell ⟨u.heap.size, 3, none⟩ (.int .i64 vk9)).setCell ⟨u.heap.size, 4, none⟩ (.string nu9)).setCell ⟨u.heap.size, 5, none⟩ (.string vt9)).setCell ⟨u.heap.size, 6, none⟩ (.slice io9 iN9 ic9)).setCell ⟨u.heap.size, 7, none⟩ (.slice yo9 yN9 yc9)).setCell ⟨u.heap.size, 8, none⟩ (.slice no9 nN9 nc9)).setCell ⟨u.heap.size, 9, none⟩ (.slice ko9 kN9 kc9) = WZ
   have PZ := nd_set HS4.out.bb0 hzZ
   obtain ⟨m0, m1, m2, m3, m4, m5, m6, m7, m8, m9⟩ := nd_cells PZ.new
   have HZ := HS4.out.put 0 _ _ [.int .i64 op9, .int .i64 at9, .string tx9, .int .i64 vk9, .string nu9, .string vt9, .slice io9 iN9 ic9, .slice yo9 yN9 yc9, .slice no9 nN9 nc9, .slice ko9 kN9 kc9] _ rfl PZ
   refine bodyPost_ret (v := .agg #[.int .i64 op9, .int .i64 at9, .string tx9, .int .i64 vk9, .string nu9, .string vt9, .slice io9 iN9 ic9, .slice yo9 yN9 yc9, .slice no9 nN9 nc9, .slice ko9 kN9 kc9]) (by simp [results, Tryz.results138, go_sem, m0, m1, m2, m3, m4, m5, m6, m7, m8, m9]) rfl ?_
   have hR := HR.out
   refine ⟨HZ.bo.toBt, ?_⟩
   rw [← hR]
   exact ⟨⟨_, rfl, ⟨op9, at9, vk9, tx9, nu9, vt9, io9, yo9, no9, ko9, iN9, ic9, yN9, yc9, nN9, nc9, kN9, kc9⟩, rfl, HZ.t0⟩, HZ.px⟩
 have q10 : ((kd : Int) == 10) = false := by rw [bqZ]; omega
 by_cases k2 : kd = 2
 · have q2 : ((kd : Int) == 2) = true := by rw [k2]; rfl
   have HKz : Hid (kd ≠ 0) := by show _ ≠ _; omega
   have hR := HR.out
   rw [if_neg (by omega), if_pos (by omega)] at hR
   replace HR := hQz hR
   clear hR
   clear k10 k2
   go_enter Tryz.func138, Tryz.ntmps138
   go_wp2_with fail
   have HS1 := hQz (HS0.out.alloc [.int .i64 0, .int .i64 0, .string ⟨#[]⟩, .int .i64 0, .string ⟨#[]⟩, .string ⟨#[]⟩, .slice none 0 0, .slice none 0 0, .slice none 0 0, .slice none 0 0] 28)
   refine (HH.out _ HS1.out.px).mono ?_
   rintro e w1 ⟨rfl, hb⟩
   have HS2 := hQz (HS1.out.keep hb)
   clear hb
   go_wp2_with fail
   refine (How.out HKz.out _ _ HS2.out.dnW HS2.out.dbW HS2.out.px).mono ?_
   rintro e w9 ⟨hb, hm⟩
   have hR := HR.out
   rw [hR] at hm
   obtain ⟨er, q, hr⟩ | ⟨T9, t9, o9, hr⟩ := pr_cases R
   · rw [hr] at hm
     obtain rfl : e = .panicked (fcs er q) := hm
     exact ⟨rfl, (HS2.out.bo.trans (Bo.ofBt hb)).toBt, by rw [hr]⟩
   rw [hr] at hm
   obtain ⟨⟨v, rfl, hE⟩, hp⟩ := hm
   clear HR
   have HR := hQz hr.symm
   clear hr hR
   have HS3 := hQz (HS2.out.step hb hp)
   clear hb hp
   obtain ⟨d, rfl, hd⟩ := hE
   have HS4 := hQz (HS3.out.add hd)
   clear hd
   obtain ⟨op9, at9, vk9, tx9, nu9, vt9, io9, yo9, no9, ko9, iN9, ic9, yN9, yc9, nN9, nc9, kN9, kc9⟩ := d
   unfold NV.v NV.l
   dsimp only
   obtain ⟨r0, r1, r2, r3, r4, r5, r6, r7, r8, r9⟩ := nd_cells HS4.out.bb0
   obtain ⟨rf0, rf1, rf2, rf3, rf4, rf5, rf6, rf7, rf8, rf9⟩ := nd_frozen HS4.out.bb0
   go_wp2_with fail
   generalize hzZ : ((((((((((w9).setCell ⟨u.heap.size, 0, none⟩ (.int .i64 op9)).setCell ⟨u.heap.size, 1, none⟩ (.int .i64 at9)).setCell ⟨u.heap.size, 2, none⟩ (.string tx9)).setCell ⟨u.heap.size, 3, none⟩ (.int .i64 vk9)).setCell ⟨u.heap.size, 4, none⟩ (.string nu9)).setCell ⟨u.heap.size, 5, none⟩ (.string vt9)).setCell ⟨u.heap.size, 6, none⟩ (.slice io9 iN9 ic9)).setCell ⟨u.heap.size, 7, none⟩ (.slice yo9 yN9 yc9)).setCell ⟨u.heap.size, 8, none⟩ (.slice no9 nN9 nc9)).setCell ⟨u.heap.size, 9, none⟩ (.slice ko9 kN9 kc9) = WZ
   have PZ := nd_set HS4.out.bb0 hzZ
   obtain ⟨m0, m1, m2, m3, m4, m5, m6, m7, m8, m9⟩ := nd_cells PZ.new
   have HZ := HS4.out.put 0 _ _ [.int .i64 op9, .int .i64 at9, .string tx9, .int .i64 vk9, .string nu9, .string vt9, .slice io9 iN9 ic9, .slice yo9 yN9 yc9, .slice no9 nN9 nc9, .slice ko9 kN9 kc9] _ rfl PZ
   refine bodyPost_ret (v := .agg #[.int .i64 op9, .int .i64 at9, .string tx9, .int .i64 vk9, .string nu9, .string vt9, .slice io9 iN9 ic9, .slice yo9 yN9 yc9, .slice no9 nN9 nc9, .slice ko9 kN9 kc9]) (by simp [results, Tryz.results138, go_sem, m0, m1, m2, m3, m4, m5, m6, m7, m8, m9]) rfl ?_
   have hR := HR.out
   refine ⟨HZ.bo.toBt, ?_⟩
   rw [← hR]
   exact ⟨⟨_, rfl, ⟨op9, at9, vk9, tx9, nu9, vt9, io9, yo9, no9, ko9, iN9, ic9, yN9, yc9, nN9, nc9, kN9, kc9⟩, rfl, HZ.t0⟩, HZ.px⟩
 have q2 : ((kd : Int) == 2) = false := by rw [bqZ]; omega
 by_cases k4 : kd = 4
 · have q4 : ((kd : Int) == 4) = true := by rw [k4]; rfl
   have HKz : Hid (kd ≠ 0) := by show _ ≠ _; omega
   have hR := HR.out
   rw [if_neg (by omega), if_neg (by omega), if_pos (by omega)] at hR
   replace HR := hQz hR
   clear hR
   clear k10 k2 k4
   go_enter Tryz.func138, Tryz.ntmps138
   go_wp2_with fail
   have HS1 := hQz (HS0.out.alloc [.int .i64 0, .int .i64 0, .string ⟨#[]⟩, .int .i64 0, .string ⟨#[]⟩, .string ⟨#[]⟩, .slice none 0 0, .slice none 0 0, .slice none 0 0, .slice none 0 0] 28)
   refine (HH.out _ HS1.out.px).mono ?_
   rintro e w1 ⟨rfl, hb⟩
   have HS2 := hQz (HS1.out.keep hb)
   clear hb
   go_wp2_with fail
   refine (HT.out HKz.out _ HS2.out.px).mono ?_
   rintro e w2 ⟨rfl, hb, hp⟩
   have HS3 := hQz (HS2.out.step hb hp)
   clear hb hp
   go_wp2_with fail
   refine (fieldX _ ⟨kd, pa, fi, tx, er⟩ (by have := Htx.out; show tx.length ≤ _; omega) _ HS3.out.dnW).mono ?_
   rintro e w3 ⟨d, rfl, hb, hd⟩
   have HS4 := hQz ((HS3.out.keep hb).add (hd.weak (fun b hb _ => hb)))
   clear hb hd
   obtain ⟨op1, at1, vk1, tx1, nu1, vt1, io1, yo1, no1, ko1, iN1, ic1, yN1, yc1, nN1, nc1, kN1, kc1⟩ := d
   unfold NV.v NV.l
   dsimp only
   obtain ⟨r0, r1, r2, r3, r4, r5, r6, r7, r8, r9⟩ := nd_cells HS4.out.bb0
   obtain ⟨rf0, rf1, rf2, rf3, rf4, rf5, rf6, rf7, rf8, rf9⟩ := nd_frozen HS4.out.bb0
   go_wp2_with fail
   generalize hzZ : ((((((((((w3).setCell ⟨u.heap.size, 0, none⟩ (.int .i64 op1)).setCell ⟨u.heap.size, 1, none⟩ (.int .i64 at1)).setCell ⟨u.heap.size, 2, none⟩ (.string tx1)).setCell ⟨u.heap.size, 3, none⟩ (.int .i64 vk1)).setCell ⟨u.heap.size, 4, none⟩ (.string nu1)).setCell ⟨u.heap.size, 5, none⟩ (.string vt1)).setCell ⟨u.heap.size, 6, none⟩ (.slice io1 iN1 ic1)).setCell ⟨u.heap.size, 7, none⟩ (.slice yo1 yN1 yc1)).setCell ⟨u.heap.size, 8, none⟩ (.slice no1 nN1 nc1)).setCell ⟨u.heap.size, 9, none⟩ (.slice ko1 kN1 kc1) = WZ
   have PZ := nd_set HS4.out.bb0 hzZ
   obtain ⟨m0, m1, m2, m3, m4, m5, m6, m7, m8, m9⟩ := nd_cells PZ.new
   have HZ := HS4.out.put 0 _ _ [.int .i64 op1, .int .i64 at1, .string tx1, .int .i64 vk1, .string nu1, .string vt1, .slice io1 iN1 ic1, .slice yo1 yN1 yc1, .slice no1 nN1 nc1, .slice ko1 kN1 kc1] _ rfl PZ
   refine bodyPost_ret (v := .agg #[.int .i64 op1, .int .i64 at1, .string tx1, .int .i64 vk1, .string nu1, .string vt1, .slice io1 iN1 ic1, .slice yo1 yN1 yc1, .slice no1 nN1 nc1, .slice ko1 kN1 kc1]) (by simp [results, Tryz.results138, go_sem, m0, m1, m2, m3, m4, m5, m6, m7, m8, m9]) rfl ?_
   have hR := HR.out
   refine ⟨HZ.bo.toBt, ?_⟩
   rw [← hR]
   exact ⟨⟨_, rfl, ⟨op1, at1, vk1, tx1, nu1, vt1, io1, yo1, no1, ko1, iN1, ic1, yN1, yc1, nN1, nc1, kN1, kc1⟩, rfl, HZ.t0⟩, HZ.px⟩
 have q4 : ((kd : Int) == 4) = false := by rw [bqZ]; omega
 by_cases k5 : kd = 5
 · have q5 : ((kd : Int) == 5) = true := by rw [k5]; rfl
   have HKz : Hid (kd ≠ 0) := by show _ ≠ _; omega
   have hR := HR.out
   rw [if_neg (by omega), if_neg (by omega), if_neg (by omega), if_pos (by omega)] at hR
   replace HR := hQz hR
   clear hR
   clear k10 k2 k4 k5
   go_enter Tryz.func138, Tryz.ntmps138
   go_wp2_with fail
   have HS1 := hQz (HS0.out.alloc [.int .i64 0, .int .i64 0, .string ⟨#[]⟩, .int .i64 0, .string ⟨#[]⟩, .string ⟨#[]⟩, .slice none 0 0, .slice none 0 0, .slice none 0 0, .slice none 0 0] 28)
   refine (HH.out _ HS1.out.px).mono ?_
   rintro e w1 ⟨rfl, hb⟩
   have HS2 := hQz (HS1.out.keep hb)
   clear hb
   go_wp2_with fail
   refine (HT.out HKz.out _ HS2.out.px).mono ?_
   rintro e w2 ⟨rfl, hb, hp⟩
   have HS3 := hQz (HS2.out.step hb hp)
   clear hb hp
   obtain ⟨W3, hW3⟩ : ∃ W, w2.alloc (.cells #[.int .i64 (kd : Int), .int .i64 (pa : Int), .int .i64 (fi : Int), .string ⟨tx.toArray⟩] 39) = W := ⟨_, rfl⟩
   have HS4 := hQz (HS3.out.alloc [.int .i64 (kd : Int), .int .i64 (pa : Int), .int .i64 (fi : Int), .string ⟨tx.toArray⟩] 39)
   rw [hW3] at HS4
   obtain ⟨c0, c1, c2, c3⟩ := tb_cells HS4.out.bb0
   go_wp2_with fail
   clear hW3 c0 c1 c2 c3
   refine (constX (fun _ => False) pa 3 ⟨tx.toArray⟩ ⟨#[]⟩ (by have := Htx.out; show tx.length ≤ _; omega) size0 _).mono ?_
   rintro e w4 ⟨d, rfl, hb, hd⟩
   have HS5 := hQz ((HS4.out.keep hb).add (hd.weak (fun b hb _ => hb.elim)))
   clear hb hd
   obtain ⟨op1, at1, vk1, tx1, nu1, vt1, io1, yo1, no1, ko1, iN1, ic1, yN1, yc1, nN1, nc1, kN1, kc1⟩ := d
   unfold NV.v NV.l
   dsimp only
   obtain ⟨r0, r1, r2, r3, r4, r5, r6, r7, r8, r9⟩ := nd_cells HS5.out.bb1
   obtain ⟨rf0, rf1, rf2, rf3, rf4, rf5, rf6, rf7, rf8, rf9⟩ := nd_frozen HS5.out.bb1
   go_wp2_with fail
   generalize hzZ : ((((((((((w4).setCell ⟨u.heap.size, 0, none⟩ (.int .i64 op1)).setCell ⟨u.heap.size, 1, none⟩ (.int .i64 at1)).setCell ⟨u.heap.size, 2, none⟩ (.string tx1)).setCell ⟨u.heap.size, 3, none⟩ (.int .i64 vk1)).setCell ⟨u.heap.size, 4, none⟩ (.string nu1)).setCell ⟨u.heap.size, 5, none⟩ (.string vt1)).setCell ⟨u.heap.size, 6, none⟩ (.slice io1 iN1 ic1)).setCell ⟨u.heap.size, 7, none⟩ (.slice yo1 yN1 yc1)).setCell ⟨u.heap.size, 8, none⟩ (.slice no1 nN1 nc1)).setCell ⟨u.heap.size, 9, none⟩ (.slice ko1 kN1 kc1) = WZ
   have PZ := nd_set HS5.out.bb1 hzZ
   obtain ⟨m0, m1, m2, m3, m4, m5, m6, m7, m8, m9⟩ := nd_cells PZ.new
   have HZ := HS5.out.put 1 _ _ [.int .i64 op1, .int .i64 at1, .string tx1, .int .i64 vk1, .string nu1, .string vt1, .slice io1 iN1 ic1, .slice yo1 yN1 yc1, .slice no1 nN1 nc1, .slice ko1 kN1 kc1] _ rfl PZ
   refine bodyPost_ret (v := .agg #[.int .i64 op1, .int .i64 at1, .string tx1, .int .i64 vk1, .string nu1, .string vt1, .slice io1 iN1 ic1, .slice yo1 yN1 yc1, .slice no1 nN1 nc1, .slice ko1 kN1 kc1]) (by simp [results, Tryz.results138, go_sem, m0, m1, m2, m3, m4, m5, m6, m7, m8, m9]) rfl ?_
   have hR := HR.out
   refine ⟨HZ.bo.toBt, ?_⟩
   rw [← hR]
   exact ⟨⟨_, rfl, ⟨op1, at1, vk1, tx1, nu1, vt1, io1, yo1, no1, ko1, iN1, ic1, yN1, yc1, nN1, nc1, kN1, kc1⟩, rfl, HZ.t0⟩, HZ.px⟩
 have q5 : ((kd : Int) == 5) = false := by rw [bqZ]; omega
 by_cases k6 : kd = 6
 · have q6 : ((kd : Int) == 6) = true := by rw [k6]; rfl
   have HKz : Hid (kd ≠ 0) := by show _ ≠ _; omega
   have hR := HR.out
   rw [if_neg (by omega), if_neg (by omega), if_neg (by omega), if_neg (by omega), if_pos (by omega)] at hR
   replace HR := hQz hR
   clear hR
   clear k10 k2 k4 k5 k6
   go_enter Tryz.func138, Tryz.ntmps138
   go_wp2_with fail
   have HS1 := hQz (HS0.out.alloc [.int .i64 0, .int .i64 0, .string ⟨#[]⟩, .int .i64 0, .string ⟨#[]⟩, .string ⟨#[]⟩, .slice none 0 0, .slice none 0 0, .slice none 0 0, .slice none 0 0] 28)
   refine (HH.out _ HS1.out.px).mono ?_
   rintro e w1 ⟨rfl, hb⟩
   have HS2 := hQz (HS1.out.keep hb)
   clear hb
   go_wp2_with fail
   refine (Hte.out HKz.out _ _ HS2.out.dnW HS2.out.dbW HS2.out.px).mono ?_
   rintro e w9 ⟨hb, hm⟩
   have hR := HR.out
   rw [hR] at hm
   obtain ⟨er, q, hr⟩ | ⟨T9, t9, o9, hr⟩ := pr_cases R
   · rw [hr] at hm
     obtain rfl : e = .panicked (fcs er q) := hm
     exact ⟨rfl, (HS2.out.bo.trans (Bo.ofBt hb)).toBt, by rw [hr]⟩
   rw [hr] at hm
   obtain ⟨⟨v, rfl, hE⟩, hp⟩ := hm
   clear HR
   have HR := hQz hr.symm
   clear hr hR
   have HS3 := hQz (HS2.out.step hb hp)
   clear hb hp
   obtain ⟨d, rfl, hd⟩ := hE
   have HS4 := hQz (HS3.out.add hd)
   clear hd
   obtain ⟨op9, at9, vk9, tx9, nu9, vt9, io9, yo9, no9, ko9, iN9, ic9, yN9, yc9, nN9, nc9, kN9, kc9⟩ := d
   unfold NV.v NV.l
   dsimp only
   obtain ⟨r0, r1, r2, r3, r4, r5, r6, r7, r8, r9⟩ := nd_cells HS4.out.bb0
   obtain ⟨rf0, rf1, rf2, rf3, rf4, rf5, rf6, rf7, rf8, rf9⟩ := nd_frozen HS4.out.bb0
   go_wp2_with fail
   generalize hzZ : ((((((((((w9).setCell ⟨u.heap.size, 0, none⟩ (.int .i64 op9)).setCell ⟨u.heap.size, 1, none⟩ (.int .i64 at9)).setCell ⟨u.heap.size, 2, none⟩ (.string tx9)).setCell ⟨u.heap.size, 3, none⟩ (.int .i64 vk9)).setCell ⟨u.heap.size, 4, none⟩ (.string nu9)).setCell ⟨u.heap.size, 5, none⟩ (.string vt9)).setCell ⟨u.heap.size, 6, none⟩ (.slice io9 iN9 ic9)).setCell ⟨u.heap.size, 7, none⟩ (.slice yo9 yN9 yc9)).setCell ⟨u.heap.size, 8, none⟩ (.slice no9 nN9 nc9)).setCell ⟨u.heap.size, 9, none⟩ (.slice ko9 kN9 kc9) = WZ
   have PZ := nd_set HS4.out.bb0 hzZ
   obtain ⟨m0, m1, m2, m3, m4, m5, m6, m7, m8, m9⟩ := nd_cells PZ.new
   have HZ := HS4.out.put 0 _ _ [.int .i64 op9, .int .i64 at9, .string tx9, .int .i64 vk9, .string nu9, .string vt9, .slice io9 iN9 ic9, .slice yo9 yN9 yc9, .slice no9 nN9 nc9, .slice ko9 kN9 kc9] _ rfl PZ
   refine bodyPost_ret (v := .agg #[.int .i64 op9, .int .i64 at9, .string tx9, .int .i64 vk9, .string nu9, .string vt9, .slice io9 iN9 ic9, .slice yo9 yN9 yc9, .slice no9 nN9 nc9, .slice ko9 kN9 kc9]) (by simp [results, Tryz.results138, go_sem, m0, m1, m2, m3, m4, m5, m6, m7, m8, m9]) rfl ?_
   have hR := HR.out
   refine ⟨HZ.bo.toBt, ?_⟩
   rw [← hR]
   exact ⟨⟨_, rfl, ⟨op9, at9, vk9, tx9, nu9, vt9, io9, yo9, no9, ko9, iN9, ic9, yN9, yc9, nN9, nc9, kN9, kc9⟩, rfl, HZ.t0⟩, HZ.px⟩
 have q6 : ((kd : Int) == 6) = false := by rw [bqZ]; omega
 by_cases k7 : kd = 7
 · have q7 : ((kd : Int) == 7) = true := by rw [k7]; rfl
   have HKz : Hid (kd ≠ 0) := by show _ ≠ _; omega
   have hR := HR.out
   rw [if_neg (by omega), if_neg (by omega), if_neg (by omega), if_neg (by omega), if_pos (by omega)] at hR
   replace HR := hQz hR
   clear hR
   clear k10 k2 k4 k5 k6 k7
   go_enter Tryz.func138, Tryz.ntmps138
   go_wp2_with fail
   have HS1 := hQz (HS0.out.alloc [.int .i64 0, .int .i64 0, .string ⟨#[]⟩, .int .i64 0, .string ⟨#[]⟩, .string ⟨#[]⟩, .slice none 0 0, .slice none 0 0, .slice none 0 0, .slice none 0 0] 28)
   refine (HH.out _ HS1.out.px).mono ?_
   rintro e w1 ⟨rfl, hb⟩
   have HS2 := hQz (HS1.out.keep hb)
   clear hb
   go_wp2_with fail
   refine (Hte.out HKz.out _ _ HS2.out.dnW HS2.out.dbW HS2.out.px).mono ?_
   rintro e w9 ⟨hb, hm⟩
   have hR := HR.out
   rw [hR] at hm
   obtain ⟨er, q, hr⟩ | ⟨T9, t9, o9, hr⟩ := pr_cases R
   · rw [hr] at hm
     obtain rfl : e = .panicked (fcs er q) := hm
     exact ⟨rfl, (HS2.out.bo.trans (Bo.ofBt hb)).toBt, by rw [hr]⟩
   rw [hr] at hm
   obtain ⟨⟨v, rfl, hE⟩, hp⟩ := hm
   clear HR
   have HR := hQz hr.symm
   clear hr hR
   have HS3 := hQz (HS2.out.step hb hp)
   clear hb hp
   obtain ⟨d, rfl, hd⟩ := hE
   have HS4 := hQz (HS3.out.add hd)
   clear hd
   obtain ⟨op9, at9, vk9, tx9, nu9, vt9, io9, yo9, no9, ko9, iN9, ic9, yN9, yc9, nN9, nc9, kN9, kc9⟩ := d
   unfold NV.v NV.l
   dsimp only
   obtain ⟨r0, r1, r2, r3, r4, r5, r6, r7, r8, r9⟩ := nd_cells HS4.out.bb0
   obtain ⟨rf0, rf1, rf2, rf3, rf4, rf5, rf6, rf7, rf8, rf9⟩ := nd_frozen HS4.out.bb0
   go_wp2_with fail
   generalize hzZ : ((((((((((w9).setCell ⟨u.heap.size, 0, none⟩ (.int .i64 op9)).setCell ⟨u.heap.size, 1, none⟩ (.int .i64 at9)).setCell ⟨u.heap.size, 2, none⟩ (.string tx9)).setCell ⟨u.heap.size, 3, none⟩ (.int .i64 vk9)).setCell ⟨u.heap.size, 4, none⟩ (.string nu9)).setCell ⟨u.heap.size, 5, none⟩ (.string vt9)).setCell ⟨u.heap.size, 6, none⟩ (.slice io9 iN9 ic9)).setCell ⟨u.heap.size, 7, none⟩ (.slice yo9 yN9 yc9)).setCell ⟨u.heap.size, 8, none⟩ (.slice no9 nN9 nc9)).setCell ⟨u.heap.size, 9, none⟩ (.slice ko9 kN9 kc9) = WZ
   have PZ := nd_set HS4.out.bb0 hzZ
   obtain ⟨m0, m1, m2, m3, m4, m5, m6, m7, m8, m9⟩ := nd_cells PZ.new
   have HZ := HS4.out.put 0 _ _ [.int .i64 op9, .int .i64 at9, .string tx9, .int .i64 vk9, .string nu9, .string vt9, .slice io9 iN9 ic9, .slice yo9 yN9 yc9, .slice no9 nN9 nc9, .slice ko9 kN9 kc9] _ rfl PZ
   refine bodyPost_ret (v := .agg #[.int .i64 op9, .int .i64 at9, .string tx9, .int .i64 vk9, .string nu9, .string vt9, .slice io9 iN9 ic9, .slice yo9 yN9 yc9, .slice no9 nN9 nc9, .slice ko9 kN9 kc9]) (by simp [results, Tryz.results138, go_sem, m0, m1, m2, m3, m4, m5, m6, m7, m8, m9]) rfl ?_
   have hR := HR.out
   refine ⟨HZ.bo.toBt, ?_⟩
   rw [← hR]
   exact ⟨⟨_, rfl, ⟨op9, at9, vk9, tx9, nu9, vt9, io9, yo9, no9, ko9, iN9, ic9, yN9, yc9, nN9, nc9, kN9, kc9⟩, rfl, HZ.t0⟩, HZ.px⟩
 have q7 : ((kd : Int) == 7) = false := by rw [bqZ]; omega
 by_cases k3 : kd = 3
 · have q3 : ((kd : Int) == 3) = true := by rw [k3]; rfl
   have HKz : Hid (kd ≠ 0) := by show _ ≠ _; omega
   have hR := HR.out
   rw [if_neg (by omega), if_neg (by omega), if_neg (by omega), if_neg (by omega), if_neg (by omega), if_pos (by omega)] at hR
   replace HR := hQz hR
   clear hR
   clear k10 k2 k4 k5 k6 k7 k3
   go_enter Tryz.func138, Tryz.ntmps138
   go_wp2_with fail
   have HS1 := hQz (HS0.out.alloc [.int .i64 0, .int .i64 0, .string ⟨#[]⟩, .int .i64 0, .string ⟨#[]⟩, .string ⟨#[]⟩, .slice none 0 0, .slice none 0 0, .slice none 0 0, .slice none 0 0] 28)
   refine (HH.out _ HS1.out.px).mono ?_
   rintro e w1 ⟨rfl, hb⟩
   have HS2 := hQz (HS1.out.keep hb)
   clear hb
   go_wp2_with fail
   refine (HT.out HKz.out _ HS2.out.px).mono ?_
   rintro e w2 ⟨rfl, hb, hp⟩
   have HS3 := hQz (HS2.out.step hb hp)
   clear hb hp
   go_wp2_with fail
   refine (varX (fun _ => False) ⟨kd, pa, fi, tx, er⟩ (by have := Htx.out; show tx.length ≤ _; omega) _).mono ?_
   rintro e w3 ⟨d, rfl, hb, hd⟩
   have HS4 := hQz ((HS3.out.keep hb).add (hd.weak (fun b hb _ => hb.elim)))
   clear hb hd
   obtain ⟨op1, at1, vk1, tx1, nu1, vt1, io1, yo1, no1, ko1, iN1, ic1, yN1, yc1, nN1, nc1, kN1, kc1⟩ := d
   unfold NV.v NV.l
   dsimp only
   obtain ⟨r0, r1, r2, r3, r4, r5, r6, r7, r8, r9⟩ := nd_cells HS4.out.bb0
   obtain ⟨rf0, rf1, rf2, rf3, rf4, rf5, rf6, rf7, rf8, rf9⟩ := nd_frozen HS4.out.bb0
   go_wp2_with fail
   generalize hzZ : ((((((((((w3).setCell ⟨u.heap.size, 0, none⟩ (.int .i64 op1)).setCell ⟨u.heap.size, 1, none⟩ (.int .i64 at1)).setCell ⟨u.heap.size, 2, none⟩ (.string tx1)).setCell ⟨u.heap.size, 3, none⟩ (.int .i64 vk1)).setCell ⟨u.heap.size, 4, none⟩ (.string nu1)).setCell ⟨u.heap.size, 5, none⟩ (.string vt1)).setCell ⟨u.heap.size, 6, none⟩ (.slice io1 iN1 ic1)).setCell ⟨u.heap.size, 7, none⟩ (.slice yo1 yN1 yc1)).setCell ⟨u.heap.size, 8, none⟩ (.slice no1 nN1 nc1)).setCell ⟨u.heap.size, 9, none⟩ (.slice ko1 kN1 kc1) = WZ
   have PZ := nd_set HS4.out.bb0 hzZ
   obtain ⟨m0, m1, m2, m3, m4, m5, m6, m7, m8, m9⟩ := nd_cells PZ.new
   have HZ := HS4.out.put 0 _ _ [.int .i64 op1, .int .i64 at1, .string tx1, .int .i64 vk1, .string nu1, .string vt1, .slice io1 iN1 ic1, .slice yo1 yN1 yc1, .slice no1 nN1 nc1, .slice ko1 kN1 kc1] _ rfl PZ
   refine bodyPost_ret (v := .agg #[.int .i64 op1, .int .i64 at1, .string tx1, .int .i64 vk1, .string nu1, .string vt1, .slice io1 iN1 ic1, .slice yo1 yN1 yc1, .slice no1 nN1 nc1, .slice ko1 kN1 kc1]) (by simp [results, Tryz.results138, go_sem, m0, m1, m2, m3, m4, m5, m6, m7, m8, m9]) rfl ?_
   have hR := HR.out
   refine ⟨HZ.bo.toBt, ?_⟩
   rw [← hR]
   exact ⟨⟨_, rfl, ⟨op1, at1, vk1, tx1, nu1, vt1, io1, yo1, no1, ko1, iN1, ic1, yN1, yc1, nN1, nc1, kN1, kc1⟩, rfl, HZ.t0⟩, HZ.px⟩
 have q3 : ((kd : Int) == 3) = false := by rw [bqZ]; omega
 by_cases k1 : kd = 1
 · have q1 : ((kd : Int) == 1) = true := by rw [k1]; rfl
   have HKz : Hid (kd ≠ 0) := by show _ ≠ _; omega
   have hR := HR.out
   rw [if_neg (by omega), if_neg (by omega), if_neg (by omega), if_neg (by omega), if_neg (by omega), if_neg (by omega), if_pos (by omega)] at hR
   replace HR := hQz hR
   clear hR
   clear k10 k2 k4 k5 k6 k7 k3 k1
   go_enter Tryz.func138, Tryz.ntmps138
   go_wp2_with fail
   have HS1 := hQz (HS0.out.alloc [.int .i64 0, .int .i64 0, .string ⟨#[]⟩, .int .i64 0, .string ⟨#[]⟩, .string ⟨#[]⟩, .slice none 0 0, .slice none 0 0, .slice none 0 0, .slice none 0 0] 28)
   refine (HH.out _ HS1.out.px).mono ?_
   rintro e w1 ⟨rfl, hb⟩
   have HS2 := hQz (HS1.out.keep hb)
   clear hb
   go_wp2_with fail
   refine (Hca.out HKz.out _ _ HS2.out.dnW HS2.out.dbW HS2.out.px).mono ?_
   rintro e w9 ⟨hb, hm⟩
   have hR := HR.out
   rw [hR] at hm
   obtain ⟨er, q, hr⟩ | ⟨T9, t9, o9, hr⟩ := pr_cases R
   · rw [hr] at hm
     obtain rfl : e = .panicked (fcs er q) := hm
     exact ⟨rfl, (HS2.out.bo.trans (Bo.ofBt hb)).toBt, by rw [hr]⟩
   rw [hr] at hm
   obtain ⟨⟨v, rfl, hE⟩, hp⟩ := hm
   clear HR
   have HR := hQz hr.symm
   clear hr hR
   have HS3 := hQz (HS2.out.step hb hp)
   clear hb hp
   obtain ⟨d, rfl, hd⟩ := hE
   have HS4 := hQz (HS3.out.add hd)
   clear hd
   obtain ⟨op9, at9, vk9, tx9, nu9, vt9, io9, yo9, no9, ko9, iN9, ic9, yN9, yc9, nN9, nc9, kN9, kc9⟩ := d
   unfold NV.v NV.l
   dsimp only
   obtain ⟨r0, r1, r2, r3, r4, r5, r6, r7, r8, r9⟩ := nd_cells HS4.out.bb0
   obtain ⟨rf0, rf1, rf2, rf3, rf4, rf5, rf6, rf7, rf8, rf9⟩ := nd_frozen HS4.out.bb0
   go_wp2_with fail
   generalize hzZ : ((((((((((w9).setCell ⟨u.heap.size, 0, none⟩ (.int .i64 op9)).setCell ⟨u.heap.size, 1, none⟩ (.int .i64 at9)).setCell ⟨u.heap.size, 2, none⟩ (.string tx9)).setCell ⟨u.heap.size, 3, none⟩ (.int .i64 vk9)).setCell ⟨u.heap.size, 4, none⟩ (.string nu9)).setCell ⟨u.heap.size, 5, none⟩ (.string vt9)).setCell ⟨u.heap.size, 6, none⟩ (.slice io9 iN9 ic9)).setCell ⟨u.heap.size, 7, none⟩ (.slice yo9 yN9 yc9)).setCell ⟨u.heap.size, 8, none⟩ (.slice no9 nN9 nc9)).setCell ⟨u.heap.size, 9, none⟩ (.slice ko9 kN9 kc9) = WZ
   have PZ := nd_set HS4.out.bb0 hzZ
   obtain ⟨m0, m1, m2, m3, m4, m5, m6, m7, m8, m9⟩ := nd_cells PZ.new
   have HZ := HS4.out.put 0 _ _ [.int .i64 op9, .int .i64 at9, .string tx9, .int .i64 vk9, .string nu9, .string vt9, .slice io9 iN9 ic9, .slice yo9 yN9 yc9, .slice no9 nN9 nc9, .slice ko9 kN9 kc9] _ rfl PZ
   refine bodyPost_ret (v := .agg #[.int .i64 op9, .int .i64 at9, .string tx9, .int .i64 vk9, .string nu9, .string vt9, .slice io9 iN9 ic9, .slice yo9 yN9 yc9, .slice no9 nN9 nc9, .slice ko9 kN9 kc9]) (by simp [results, Tryz.results138, go_sem, m0, m1, m2, m3, m4, m5, m6, m7, m8, m9]) rfl ?_
   have hR := HR.out
   refine ⟨HZ.bo.toBt, ?_⟩
   rw [← hR]
   exact ⟨⟨_, rfl, ⟨op9, at9, vk9, tx9, nu9, vt9, io9, yo9, no9, ko9, iN9, ic9, yN9, yc9, nN9, nc9, kN9, kc9⟩, rfl, HZ.t0⟩, HZ.px⟩
 have q1 : ((kd : Int) == 1) = false := by rw [bqZ]; omega
 have hR := HR.out
 rw [if_neg (by omega), if_neg (by omega), if_neg (by omega), if_neg (by omega), if_neg (by omega), if_neg (by omega), if_neg (by omega)] at hR
 unfold pFt at hR
 replace HR := hQz hR
 clear hR
 clear k10 k2 k4 k5 k6 k7 k3 k1
 go_enter Tryz.func138, Tryz.ntmps138
 go_wp2_with fail
 have HS1 := hQz (HS0.out.alloc [.int .i64 0, .int .i64 0, .string ⟨#[]⟩, .int .i64 0, .string ⟨#[]⟩, .string ⟨#[]⟩, .slice none 0 0, .slice none 0 0, .slice none 0 0, .slice none 0 0] 28)
 refine (HH.out _ HS1.out.px).mono ?_
 rintro e w1 ⟨rfl, hb⟩
 have HS2 := hQz (HS1.out.keep hb)
 clear hb
 go_wp2_with fail
 refine (faultX _ HS2.out.px).mono ?_
 rintro e w2 ⟨rfl, hb⟩
 have HS3 := hQz (HS2.out.keep hb)
 clear hb
 generalize ftE ws t = fe at *
 generalize ftQ ws nb t = fq at *
 go_wp2_with fail
 exact ⟨rfl, HS3.out.bo.toBt, by rw [← HR.out]; rfl⟩
end
end Go.Proofs.YtajnaiddcobkiaaGreatDoor
