import Derived.Test.YtajnaiddcobkiaaGreatDoorM34
import Derived.Test.YtajnaiddcobkiaaGreatDoorM1
import Derived.Deep.AppendLies
namespace Go.Proofs.YtajnaiddcobkiaaGreatDoor
open Go.RowKit Go.Shelf
set_option linter.unusedVariables false
set_option linter.unusedSimpArgs false
attribute [local go_sem] Oper.semAt_some
set_option maxRecDepth 100000
set_option maxHeartbeats 12800000
theorem open_eq {ws : List Tok} {t o t1 o1 : Nat} {x : Tok} (h : pOpen ws t o = .ok x t1 o1) : x = hrP ws t := by
 unfold pOpen at h
 split at h
 · cases h
 · injection h with h
   exact h.symm
theorem be_eq {ws : List Tok} {nb k t o t1 o1 : Nat} {x : Tok} (h : pBe ws nb k t o = .ok x t1 o1) : x = hrP ws t := by
 unfold pBe at h
 split at h
 · injection h with h
   exact h.symm
 · cases h
section
variable {B : Nat} {so : Option Addr} {sc : Nat} {ws : List Tok} {nb : Nat} {m : Nat} {P : PM NT} {O : Nat → PM NT}
theorem textX (h : PO B so sc ws nb (m + 1) P O) : NodeC B so sc ws nb 146 m (textP ws nb P) := by
 intro D u t o dn db hx hm
 obtain ⟨R, hR⟩ : ∃ R, textP ws nb P t o = R := ⟨_, rfl⟩
 rw [hR]
 unfold textP at hR
 have HR := hQz hR
 have HPO := hQz h
 have HS0 := hQz (SB.new (Fl := false) (tr := []) hx dn db (fun q hq => by simp at hq))
 have HX := hQz (And.intro hx.pat.le hx.pat.open_)
 have HM := hQz hm
 have hfl0 := Tryz.fldX0
 have hfl1 := Tryz.fldX1
 have hfl3 := Tryz.fldX3
 clear hR h hx hm dn db
 obtain ⟨i0, hi0, hz0, hz1, hz2⟩ := info_parts Tryz.infoN
 have Htx := hQz (fun t => HPO.out.tx t)
 obtain ⟨c6, h6⟩ : ∃ c, isP ws 6 t = c := ⟨_, rfl⟩
 cases c6 with
 | true =>
  have hR := HR.out
  rw [if_pos h6, pThen_ok (x := pTake ws) rfl] at hR
  (try dsimp only at hR)
  replace HR := hQz hR
  clear hR
  go_enter Tryz.func146, Tryz.ntmps146
  go_wp2_with fail
  have HS1 := hQz (HS0.out.alloc [.int .i64 0, .int .i64 0, .string ⟨#[]⟩, .int .i64 0, .string ⟨#[]⟩, .string ⟨#[]⟩, .slice none 0 0, .slice none 0 0, .slice none 0 0, .slice none 0 0] 28)
  refine (isX 6 h6 _ HS1.out.px).mono ?_
  rintro e w1 ⟨rfl, hb⟩
  have HS2 := hQz (HS1.out.keep hb)
  clear hb
  go_wp2_with fail
  refine (takeX (is_lt (by decide) h6) _ HS2.out.px).mono ?_
  rintro e w2 ⟨rfl, hb, hp⟩
  have HS3 := hQz (HS2.out.step hb hp)
  clear hb hp
  go_wp2_with fail
  refine (saidX (fun _ => False) (hrP ws t) (by have := Htx.out t; omega) _).mono ?_
  rintro e w3 ⟨d, rfl, hb, hd⟩
  have HS4 := hQz ((HS3.out.keep hb).add (hd.weak (fun b hb _ => hb.elim)))
  clear hb hd
  obtain ⟨op1, at1, vk1, tx1, nu1, vt1, io1, yo1, no1, ko1, iN1, ic1, yN1, yc1, nN1, nc1, kN1, kc1⟩ := d
  unfold NV.v NV.l
  dsimp only
  obtain ⟨r0, r1, r2, r3, r4, r5, r6, r7, r8, r9⟩ := nd_cells HS4.out.bb0
  obtain ⟨rf0, rf1, rf2, rf3, rf4, rf5, rf6, rf7, rf8, rf9⟩ := nd_frozen HS4.out.bb0
  go_wp2_with fail
  generalize hzZ : ((((((((((w3).setCell ⟨u.heap.size, 0, none⟩ (.int .i64 op1)).setCell ⟨u.heap.size, 1, none⟩ (.int .i64 at1)).setCell ⟨u.heap.size, 2, none⟩ (.string tx1)).setCell ⟨u.heap.size, 3, none⟩ (.int .i64 vk1)).setCell ⟨u.heap.size, 4, none⟩ (.string nu1)).setCell ⟨u.heap.size, 5, none⟩ (.string vt1)).setCell ⟨u.heap.size, 6, none⟩ (.slice io1 iN1 ic1)).setCell ⟨u.heap.size, 7, none⟩ (.slice yo1 yN1 yc1)).setCell ⟨u.heap.size, 8, none⟩ (.slice no1 nN1 nc1)).setCell ⟨u.heap.size, 9, none⟩ (.slice ko1 kN1 kc1) = WZ
  have PZ := nd_set HS4.out.bb0 hzZ
  obtain ⟨m0, m1, m2, m3, m4, m5, m6, m7, m8, m9⟩ := nd_cells PZ.new
  have HZ := HS4.out.put 0 _ _ [.int .i64 op1, .int .i64 at1, .string tx1, .int .i64 vk1, .string nu1, .string vt1, .slice io1 iN1 ic1, .slice yo1 yN1 yc1, .slice no1 nN1 nc1, .slice ko1 kN1 kc1] _ rfl PZ
  refine bodyPost_ret (v := .agg #[.int .i64 op1, .int .i64 at1, .string tx1, .int .i64 vk1, .string nu1, .string vt1, .slice io1 iN1 ic1, .slice yo1 yN1 yc1, .slice no1 nN1 nc1, .slice ko1 kN1 kc1]) (by simp [results, Tryz.results146, go_sem, m0, m1, m2, m3, m4, m5, m6, m7, m8, m9]) rfl ?_
  have hR := HR.out
  refine ⟨HZ.bo.toBt, ?_⟩
  rw [← hR]
  exact ⟨⟨_, rfl, ⟨op1, at1, vk1, tx1, nu1, vt1, io1, yo1, no1, ko1, iN1, ic1, yN1, yc1, nN1, nc1, kN1, kc1⟩, rfl, HZ.t0⟩, HZ.px⟩
 | false =>
  have hR := HR.out
  rw [if_neg (by rw [h6]; decide)] at hR
  replace HR := hQz hR
  clear hR
  obtain ⟨c7, h7⟩ : ∃ c, isP ws 7 t = c := ⟨_, rfl⟩
  cases c7 with
  | false =>
   have hR := HR.out
   rw [if_neg (by rw [h7]; decide)] at hR
   unfold pFt at hR
   replace HR := hQz hR
   clear hR
   go_enter Tryz.func146, Tryz.ntmps146
   go_wp2_with fail
   have HS1 := hQz (HS0.out.alloc [.int .i64 0, .int .i64 0, .string ⟨#[]⟩, .int .i64 0, .string ⟨#[]⟩, .string ⟨#[]⟩, .slice none 0 0, .slice none 0 0, .slice none 0 0, .slice none 0 0] 28)
   refine (isX 6 h6 _ HS1.out.px).mono ?_
   rintro e w1 ⟨rfl, hb⟩
   have HS2 := hQz (HS1.out.keep hb)
   clear hb
   go_wp2_with fail
   refine (isX 7 h7 _ HS2.out.px).mono ?_
   rintro e w2 ⟨rfl, hb⟩
   have HS3 := hQz (HS2.out.keep hb)
   clear hb
   go_wp2_with fail
   refine (faultX _ HS3.out.px).mono ?_
   rintro e w3 ⟨rfl, hb⟩
   have HS4 := hQz (HS3.out.keep hb)
   clear hb
   generalize ftE ws t = fe at *
   generalize ftQ ws nb t = fq at *
   go_wp2_with fail
   exact ⟨rfl, HS4.out.bo.toBt, by rw [← HR.out]; rfl⟩
  | true =>
   have hR := HR.out
   rw [if_pos h7] at hR
   replace HR := hQz hR
   clear hR
   have HMo : Hid (∀ o a t' o', pOpen ws t o = .ok a t' o' → t + 1 ≤ t' ∧ t' ≤ ws.length) := mva_open (is_lt (by decide) h7)
   go_enter Tryz.func146, Tryz.ntmps146
   go_wp2_with fail
   have HS1 := hQz (HS0.out.alloc [.int .i64 0, .int .i64 0, .string ⟨#[]⟩, .int .i64 0, .string ⟨#[]⟩, .string ⟨#[]⟩, .slice none 0 0, .slice none 0 0, .slice none 0 0, .slice none 0 0] 28)
   refine (isX 6 h6 _ HS1.out.px).mono ?_
   rintro e w1 ⟨rfl, hb⟩
   have HS2 := hQz (HS1.out.keep hb)
   clear hb
   go_wp2_with fail
   refine (isX 7 h7 _ HS2.out.px).mono ?_
   rintro e w2 ⟨rfl, hb⟩
   have HS3 := hQz (HS2.out.keep hb)
   clear hb
   go_wp2_with fail
   refine (openX (is_lt (by decide) h7) _ HS3.out.px).mono ?_
   rintro e w3 ⟨hb, hm⟩
   have hR := HR.out
   obtain ⟨er, q, hr⟩ | ⟨x1, t1, o1, hr⟩ := pr_cases (pOpen ws t o)
   · rw [hr] at hm
     rw [pThen_bad hr] at hR
     obtain rfl : e = .panicked (fcs er q) := hm
     exact ⟨rfl, (HS3.out.bo.trans (Bo.ofBt hb)).toBt, by rw [← hR]⟩
   rw [hr] at hm
   rw [pThen_ok hr] at hR
   (try dsimp only at hR)
   obtain ⟨⟨v, rfl, hE⟩, hp⟩ := hm
   have HL3 := hQz ((fun _ _ => HMo.out) _ HS3.out.px.pat.le _ _ _ _ hr)
   have HO3 := hQz (up_open (ws := ws) _ _ _ _ _ HS3.out.px.pat.open_ hr)
   have HQ3 := hQz hr
   replace HR := hQz hR
   have HS4 := hQz (HS3.out.step hb hp)
   clear hb hp hr hR
   have HTk1 : Hid (x1.text.length ≤ 140737488355000) := by rw [open_eq HQ3.out]; exact Htx.out t
   unfold TkE at hE
   subst hE
   obtain ⟨kd1, pa1, fi1, tx1, er1⟩ := x1
   unfold tokV
   (try dsimp only at HR)
   dsimp only
   obtain ⟨W4, hW4⟩ : ∃ W, w3.alloc (.cells #[.int .i64 (kd1 : Int), .int .i64 (pa1 : Int), .int .i64 (fi1 : Int), .string ⟨tx1.toArray⟩] 39) = W := ⟨_, rfl⟩
   have HS5 := hQz (HS4.out.alloc [.int .i64 (kd1 : Int), .int .i64 (pa1 : Int), .int .i64 (fi1 : Int), .string ⟨tx1.toArray⟩] 39)
   rw [hW4] at HS5
   obtain ⟨c0, c1, c2, c3⟩ := tb_cells HS5.out.bb0
   go_wp2_with fail
   have HS6 := hQz (HS5.out.alloc [.int .i64 3, .int .i64 (pa1 : Int), .string ⟨#[]⟩, .int .i64 0, .string ⟨#[]⟩, .string ⟨#[]⟩, .slice none 0 0, .slice none 0 0, .slice none 0 0, .slice none 0 0] 28)
   clear c0 c1 c2 c3
   go_loopw [] (fun wr => ∃ (kd pa fi : Nat) (tx : List UInt8) (er : Nat) (Ks : List NT) (ko : Option Addr) (kc t3 o3 f : Nat), Hid (ws.length < t3 + f) ∧ Hid (SB false D none u B so sc ws nb t3 o3 [(W4.heap.size, [.int .i64 3, .int .i64 (pa1 : Int), .string ⟨#[]⟩, .int .i64 0, .string ⟨#[]⟩, .string ⟨#[]⟩, .slice none 0 0, .slice none 0 0, .slice none 0 0, .slice ko Ks.length kc], 28), (w3.heap.size, [.int .i64 (kd : Int), .int .i64 (pa : Int), .int .i64 (fi : Int), .string ⟨tx.toArray⟩], 39), (u.heap.size, [.int .i64 0, .int .i64 0, .string ⟨#[]⟩, .int .i64 0, .string ⟨#[]⟩, .string ⟨#[]⟩, .slice none 0 0, .slice none 0 0, .slice none 0 0, .slice none 0 0], 28)] (.slice ko Ks.length kc) Ks [] wr) ∧ Hid (Ks.length ≤ 2 * t3 ∧ t + 1 ≤ t3 ∧ o3 = o + 1 ∧ tx.length ≤ 140737488355000) ∧ Hid (pThen (lpP (fun (a : List NT × Tok) => pThen P fun n t o => if isP ws 8 t then .ok (.inl (a.1 ++ [saidP a.2, n], hrP ws t)) (t + 1) o else .ok (.inr (a.1 ++ [saidP a.2, n])) t o) f (Ks, ⟨kd, pa, fi, tx, er⟩)) (fun ks => pThen (pBe ws nb 9) fun x t o => .ok (ndP 3 pa1 (ks ++ [saidP x])) t (o - 1)) t3 o3 = R)) (fun wr => ws.length + 1 - tkOf B wr)
   case atStart =>
    refine ⟨kd1, pa1, fi1, tx1, er1, [], none, 0, t1, o1, ws.length + 1, (by show _ < _; omega), HS6, ⟨Nat.zero_le _, HL3.out.1, HO3.out.1, ?_⟩, HR⟩
    have := HTk1.out
    exact this
   case round =>
    clear HR HS0 HS1 HS2 HS3 HS4 HS5 HS6 HL3 HO3 HTk1
    obtain ⟨kd, pa, fi, tx, er, Ks, ko, kc, t3, o3, f, HF, HS0, HK, HR⟩ := hrel
    obtain ⟨f, rfl⟩ : ∃ f', f = f' + 1 := ⟨f - 1, by have := HF.out; have := HS0.out.px.pat.le; omega⟩
    have HTk := hQz HS0.out.px.tk
    have hR := HR.out
    rw [lp_step, pThen_assoc] at hR
    replace HR := hQz hR
    clear hR
    go_wp2_with fail
    have HS7 := hQz (HS0.out.drew)
    obtain ⟨c0, c1, c2, c3⟩ := tb_cells HS7.out.bb1
    obtain ⟨d0, d1, d2, d3, d4, d5, d6, d7, d8, d9⟩ := nd_cells HS7.out.bb0
    clear d0 d1 d2 d3 d4 d5 d6 d7 d8
    refine wp_region_K 9 (S := (fun u1 => u1.cell? ⟨w3.heap.size, 0, none⟩ = some (.int .i64 (kd : Int)) ∧ u1.cell? ⟨w3.heap.size, 1, none⟩ = some (.int .i64 (pa : Int)) ∧ u1.cell? ⟨w3.heap.size, 2, none⟩ = some (.int .i64 (fi : Int)) ∧ u1.cell? ⟨w3.heap.size, 3, none⟩ = some (.string ⟨tx.toArray⟩) ∧ u1.cell? ⟨W4.heap.size, 9, none⟩ = some (.slice ko Ks.length kc))) (by kernel_rfl) (by exact ⟨c0, c1, c2, c3, d9⟩) (fun hHeld => ?_)
    clear c0 c1 c2 c3 d9
    refine wpAnyK_take (i := 0) (oi := _) (v := .pointer (some ⟨W4.heap.size, 9, none⟩)) rfl (by kernel_rfl) (by kernel_rfl) (by kernel_rfl) (by kernel_rfl) (fun _ _ _ h => h) (Or.inl ⟨by rfl, ?_⟩) (by assumption) ?_
    · intro w hSw
      go_simp
      try (intro hq; exfalso; omega)
    try simp only [Act.put, qsA, qsB, qsC]
    refine wpAnyK_take (i := 1) (oi := _) (v := .slice ko Ks.length kc) rfl (by kernel_rfl) (by kernel_rfl) (by kernel_rfl) (by kernel_rfl) (fun _ _ _ h => h) (Or.inl ⟨by rfl, ?_⟩) (by assumption) ?_
    · intro w hSw
      obtain ⟨hs0, hs1, hs2, hs3, hs9⟩ := hSw
      go_simp
      try (intro hq; exfalso; omega)
    try simp only [Act.put, qsA, qsB, qsC]
    refine wpAnyK_take (i := 2) (oi := _) (v := .agg #[.int .i64 (kd : Int), .int .i64 (pa : Int), .int .i64 (fi : Int), .string ⟨tx.toArray⟩]) rfl (by kernel_rfl) (by kernel_rfl) (by kernel_rfl) (by kernel_rfl) (fun _ _ _ h => h) (Or.inl ⟨by rfl, ?_⟩) (by assumption) ?_
    · intro w hSw
      obtain ⟨hs0, hs1, hs2, hs3, hs9⟩ := hSw
      go_simp
      try (intro hq; exfalso; omega)
    try simp only [Act.put, qsA, qsB, qsC]
    refine wpAnyK_take (i := 4) (oi := _) (v := .pointer (some ⟨B, 0, none⟩)) rfl (by kernel_rfl) (by kernel_rfl) (by kernel_rfl) (by kernel_rfl) (fun _ _ _ h => h) (Or.inl ⟨by rfl, ?_⟩) (by assumption) ?_
    · intro w hSw
      go_simp
      try (intro hq; exfalso; omega)
    try simp only [Act.put, qsA, qsB, qsC]
    refine wpAnyK_one (i := 3) (o := _) (by kernel_rfl) rfl (fun K2 hK2 => ?_)
    go_simp
    go_at_call 145
    refine (saidX (fun _ => False) ⟨kd, pa, fi, tx, er⟩ (by have := HK.out.2.2.2; show tx.length ≤ _; omega) _).mono ?_
    rintro e w5 ⟨d, rfl, hb, hd⟩
    have HS8 := hQz ((HS7.out.keep hb).add (hd.weak (fun b hb _ => hb.elim)))
    clear hb hd
    obtain ⟨op21, at21, vk21, tx21, nu21, vt21, io21, yo21, no21, ko21, iN21, ic21, yN21, yc21, nN21, nc21, kN21, kc21⟩ := d
    unfold NV.v NV.l
    dsimp only
    obtain ⟨c0, c1, c2, c3⟩ := tb_cells HS8.out.bb1
    obtain ⟨d0, d1, d2, d3, d4, d5, d6, d7, d8, d9⟩ := nd_cells HS8.out.bb0
    clear d0 d1 d2 d3 d4 d5 d6 d7 d8
    go_wp2_with fail
    refine hK2.out _ _ (fun _ => ⟨c0, c1, c2, c3, d9⟩) (fun hHeld => ?_)
    replace hHeld := hHeld (by decide)
    clear hK2 K2
    try simp only [Act.put, qsA, qsB, qsC]
    clear c0 c1 c2 c3 d9
    refine wpAnyK_one (i := 5) (o := _) (by kernel_rfl) rfl (fun K2 hK2 => ?_)
    go_simp
    go_at_call 52
    refine (HPO.out.pipe _ _ _ _ HS8.out.dnW HS8.out.dbW HS8.out.px (by have := HK.out; have := HM.out; omega)).mono ?_
    rintro e w6 ⟨hb, hm⟩
    have hR := HR.out
    obtain ⟨er, q, hr⟩ | ⟨T22, t5, o5, hr⟩ := pr_cases (P t3 o3)
    · rw [hr] at hm
      rw [pThen_bad hr] at hR
      obtain rfl : e = .panicked (fcs er q) := hm
      exact ⟨rfl, (HS8.out.bo.trans (Bo.ofBt hb)).toBt, by rw [← hR]⟩
    rw [hr] at hm
    rw [pThen_ok hr] at hR
    (try dsimp only at hR)
    obtain ⟨⟨v, rfl, hE⟩, hp⟩ := hm
    have HL6 := hQz (HPO.out.mp _ HS8.out.px.pat.le _ _ _ _ hr)
    have HO6 := hQz (HPO.out.bp _ _ _ _ _ HS8.out.px.pat.open_ hr)
    have HQ6 := hQz hr
    replace HR := hQz hR
    have HS9 := hQz (HS8.out.step hb hp)
    clear hb hp hr hR
    obtain ⟨d, rfl, hd⟩ := hE
    have HS10 := hQz (HS9.out.add hd)
    clear hd
    obtain ⟨op22, at22, vk22, tx22, nu22, vt22, io22, yo22, no22, ko22, iN22, ic22, yN22, yc22, nN22, nc22, kN22, kc22⟩ := d
    unfold NV.v NV.l
    dsimp only
    obtain ⟨c0, c1, c2, c3⟩ := tb_cells HS10.out.bb1
    obtain ⟨d0, d1, d2, d3, d4, d5, d6, d7, d8, d9⟩ := nd_cells HS10.out.bb0
    clear d0 d1 d2 d3 d4 d5 d6 d7 d8
    go_wp2_with fail
    refine hK2.out _ _ (fun _ => ⟨c0, c1, c2, c3, d9⟩) (fun hHeld => ?_)
    replace hHeld := hHeld (by decide)
    clear hK2 K2
    try simp only [Act.put, qsA, qsB, qsC]
    clear c0 c1 c2 c3 d9
    have HA := hQz (HS10.out.keep (below1 w6 (.cells #[.int .i64 op21, .int .i64 at21, .string tx21, .int .i64 vk21, .string nu21, .string vt21, .slice io21 iN21 ic21, .slice yo21 yN21 yc21, .slice no21 nN21 nc21, .slice ko21 kN21 kc21, .int .i64 op22, .int .i64 at22, .string tx22, .int .i64 vk22, .string nu22, .string vt22, .slice io22 iN22 ic22, .slice yo22 yN22 yc22, .slice no22 nN22 nc22, .slice ko22 kN22 kc22] 28)))
    obtain ⟨c0, c1, c2, c3⟩ := tb_cells HA.out.bb1
    obtain ⟨d0, d1, d2, d3, d4, d5, d6, d7, d8, d9⟩ := nd_cells HA.out.bb0
    clear d0 d1 d2 d3 d4 d5 d6 d7 d8
    refine wpAnyK_one (i := 6) (o := _) (by kernel_rfl) rfl (fun K2 hK2 => ?_)
    go_simp
    go_wp2_with fail
    refine hK2.out _ _ (fun _ => ⟨c0, c1, c2, c3, d9⟩) (fun hHeld => ?_)
    replace hHeld := hHeld (by decide)
    clear hK2 K2
    try simp only [Act.put, qsA, qsB, qsC]
    clear c0 c1 c2 c3 d9
    clear HA
    obtain ⟨ds, hrw⟩ := HS10.out.row
    have HRW := hQz hrw
    clear hrw
    refine wpAnyK_one (i := 7) (o := _) (by kernel_rfl) rfl (fun K2 hK2 => ?_)
    refine step_append_lies _ (by rfl) _ _ _ (by rfl) 0 28 i0 (.agg #[.int .i64 0, .int .i64 0, .string ⟨#[]⟩, .int .i64 0, .string ⟨#[]⟩, .string ⟨#[]⟩, .slice none 0 0, .slice none 0 0, .slice none 0 0, .slice none 0 0]) 10 168 Tryz.underlying26 hi0 hz0 hz1 hz2 rfl (by omega) (.slice ko Ks.length kc) Ks.length (ds.flatMap NV.l) (by rfl) (HS10.out.ownA HRW.out _) ⟨w6.heap.size, 0, none⟩ 2 2 (NV.l ⟨op21, at21, vk21, tx21, nu21, vt21, io21, yo21, no21, ko21, iN21, ic21, yN21, yc21, nN21, nc21, kN21, kc21⟩ ++ NV.l ⟨op22, at22, vk22, tx22, nu22, vt22, io22, yo22, no22, ko22, iN22, ic22, yN22, yc22, nN22, nc22, kN22, kc22⟩) (by rfl) (by rfl) (newsL (heap_alloc_new w6 _)) (fun u hu => by rcases List.mem_append.1 hu with h | h <;> exact one_l _ u h) (by omega) (by have := (by have := HK.out; have := HS0.out.px.pat.le; have := HS0.out.px.pat.few; omega : Ks.length + 2 ≤ 50331648); unfold maxLen; omega) (by have := (by have := HK.out; have := HS0.out.px.pat.le; have := HS0.out.px.pat.few; omega : Ks.length + 2 ≤ 50331648); omega) (Nat.zero_le _) _ rfl ?_
    intro g' c' w7 hown hgrow hat hlt
    have HS11 := hQz ((HS10.out.app HRW.out (Us := [saidP ⟨kd, pa, fi, tx, er⟩, T22]) (es := [⟨op21, at21, vk21, tx21, nu21, vt21, io21, yo21, no21, ko21, iN21, ic21, yN21, yc21, nN21, nc21, kN21, kc21⟩, ⟨op22, at22, vk22, tx22, nu22, vt22, io22, yo22, no22, ko22, iN22, ic22, yN22, yc22, nN22, nc22, kN22, kc22⟩]) rfl (els2 HS10.out.m1 HS10.out.m0) (fun e => by cases e) _ (v' := .slice (some ⟨g', 0, none⟩) (Ks.length + 2) c') (by simpa using hown) hgrow (hat.elim (fun e => .inl e.symm) (fun e => .inr (by rw [e]; simp [Value.ownBlock])))).drop.drop)
    clear hown hgrow hat hlt HRW
    obtain ⟨c0, c1, c2, c3⟩ := tb_cells HS11.out.bb1
    obtain ⟨d0, d1, d2, d3, d4, d5, d6, d7, d8, d9⟩ := nd_cells HS11.out.bb0
    obtain ⟨df0, df1, df2, df3, df4, df5, df6, df7, df8, df9⟩ := nd_frozen HS11.out.bb0
    clear d0 d1 d2 d3 d4 d5 d6 d7 d8 df0 df1 df2 df3 df4 df5 df6 df7 df8
    refine hK2.out _ _ (fun _ => ⟨c0, c1, c2, c3, d9⟩) (fun hHeld => ?_)
    replace hHeld := hHeld (by decide)
    clear hK2 K2
    try simp only [Act.put, qsA, qsB, qsC]
    refine wpAnyK_take (i := 8) (oi := _) (v := .pointer (some ⟨W4.heap.size, 9, none⟩)) rfl (by kernel_rfl) (by kernel_rfl) (by kernel_rfl) (by kernel_rfl) (fun _ _ _ h => h) (Or.inl ⟨by rfl, ?_⟩) (by assumption) ?_
    · intro w hSw
      go_simp
      try (intro hq; exfalso; omega)
    try simp only [Act.put, qsA, qsB, qsC]
    obtain ⟨W8, hW8⟩ : ∃ W, w7.setCell ⟨W4.heap.size, 9, none⟩ (.slice (some ⟨g', 0, none⟩) (Ks.length + 2) c') = W := ⟨_, rfl⟩
    have P9 := nd_set9 HS11.out.bb0 hW8
    have HS12 := hQz (HS11.out.put 0 _ _ [.int .i64 3, .int .i64 (pa1 : Int), .string ⟨#[]⟩, .int .i64 0, .string ⟨#[]⟩, .string ⟨#[]⟩, .slice none 0 0, .slice none 0 0, .slice none 0 0, .slice (some ⟨g', 0, none⟩) (Ks.length + 2) c'] _ rfl P9)
    clear P9
    refine wpAnyK_one (i := 9) (o := _) (by kernel_rfl) rfl (fun K2 hK2 => ?_)
    go_simp
    go_wp2_with fail
    refine hK2.out _ _ (fun hne => absurd rfl hne) (fun _ => ?_)
    clear hK2 K2
    try simp only [Act.put, qsA, qsB, qsC]
    refine wpAnyK_done (by kernel_rfl) ?_ _
    clear c0 c1 c2 c3 d9 df9
    clear hHeld hW8
    go_wp2_with fail
    obtain ⟨c8, h8⟩ : ∃ c, isP ws 8 t5 = c := ⟨_, rfl⟩
    cases c8 with
    | true =>
     refine (isX 8 h8 _ HS12.out.px).mono ?_
     rintro e w9 ⟨rfl, hb⟩
     have HS13 := hQz (HS12.out.keep hb)
     clear hb
     have hR := HR.out
     rw [pThen_ok (a := .inl (Ks ++ [saidP ⟨kd, pa, fi, tx, er⟩, T22], hrP ws t5)) (t' := t5 + 1) (o' := o5) (by (try dsimp only); rw [if_pos h8])] at hR
     (try dsimp only at hR)
     replace HR := hQz hR
     clear hR
     go_wp2_with fail
     refine (takeX (is_lt (by decide) h8) _ HS13.out.px).mono ?_
     rintro e w10 ⟨rfl, hb, hp⟩
     have HS14 := hQz (HS13.out.step hb hp)
     clear hb hp
     have HTx := hQz (Htx.out t5)
     generalize hrP ws t5 = X at *
     obtain ⟨kd6, pa6, fi6, tx6, er6⟩ := X
     unfold tokV
     dsimp only at HTx ⊢
     obtain ⟨c0, c1, c2, c3⟩ := tb_cells HS14.out.bb1
     obtain ⟨cf0, cf1, cf2, cf3⟩ := tb_frozen HS14.out.bb1
     go_wp2_with fail
     generalize hz9 : ((((w10).setCell ⟨w3.heap.size, 0, none⟩ (.int .i64 (kd6 : Int))).setCell ⟨w3.heap.size, 1, none⟩ (.int .i64 (pa6 : Int))).setCell ⟨w3.heap.size, 2, none⟩ (.int .i64 (fi6 : Int))).setCell ⟨w3.heap.size, 3, none⟩ (.string ⟨tx6.toArray⟩) = W9
     have P9 := tk_set HS14.out.bb1 hz9
     have HS15 := hQz (HS14.out.put 1 _ _ [.int .i64 (kd6 : Int), .int .i64 (pa6 : Int), .int .i64 (fi6 : Int), .string ⟨tx6.toArray⟩] _ rfl P9)
     go_roundw
     case rel =>
      refine ⟨kd6, pa6, fi6, tx6, er6, Ks ++ [saidP ⟨kd, pa, fi, tx, er⟩, T22], some ⟨g', 0, none⟩, c', t5 + 1, o5, f, ?_, ?_, ?_, HR⟩
      · have h1 := HF.out
        have h2 := HL6.out
        show _ < _
        omega
      · have e1 : (Ks ++ [saidP ⟨kd, pa, fi, tx, er⟩, T22]).length = Ks.length + 2 := by simp
        show SB _ _ _ _ _ _ _ _ _ _ _ _ _ _ _ _
        rw [e1]
        exact HS15.out
      · have h1 := HK.out
        have h2 := HL6.out
        have h3 := HO6.out
        have e1 : (Ks ++ [saidP ⟨kd, pa, fi, tx, er⟩, T22]).length = Ks.length + 2 := by simp
        exact ⟨by omega, by omega, by omega, HTx.out⟩
     case measure =>
      rw [HTk.out, HS15.out.px.tk]
      have h2 := HL6.out
      have h3 := HS0.out.px.pat.le
      omega
    | false =>
     refine (isX 8 h8 _ HS12.out.px).mono ?_
     rintro e w9 ⟨rfl, hb⟩
     have HS13 := hQz (HS12.out.keep hb)
     clear hb
     have hR := HR.out
     rw [pThen_ok (a := .inr (Ks ++ [saidP ⟨kd, pa, fi, tx, er⟩, T22])) (t' := t5) (o' := o5) (by (try dsimp only); rw [if_neg (by rw [h8]; decide)])] at hR
     (try dsimp only at hR)
     replace HR := hQz hR
     clear hR
     obtain ⟨Ls, hLLs⟩ : ∃ L, Ks ++ [saidP ⟨kd, pa, fi, tx, er⟩, T22] = L := ⟨_, rfl⟩
     have eLs : Ls.length = Ks.length + 2 := by rw [← hLLs]; simp
     rw [hLLs] at HR HS13
     rw [← eLs] at HS13
     have HELs := hQz eLs
     clear hLLs
     go_wp2_with fail
     clear eLs
     have HS14 := hQz (HS13.out.drew)
     obtain ⟨d0, d1, d2, d3, d4, d5, d6, d7, d8, d9⟩ := nd_cells HS14.out.bb0
     clear d0 d1 d2 d3 d4 d5 d6 d7 d8
     refine wp_region_K 10 (S := (fun u1 => u1.cell? ⟨W4.heap.size, 9, none⟩ = some (.slice (some ⟨g', 0, none⟩) Ls.length c'))) (by kernel_rfl) (by exact d9) (fun hHeld => ?_)
     clear d9
     refine wpAnyK_take (i := 0) (oi := _) (v := .pointer (some ⟨W4.heap.size, 9, none⟩)) rfl (by kernel_rfl) (by kernel_rfl) (by kernel_rfl) (by kernel_rfl) (fun _ _ _ h => h) (Or.inl ⟨by rfl, ?_⟩) (by assumption) ?_
     · intro w hSw
       go_simp
       try (intro hq; exfalso; omega)
     try simp only [Act.put, qsA, qsB, qsC]
     refine wpAnyK_take (i := 1) (oi := _) (v := .slice (some ⟨g', 0, none⟩) Ls.length c') rfl (by kernel_rfl) (by kernel_rfl) (by kernel_rfl) (by kernel_rfl) (fun _ _ _ h => h) (Or.inl ⟨by rfl, ?_⟩) (by assumption) ?_
     · intro w hSw
       go_simp
       try (intro hq; exfalso; omega)
     try simp only [Act.put, qsA, qsB, qsC]
     refine wpAnyK_take (i := 2) (oi := _) (v := .pointer (some ⟨B, 0, none⟩)) rfl (by kernel_rfl) (by kernel_rfl) (by kernel_rfl) (by kernel_rfl) (fun _ _ _ h => h) (Or.inl ⟨by rfl, ?_⟩) (by assumption) ?_
     · intro w hSw
       go_simp
       try (intro hq; exfalso; omega)
     try simp only [Act.put, qsA, qsB, qsC]
     refine wpAnyK_take (i := 3) (oi := _) (v := .pointer (some ⟨B, 0, none⟩)) rfl (by kernel_rfl) (by kernel_rfl) (by kernel_rfl) (by kernel_rfl) (fun _ _ _ h => h) (Or.inl ⟨by rfl, ?_⟩) (by assumption) ?_
     · intro w hSw
       go_simp
       try (intro hq; exfalso; omega)
     try simp only [Act.put, qsA, qsB, qsC]
     refine wpAnyK_take (i := 4) (oi := _) (v := .pointer (some ⟨B, 0, none⟩)) rfl (by kernel_rfl) (by kernel_rfl) (by kernel_rfl) (by kernel_rfl) (fun _ _ _ h => h) (Or.inl ⟨by rfl, ?_⟩) (by assumption) ?_
     · intro w hSw
       go_simp
       try (intro hq; exfalso; omega)
     try simp only [Act.put, qsA, qsB, qsC]
     refine wpAnyK_one (i := 5) (o := _) (by kernel_rfl) rfl (fun K2 hK2 => ?_)
     go_simp
     go_at_call 118
     refine (beX 9 (by decide) _ HS14.out.px).mono ?_
     rintro e w10 ⟨hb, hm⟩
     have hR := HR.out
     obtain ⟨er, q, hr⟩ | ⟨x7, t7, o7, hr⟩ := pr_cases (pBe ws nb 9 t5 o5)
     · rw [hr] at hm
       rw [pThen_bad hr] at hR
       obtain rfl : e = .panicked (fcs er q) := hm
       exact ⟨rfl, (HS14.out.bo.trans (Bo.ofBt hb)).toBt, by rw [← hR]⟩
     rw [hr] at hm
     rw [pThen_ok hr] at hR
     (try dsimp only at hR)
     obtain ⟨⟨v, rfl, hE⟩, hp⟩ := hm
     have HL10 := hQz (mv_be (nb := nb) (k := 9) (by decide) _ HS14.out.px.pat.le _ _ _ _ hr)
     have HO10 := hQz (bl_be (nb := nb) 9 _ _ _ _ _ HS14.out.px.pat.open_ hr)
     have HQ10 := hQz hr
     replace HR := hQz hR
     have HS15 := hQz (HS14.out.step hb hp)
     clear hb hp hr hR
     unfold TkE at hE
     subst hE
     have HT7 : Hid (x7.text.length ≤ 140737488355000) := by rw [show x7 = _ from be_eq HQ10.out]; exact Htx.out t5
     obtain ⟨kd7, pa7, fi7, tx7, er7⟩ := x7
     unfold tokV
     dsimp only at HT7 ⊢
     obtain ⟨d0, d1, d2, d3, d4, d5, d6, d7, d8, d9⟩ := nd_cells HS15.out.bb0
     clear d0 d1 d2 d3 d4 d5 d6 d7 d8
     go_wp2_with fail
     refine hK2.out _ _ (fun _ => d9) (fun hHeld => ?_)
     replace hHeld := hHeld (by decide)
     clear hK2 K2
     try simp only [Act.put, qsA, qsB, qsC]
     clear d9
     refine wpAnyK_one (i := 6) (o := _) (by kernel_rfl) rfl (fun K2 hK2 => ?_)
     go_simp
     go_at_call 145
     refine (saidX (fun _ => False) ⟨kd7, pa7, fi7, tx7, er7⟩ (by have := HT7.out; show tx7.length ≤ _; omega) _).mono ?_
     rintro e w11 ⟨d, rfl, hb, hd⟩
     have HS16 := hQz ((HS15.out.keep hb).add (hd.weak (fun b hb _ => hb.elim)))
     clear hb hd
     obtain ⟨op23, at23, vk23, tx23, nu23, vt23, io23, yo23, no23, ko23, iN23, ic23, yN23, yc23, nN23, nc23, kN23, kc23⟩ := d
     unfold NV.v NV.l
     dsimp only
     obtain ⟨d0, d1, d2, d3, d4, d5, d6, d7, d8, d9⟩ := nd_cells HS16.out.bb0
     clear d0 d1 d2 d3 d4 d5 d6 d7 d8
     go_wp2_with fail
     refine hK2.out _ _ (fun _ => d9) (fun hHeld => ?_)
     replace hHeld := hHeld (by decide)
     clear hK2 K2
     try simp only [Act.put, qsA, qsB, qsC]
     clear d9
     have HA := hQz (HS16.out.keep (below1 w11 (.cells #[.int .i64 op23, .int .i64 at23, .string tx23, .int .i64 vk23, .string nu23, .string vt23, .slice io23 iN23 ic23, .slice yo23 yN23 yc23, .slice no23 nN23 nc23, .slice ko23 kN23 kc23] 28)))
     obtain ⟨d0, d1, d2, d3, d4, d5, d6, d7, d8, d9⟩ := nd_cells HA.out.bb0
     clear d0 d1 d2 d3 d4 d5 d6 d7 d8
     refine wpAnyK_one (i := 7) (o := _) (by kernel_rfl) rfl (fun K2 hK2 => ?_)
     go_simp
     go_wp2_with fail
     refine hK2.out _ _ (fun _ => d9) (fun hHeld => ?_)
     replace hHeld := hHeld (by decide)
     clear hK2 K2
     try simp only [Act.put, qsA, qsB, qsC]
     clear d9 HA
     obtain ⟨ds, hrw⟩ := HS16.out.row
     have HRW := hQz hrw
     clear hrw
     refine wpAnyK_one (i := 8) (o := _) (by kernel_rfl) rfl (fun K2 hK2 => ?_)
     refine step_append_lies _ (by rfl) _ _ _ (by rfl) 0 28 i0 (.agg #[.int .i64 0, .int .i64 0, .string ⟨#[]⟩, .int .i64 0, .string ⟨#[]⟩, .string ⟨#[]⟩, .slice none 0 0, .slice none 0 0, .slice none 0 0, .slice none 0 0]) 10 168 Tryz.underlying26 hi0 hz0 hz1 hz2 rfl (by omega) (.slice (some ⟨g', 0, none⟩) Ls.length c') Ls.length (ds.flatMap NV.l) (by rfl) (HS16.out.ownA HRW.out _) ⟨w11.heap.size, 0, none⟩ 1 1 (NV.l ⟨op23, at23, vk23, tx23, nu23, vt23, io23, yo23, no23, ko23, iN23, ic23, yN23, yc23, nN23, nc23, kN23, kc23⟩) (by rfl) (by rfl) (newsL (heap_alloc_new w11 _)) (one_l _) (by omega) (by have := (by have := HK.out; have := HELs.out; have := HS0.out.px.pat.le; have := HS0.out.px.pat.few; omega : Ls.length + 1 ≤ 50331648); unfold maxLen; omega) (by have := (by have := HK.out; have := HELs.out; have := HS0.out.px.pat.le; have := HS0.out.px.pat.few; omega : Ls.length + 1 ≤ 50331648); omega) (Nat.zero_le _) _ rfl ?_
     intro g2 c2 w12 hown hgrow hat hlt
     have HS17 := hQz ((HS16.out.app HRW.out (Us := [saidP ⟨kd7, pa7, fi7, tx7, er7⟩]) (es := [⟨op23, at23, vk23, tx23, nu23, vt23, io23, yo23, no23, ko23, iN23, ic23, yN23, yc23, nN23, nc23, kN23, kc23⟩]) rfl (els1 HS16.out.m0) (fun e => by cases e) _ (v' := .slice (some ⟨g2, 0, none⟩) (Ls.length + 1) c2) (by simpa using hown) hgrow (hat.elim (fun e => .inl e.symm) (fun e => .inr (by rw [e]; simp [Value.ownBlock])))).drop)
     clear hown hgrow hat hlt HRW
     obtain ⟨d0, d1, d2, d3, d4, d5, d6, d7, d8, d9⟩ := nd_cells HS17.out.bb0
     obtain ⟨df0, df1, df2, df3, df4, df5, df6, df7, df8, df9⟩ := nd_frozen HS17.out.bb0
     clear d0 d1 d2 d3 d4 d5 d6 d7 d8 df0 df1 df2 df3 df4 df5 df6 df7 df8
     refine hK2.out _ _ (fun _ => d9) (fun hHeld => ?_)
     replace hHeld := hHeld (by decide)
     clear hK2 K2
     try simp only [Act.put, qsA, qsB, qsC]
     refine wpAnyK_take (i := 9) (oi := _) (v := .pointer (some ⟨W4.heap.size, 9, none⟩)) rfl (by kernel_rfl) (by kernel_rfl) (by kernel_rfl) (by kernel_rfl) (fun _ _ _ h => h) (Or.inl ⟨by rfl, ?_⟩) (by assumption) ?_
     · intro w hSw
       go_simp
       try (intro hq; exfalso; omega)
     try simp only [Act.put, qsA, qsB, qsC]
     obtain ⟨W13, hW13⟩ : ∃ W, w12.setCell ⟨W4.heap.size, 9, none⟩ (.slice (some ⟨g2, 0, none⟩) (Ls.length + 1) c2) = W := ⟨_, rfl⟩
     have P9 := nd_set9 HS17.out.bb0 hW13
     have HS18 := hQz (HS17.out.put 0 _ _ [.int .i64 3, .int .i64 (pa1 : Int), .string ⟨#[]⟩, .int .i64 0, .string ⟨#[]⟩, .string ⟨#[]⟩, .slice none 0 0, .slice none 0 0, .slice none 0 0, .slice (some ⟨g2, 0, none⟩) (Ls.length + 1) c2] _ rfl P9)
     clear P9
     refine wpAnyK_one (i := 10) (o := _) (by kernel_rfl) rfl (fun K2 hK2 => ?_)
     go_simp
     go_wp2_with fail
     refine hK2.out _ _ (fun hne => absurd rfl hne) (fun _ => ?_)
     clear hK2 K2
     try simp only [Act.put, qsA, qsB, qsC]
     refine wpAnyK_done (by kernel_rfl) ?_ _
     clear hHeld hW13 d9 df9
     obtain ⟨Ms, hLMs⟩ : ∃ L, Ls ++ [saidP ⟨kd7, pa7, fi7, tx7, er7⟩] = L := ⟨_, rfl⟩
     have eMs : Ms.length = Ls.length + 1 := by rw [← hLMs]; simp
     rw [hLMs] at HR HS18
     rw [← eMs] at HS18
     have HEMs := hQz eMs
     clear hLMs
     clear eMs
     obtain ⟨q0, q1, q2, q3, qf0, qf1, qf2, qf3⟩ := tbox_cells HS18.out.px.pat.box
     have hBl := HS18.out.px.pat.lt
     have ho64 := HS18.out.px.pat.open_
     have hoi : (1 : Int) ≤ (o7 : Int) := by have := (by have := HK.out; have := HO6.out; have := HO10.out; omega : 1 ≤ o7); omega
     obtain ⟨W14, hW14⟩ : ∃ W, W13.setCell ⟨B, 3, none⟩ (.int .i64 ((o7 : Int) - 1)) = W := ⟨_, rfl⟩
     have hb2 : Bt B W13 W14 := by rw [← hW14]; exact (Bt.refl B W13).set 3 _
     have b2 : W14.heap[B]? = some (.cells #[.slice so ws.length sc, .int .i64 (t7 : Int), .int .i64 (nb : Int), .int .i64 ((o7 - 1 : Nat) : Int)] 51 (0, 0)) := by
      rw [show ((o7 - 1 : Nat) : Int) = (o7 : Int) - 1 by omega, ← hW14]
      exact rsetN (i := 3) _ HS18.out.px.pat.box
     have HS19 := hQz (HS18.out.step hb2 (HS18.out.px.bt hb2 (HS18.out.px.pat.stepT t7 (o7 - 1) hb2 HS18.out.px.pat.le (by omega) b2)))
     clear hb2 b2
     obtain ⟨d0, d1, d2, d3, d4, d5, d6, d7, d8, d9⟩ := nd_cells HS19.out.bb0
     obtain ⟨r0, r1, r2, r3, r4, r5, r6, r7, r8, r9⟩ := nd_cells HS19.out.bb2
     obtain ⟨rf0, rf1, rf2, rf3, rf4, rf5, rf6, rf7, rf8, rf9⟩ := nd_frozen HS19.out.bb2
     go_wp2_with fail
     generalize hzZ : ((((((((((W14).setCell ⟨u.heap.size, 0, none⟩ (.int .i64 3)).setCell ⟨u.heap.size, 1, none⟩ (.int .i64 (pa1 : Int))).setCell ⟨u.heap.size, 2, none⟩ (.string ⟨#[]⟩)).setCell ⟨u.heap.size, 3, none⟩ (.int .i64 0)).setCell ⟨u.heap.size, 4, none⟩ (.string ⟨#[]⟩)).setCell ⟨u.heap.size, 5, none⟩ (.string ⟨#[]⟩)).setCell ⟨u.heap.size, 6, none⟩ (.slice none 0 0)).setCell ⟨u.heap.size, 7, none⟩ (.slice none 0 0)).setCell ⟨u.heap.size, 8, none⟩ (.slice none 0 0)).setCell ⟨u.heap.size, 9, none⟩ (.slice (some ⟨g2, 0, none⟩) Ms.length c2) = WZ
     have PZ := nd_set HS19.out.bb2 hzZ
     obtain ⟨m0, m1, m2, m3, m4, m5, m6, m7, m8, m9⟩ := nd_cells PZ.new
     have HZ := HS19.out.put 2 _ _ [.int .i64 3, .int .i64 (pa1 : Int), .string ⟨#[]⟩, .int .i64 0, .string ⟨#[]⟩, .string ⟨#[]⟩, .slice none 0 0, .slice none 0 0, .slice none 0 0, .slice (some ⟨g2, 0, none⟩) Ms.length c2] _ rfl PZ
     refine bodyPost_ret (v := .agg #[.int .i64 3, .int .i64 (pa1 : Int), .string ⟨#[]⟩, .int .i64 0, .string ⟨#[]⟩, .string ⟨#[]⟩, .slice none 0 0, .slice none 0 0, .slice none 0 0, .slice (some ⟨g2, 0, none⟩) Ms.length c2]) (by simp [results, Tryz.results146, go_sem, m0, m1, m2, m3, m4, m5, m6, m7, m8, m9]) rfl ?_
     have hR := HR.out
     refine ⟨HZ.bo.toBt, ?_⟩
     rw [← hR]
     exact ⟨⟨_, rfl, ⟨3, (pa1 : Int), 0, ⟨#[]⟩, ⟨#[]⟩, ⟨#[]⟩, none, none, none, (some ⟨g2, 0, none⟩), 0, 0, 0, 0, 0, 0, Ms.length, c2⟩, rfl, HZ.rowNode rfl 3 (pa1 : Int) .empty size0 (by have := HK.out; have := HELs.out; have := HEMs.out; have := HS0.out.px.pat.le; have := HS0.out.px.pat.few; omega)⟩, HZ.px⟩
end
theorem nd_set2 {w : World} {B : Nat} {t : TypeId} {y0 y1 y2 y3 y4 y5 y6 y7 y8 y9 a2 : Value} (h : w.heap[B]? = some (.cells #[y0, y1, y2, y3, y4, y5, y6, y7, y8, y9] t (0, 0))) {wz : World} (hz : w.setCell ⟨B, 2, none⟩ a2 = wz) :
 Put B (.cells #[y0, y1, a2, y3, y4, y5, y6, y7, y8, y9] t (0, 0)) w wz := by
 subst hz
 have h0 := rsetN (i := 2) a2 h
 simp only [List.setIfInBounds_toArray, List.set_cons_zero, List.set_cons_succ] at h0
 exact ⟨h0, fun b hb => Below.heap_setCell _ _ _ _ hb, by simp, rfl, rfl, rfl⟩
def loopP (ws : List Tok) (nb : Nat) (P : PM NT) (A : NT) (most : Nat) : PM NT := pThen (pMust ws nb [97, 115]) fun _ => pThen (pBe ws nb 3) fun x => pThen (pipesP ws nb P A.kids 2 most) fun ks => pOk (.mk A.op A.at_ ⟨x.text.toArray⟩ A.value A.names ks)
section
variable {B : Nat} {so : Option Addr} {sc : Nat} {ws : List Tok} {nb : Nat} {m : Nat} {P : PM NT} {O : Nat → PM NT}
theorem loopX (h : PO B so sc ws nb (m + 1) P O) (most : Nat) (h2 : most ≤ 3) (op at_ : Int) : NodeW B so sc ws nb 154 (fun v => #[.pointer (some ⟨B, 0, none⟩), v, .int .i64 (most : Int)]) m op at_ (fun A => loopP ws nb P A most) := by
 intro D u t o rv Ts ds dn db hx hm hrow hDg hok hlen
 unfold kdL
 dsimp only
 obtain ⟨R, hR⟩ : ∃ R, loopP ws nb P (.mk op at_ .empty vtN [] Ts) most t o = R := ⟨_, rfl⟩
 rw [hR]
 unfold loopP at hR
 dsimp only [NT.kids, NT.op, NT.at_, NT.value, NT.names] at hR
 have HR := hQz hR
 have HPO := hQz h
 have HS00 := hQz (SB.newR (tr := []) hx dn db hrow hok (fun q hq => by simp at hq))
 have HX := hQz (And.intro hx.pat.le (And.intro hx.pat.open_ hx.pat.few))
 have HM := hQz hm
 have HLen := hQz hlen
 have HDg := hQz hDg
 have hfl0 := Tryz.fldX0
 have hfl1 := Tryz.fldX1
 have hfl3 := Tryz.fldX3
 clear hR h hx hm dn db hrow hok hlen hDg
 have hr0 : ∃ r0, rv.ownBlock = r0 := ⟨_, rfl⟩
 obtain ⟨r0, hr0⟩ := hr0
 rw [hr0] at HS00 HDg ⊢
 clear hr0
 go_enter Tryz.func154, Tryz.ntmps154
 go_wp2_with fail
 have HS0 := hQz ((HS00.out.alloc [.int .i64 op, .int .i64 at_, .string ⟨#[]⟩, .int .i64 0, .string ⟨#[]⟩, .string ⟨#[]⟩, .slice none 0 0, .slice none 0 0, .slice none 0 0, rv] 28).alloc [.int .i64 0, .int .i64 0, .string ⟨#[]⟩, .int .i64 0, .string ⟨#[]⟩, .string ⟨#[]⟩, .slice none 0 0, .slice none 0 0, .slice none 0 0, .slice none 0 0] 28)
 rw [World.size_alloc] at HS0
 refine (mustX [97, 115] _ HS0.out.px).mono ?_
 rintro e w1 ⟨hb, hm⟩
 (try dsimp only at hm)
 have hR := HR.out
 obtain ⟨er, q, hr⟩ | ⟨x1, t1, o1, hr⟩ := pr_cases (pMust ws nb [97, 115] t o)
 · rw [hr] at hm
   rw [pThen_bad hr] at hR
   obtain rfl : e = .panicked (fcs er q) := hm
   exact ⟨rfl, (HS0.out.bo.trans (Bo.ofBt hb)), by rw [← hR]⟩
 rw [hr] at hm
 rw [pThen_ok hr] at hR
 (try dsimp only at hR)
 obtain ⟨⟨v, rfl, hE⟩, hp⟩ := hm
 have HL1 := hQz (mv_must (nb := nb) [97, 115] _ HS0.out.px.pat.le _ _ _ _ hr)
 have HO1 := hQz (bl_must (nb := nb) [97, 115] _ _ _ _ _ HS0.out.px.pat.open_ hr)
 have HQ1 := hQz hr
 replace HR := hQz hR
 have HS1 := hQz (HS0.out.step hb hp)
 clear hb hp hr hR
 unfold TkE at hE
 subst hE
 obtain ⟨kd1, pa1, fi1, tx1, er1⟩ := x1
 unfold tokV
 (try dsimp only at HR)
 dsimp only
 go_wp2_with fail
 refine (beX 3 (by decide) _ HS1.out.px).mono ?_
 rintro e w2 ⟨hb, hm⟩
 (try dsimp only at hm)
 have hR := HR.out
 obtain ⟨er, q, hr⟩ | ⟨x2, t2, o2, hr⟩ := pr_cases (pBe ws nb 3 t1 o1)
 · rw [hr] at hm
   rw [pThen_bad hr] at hR
   obtain rfl : e = .panicked (fcs er q) := hm
   exact ⟨rfl, (HS1.out.bo.trans (Bo.ofBt hb)), by rw [← hR]⟩
 rw [hr] at hm
 rw [pThen_ok hr] at hR
 (try dsimp only at hR)
 obtain ⟨⟨v, rfl, hE⟩, hp⟩ := hm
 have HL2 := hQz (mv_be (nb := nb) (k := 3) (by decide) _ HS1.out.px.pat.le _ _ _ _ hr)
 have HO2 := hQz (bl_be (nb := nb) 3 _ _ _ _ _ HS1.out.px.pat.open_ hr)
 have HQ2 := hQz hr
 replace HR := hQz hR
 have HS2 := hQz (HS1.out.step hb hp)
 clear hb hp hr hR
 unfold TkE at hE
 subst hE
 have Htx : Hid (x2.text.length ≤ 140737488355000) := by rw [show x2 = _ from be_eq HQ2.out]; exact HPO.out.tx _
 obtain ⟨kd2, pa2, fi2, tx2, er2⟩ := x2
 unfold tokV
 (try dsimp only at HR)
 dsimp only
 dsimp only at Htx
 obtain ⟨s0, s1, s2, s3, s4, s5, s6, s7, s8, s9⟩ := nd_cells HS2.out.bb1
 obtain ⟨sf0, sf1, sf2, sf3, sf4, sf5, sf6, sf7, sf8, sf9⟩ := nd_frozen HS2.out.bb1
 obtain ⟨W3, hW3⟩ : ∃ W, w2.setCell ⟨u.heap.size, 2, none⟩ (.string ⟨tx2.toArray⟩) = W := ⟨_, rfl⟩
 have P3 := nd_set2 HS2.out.bb1 hW3
 have HS3 := hQz (HS2.out.put 1 _ _ [.int .i64 op, .int .i64 at_, .string ⟨tx2.toArray⟩, .int .i64 0, .string ⟨#[]⟩, .string ⟨#[]⟩, .slice none 0 0, .slice none 0 0, .slice none 0 0, rv] _ rfl P3)
 clear P3
 obtain ⟨c0, c1, c2, c3, c4, c5, c6, c7, c8, c9⟩ := nd_cells HS3.out.bb1
 go_wp2_with fail
 clear s0 sf0 c0 s1 sf1 c1 s2 sf2 c2 s3 sf3 c3 s4 sf4 c4 s5 sf5 c5 s6 sf6 c6 s7 sf7 c7 s8 sf8 c8 s9 sf9 c9
 obtain ⟨dsR, hrR⟩ := HS3.out.rowR
 have HRR := hQz hrR
 clear hrR
 refine (pipesX HPO.out 2 most (by decide) (by omega) _ _ _ _ _ _ _ HS3.out.dnR HS3.out.dbR HS3.out.px (by have := HL1.out; have := HL2.out; have := HM.out; omega) HRR.out HS3.out.okR (by have := HLen.out; have := HL1.out; have := HL2.out; omega)).mono ?_
 rintro e w4 ⟨hb, hm⟩
 (try dsimp only at hm)
 have hR := HR.out
 obtain ⟨er, q, hr⟩ | ⟨Ks, t3, o3, hr⟩ := pr_cases (pipesP ws nb P Ts 2 most t2 o2)
 · rw [hr] at hm
   rw [pThen_bad hr] at hR
   obtain rfl : e = .panicked (fcs er q) := hm
   exact ⟨rfl, (HS3.out.boR hb), by rw [← hR]⟩
 rw [hr] at hm
 rw [pThen_ok hr] at hR
 (try dsimp only at hR)
 obtain ⟨⟨v, rfl, hE⟩, hp, hln⟩ := hm
 have HLn4 := hQz hln
 replace HR := hQz hR
 have HS4 := hQz (HS3.out.rowcall hb hp hE)
 clear hb hp hr hR hE hln
 obtain ⟨ko, kc, hv⟩ := HS4.out.rowV
 subst hv
 have HLn := HLn4
 obtain ⟨s0, s1, s2, s3, s4, s5, s6, s7, s8, s9⟩ := nd_cells HS4.out.bb1
 obtain ⟨sf0, sf1, sf2, sf3, sf4, sf5, sf6, sf7, sf8, sf9⟩ := nd_frozen HS4.out.bb1
 obtain ⟨W5, hW5⟩ : ∃ W, w4.setCell ⟨u.heap.size, 9, none⟩ (.slice ko Ks.length kc) = W := ⟨_, rfl⟩
 have P5 := nd_set9 HS4.out.bb1 hW5
 have HS5 := hQz (HS4.out.put 1 _ _ [.int .i64 op, .int .i64 at_, .string ⟨tx2.toArray⟩, .int .i64 0, .string ⟨#[]⟩, .string ⟨#[]⟩, .slice none 0 0, .slice none 0 0, .slice none 0 0, .slice ko Ks.length kc] _ rfl P5)
 clear P5
 obtain ⟨c0, c1, c2, c3, c4, c5, c6, c7, c8, c9⟩ := nd_cells HS5.out.bb1
 obtain ⟨r0, r1, r2, r3, r4, r5, r6, r7, r8, r9⟩ := nd_cells HS5.out.bb0
 obtain ⟨rf0, rf1, rf2, rf3, rf4, rf5, rf6, rf7, rf8, rf9⟩ := nd_frozen HS5.out.bb0
 go_wp2_with fail
 generalize hzZ : ((((((((((W5).setCell ⟨u.heap.size + 1, 0, none⟩ (.int .i64 op)).setCell ⟨u.heap.size + 1, 1, none⟩ (.int .i64 at_)).setCell ⟨u.heap.size + 1, 2, none⟩ (.string ⟨tx2.toArray⟩)).setCell ⟨u.heap.size + 1, 3, none⟩ (.int .i64 0)).setCell ⟨u.heap.size + 1, 4, none⟩ (.string ⟨#[]⟩)).setCell ⟨u.heap.size + 1, 5, none⟩ (.string ⟨#[]⟩)).setCell ⟨u.heap.size + 1, 6, none⟩ (.slice none 0 0)).setCell ⟨u.heap.size + 1, 7, none⟩ (.slice none 0 0)).setCell ⟨u.heap.size + 1, 8, none⟩ (.slice none 0 0)).setCell ⟨u.heap.size + 1, 9, none⟩ (.slice ko Ks.length kc) = WZ
 have PZ := nd_set HS5.out.bb0 hzZ
 obtain ⟨m0, m1, m2, m3, m4, m5, m6, m7, m8, m9⟩ := nd_cells PZ.new
 have HZ := HS5.out.put 0 _ _ [.int .i64 op, .int .i64 at_, .string ⟨tx2.toArray⟩, .int .i64 0, .string ⟨#[]⟩, .string ⟨#[]⟩, .slice none 0 0, .slice none 0 0, .slice none 0 0, .slice ko Ks.length kc] _ rfl PZ
 refine bodyPost_ret (v := .agg #[.int .i64 op, .int .i64 at_, .string ⟨tx2.toArray⟩, .int .i64 0, .string ⟨#[]⟩, .string ⟨#[]⟩, .slice none 0 0, .slice none 0 0, .slice none 0 0, .slice ko Ks.length kc]) (by simp [results, Tryz.results154, go_sem, m0, m1, m2, m3, m4, m5, m6, m7, m8, m9]) rfl ?_
 have hR := HR.out
 refine ⟨HZ.bo, ?_⟩
 rw [← hR]
 exact ⟨⟨_, rfl, ⟨op, at_, 0, ⟨tx2.toArray⟩, ⟨#[]⟩, ⟨#[]⟩, none, none, none, ko, 0, 0, 0, 0, 0, 0, Ks.length, kc⟩, rfl, HZ.rowNodeR HDg.out rfl op at_ ⟨tx2.toArray⟩ (by have := Htx.out; show tx2.length ≤ _; omega) (by have := HLn.out; have := HZ.px.pat.le; have := HZ.px.pat.few; omega)⟩, HZ.px⟩
theorem finishedX (h : PO B so sc ws nb (m + 1) P O) (op at_ : Int) (hop : op = 10 ∨ op = 30 ∨ op = 31) : NodeW B so sc ws nb 139 (fun v => #[.pointer (some ⟨B, 0, none⟩), v]) m op at_ (fun A => finishedP ws nb P A) := by
 intro D u t o rv Ts ds dn db hx hm hrow hDg hok hlen
 obtain ⟨ko0, kc0, hv0⟩ : ∃ ko kc, rv = .slice ko Ts.length kc := by
  rcases hrow.own.2 with ⟨e, h0⟩ | ⟨g, cap, cur, e, _⟩
  · exact ⟨none, 0, by rw [e, h0]⟩
  · exact ⟨_, _, e⟩
 subst hv0
 unfold kdL
 dsimp only
 obtain ⟨R, hR⟩ : ∃ R, finishedP ws nb P (.mk op at_ .empty vtN [] Ts) t o = R := ⟨_, rfl⟩
 rw [hR]
 unfold finishedP at hR
 dsimp only [NT.kids, NT.op, NT.at_, NT.value, NT.names] at hR
 have HR := hQz hR
 have HLp := hQz (fun most h2 => loopX h most h2 op at_)
 have HS00 := hQz (SB.newR (tr := []) hx dn db hrow hok (fun q hq => by simp at hq))
 have HX := hQz (And.intro hx.pat.le (And.intro hx.pat.open_ hx.pat.few))
 have HM := hQz hm
 have HLen := hQz hlen
 have HDg := hQz hDg
 clear hR h hx hm dn db hrow hok hlen hDg
 have hr0 : ∃ r0, (Value.slice ko0 Ts.length kc0).ownBlock = r0 := ⟨_, rfl⟩
 obtain ⟨r0, hr0⟩ := hr0
 rcases hop with rfl | rfl | rfl
 · rw [hr0] at HS00 HDg ⊢
   clear hr0
   go_enter Tryz.func139, Tryz.ntmps139
   go_wp2_with fail
   have HS0 := hQz ((HS00.out.alloc [.int .i64 10, .int .i64 at_, .string ⟨#[]⟩, .int .i64 0, .string ⟨#[]⟩, .string ⟨#[]⟩, .slice none 0 0, .slice none 0 0, .slice none 0 0, .slice ko0 Ts.length kc0] 28).alloc [.int .i64 0, .int .i64 0, .string ⟨#[]⟩, .int .i64 0, .string ⟨#[]⟩, .string ⟨#[]⟩, .slice none 0 0, .slice none 0 0, .slice none 0 0, .slice none 0 0] 28)
   rw [World.size_alloc] at HS0
   have hR : R = .ok (.mk 10 at_ .empty vtN [] Ts) t o := by rw [← HR.out]; rfl
   have HRn := hQz hR.symm
   clear HR hR
   have HR := HRn
   clear HRn
   obtain ⟨c0, c1, c2, c3, c4, c5, c6, c7, c8, c9⟩ := nd_cells HS0.out.bb1
   obtain ⟨r0, r1, r2, r3, r4, r5, r6, r7, r8, r9⟩ := nd_cells HS0.out.bb0
   obtain ⟨rf0, rf1, rf2, rf3, rf4, rf5, rf6, rf7, rf8, rf9⟩ := nd_frozen HS0.out.bb0
   go_wp2_with fail
   have HZ := (HS00.out.alloc [.int .i64 10, .int .i64 at_, .string ⟨#[]⟩, .int .i64 0, .string ⟨#[]⟩, .string ⟨#[]⟩, .slice none 0 0, .slice none 0 0, .slice none 0 0, .slice ko0 Ts.length kc0] 28).alloc [.int .i64 10, .int .i64 at_, .string ⟨#[]⟩, .int .i64 0, .string ⟨#[]⟩, .string ⟨#[]⟩, .slice none 0 0, .slice none 0 0, .slice none 0 0, .slice ko0 Ts.length kc0] 28
   rw [World.size_alloc] at HZ
   obtain ⟨m0, m1, m2, m3, m4, m5, m6, m7, m8, m9⟩ := nd_cells HZ.bb0
   refine bodyPost_ret (v := .agg #[.int .i64 10, .int .i64 at_, .string ⟨#[]⟩, .int .i64 0, .string ⟨#[]⟩, .string ⟨#[]⟩, .slice none 0 0, .slice none 0 0, .slice none 0 0, .slice ko0 Ts.length kc0]) (by simp [results, Tryz.results139, go_sem, m0, m1, m2, m3, m4, m5, m6, m7, m8, m9]) rfl ?_
   have hR := HR.out
   refine ⟨HZ.bo, ?_⟩
   rw [← hR]
   exact ⟨⟨_, rfl, ⟨10, at_, 0, ⟨#[]⟩, ⟨#[]⟩, ⟨#[]⟩, none, none, none, ko0, 0, 0, 0, 0, 0, 0, Ts.length, kc0⟩, rfl, HZ.rowNodeR HDg.out rfl 10 at_ .empty size0 (by have := HLen.out; have := HX.out; omega)⟩, HZ.px⟩
 · rw [hr0] at HS00 HDg ⊢
   go_enter Tryz.func139, Tryz.ntmps139
   go_wp2_with fail
   have HS0 := hQz ((HS00.out.alloc [.int .i64 30, .int .i64 at_, .string ⟨#[]⟩, .int .i64 0, .string ⟨#[]⟩, .string ⟨#[]⟩, .slice none 0 0, .slice none 0 0, .slice none 0 0, .slice ko0 Ts.length kc0] 28).alloc [.int .i64 0, .int .i64 0, .string ⟨#[]⟩, .int .i64 0, .string ⟨#[]⟩, .string ⟨#[]⟩, .slice none 0 0, .slice none 0 0, .slice none 0 0, .slice none 0 0] 28)
   rw [World.size_alloc] at HS0
   obtain ⟨dsR, hrR⟩ := HS0.out.rowR
   have HRR := hQz hrR
   clear hrR
   refine (HLp.out 2 (by decide) _ _ _ _ _ _ _ HS0.out.dnR HS0.out.dbR HS0.out.px HM.out HRR.out (fun g hg => HS0.out.rowD HDg.out g hg) HS0.out.okR HLen.out).mono ?_
   rintro e w1 ⟨hb, hm⟩
   (try dsimp only at hm)
   have hR : loopP ws nb P (.mk 30 at_ .empty vtN [] Ts) 2 t o = R := HR.out
   obtain ⟨er, q, hr⟩ | ⟨T, t1, o1, hr⟩ := pr_cases (loopP ws nb P (.mk 30 at_ .empty vtN [] Ts) 2 t o)
   · rw [hr] at hm hR
     obtain rfl : e = .panicked (fcs er q) := hm
     exact ⟨rfl, HS0.out.boR hb, by rw [← hR]⟩
   rw [hr] at hm hR
   obtain ⟨⟨v, rfl, hE⟩, hp⟩ := hm
   obtain ⟨d, rfl, hd⟩ := hE
   have HS1 := hQz ((HS0.out.stepRow hb hp).add (hd.weak (fun b hb _ => ⟨hb.1, hb.2, fun e => by cases e⟩)))
   clear hd hb hp HRR HS0 HR hr
   have HR := hQz hR
   clear hR
   obtain ⟨op1, at1, vk1, tx1, nu1, vt1, io1, yo1, no1, ko1, iN1, ic1, yN1, yc1, nN1, nc1, kN1, kc1⟩ := d
   unfold NV.v NV.l
   dsimp only
   obtain ⟨r0, r1, r2, r3, r4, r5, r6, r7, r8, r9⟩ := nd_cells HS1.out.bb0
   obtain ⟨rf0, rf1, rf2, rf3, rf4, rf5, rf6, rf7, rf8, rf9⟩ := nd_frozen HS1.out.bb0
   go_wp2_with fail
   generalize hzZ : ((((((((((w1).setCell ⟨u.heap.size + 1, 0, none⟩ (.int .i64 op1)).setCell ⟨u.heap.size + 1, 1, none⟩ (.int .i64 at1)).setCell ⟨u.heap.size + 1, 2, none⟩ (.string tx1)).setCell ⟨u.heap.size + 1, 3, none⟩ (.int .i64 vk1)).setCell ⟨u.heap.size + 1, 4, none⟩ (.string nu1)).setCell ⟨u.heap.size + 1, 5, none⟩ (.string vt1)).setCell ⟨u.heap.size + 1, 6, none⟩ (.slice io1 iN1 ic1)).setCell ⟨u.heap.size + 1, 7, none⟩ (.slice yo1 yN1 yc1)).setCell ⟨u.heap.size + 1, 8, none⟩ (.slice no1 nN1 nc1)).setCell ⟨u.heap.size + 1, 9, none⟩ (.slice ko1 kN1 kc1) = WZ
   have PZ := nd_set HS1.out.bb0 hzZ
   obtain ⟨m0, m1, m2, m3, m4, m5, m6, m7, m8, m9⟩ := nd_cells PZ.new
   have HZ := HS1.out.put 0 _ _ [.int .i64 op1, .int .i64 at1, .string tx1, .int .i64 vk1, .string nu1, .string vt1, .slice io1 iN1 ic1, .slice yo1 yN1 yc1, .slice no1 nN1 nc1, .slice ko1 kN1 kc1] _ rfl PZ
   refine bodyPost_ret (v := .agg #[.int .i64 op1, .int .i64 at1, .string tx1, .int .i64 vk1, .string nu1, .string vt1, .slice io1 iN1 ic1, .slice yo1 yN1 yc1, .slice no1 nN1 nc1, .slice ko1 kN1 kc1]) (by simp [results, Tryz.results139, go_sem, m0, m1, m2, m3, m4, m5, m6, m7, m8, m9]) rfl ?_
   have hR := HR.out
   refine ⟨HZ.bo, ?_⟩
   rw [← hR]
   exact ⟨⟨_, rfl, ⟨op1, at1, vk1, tx1, nu1, vt1, io1, yo1, no1, ko1, iN1, ic1, yN1, yc1, nN1, nc1, kN1, kc1⟩, rfl, HZ.t0⟩, HZ.px⟩
 · rw [hr0] at HS00 HDg ⊢
   go_enter Tryz.func139, Tryz.ntmps139
   go_wp2_with fail
   have HS0 := hQz ((HS00.out.alloc [.int .i64 31, .int .i64 at_, .string ⟨#[]⟩, .int .i64 0, .string ⟨#[]⟩, .string ⟨#[]⟩, .slice none 0 0, .slice none 0 0, .slice none 0 0, .slice ko0 Ts.length kc0] 28).alloc [.int .i64 0, .int .i64 0, .string ⟨#[]⟩, .int .i64 0, .string ⟨#[]⟩, .string ⟨#[]⟩, .slice none 0 0, .slice none 0 0, .slice none 0 0, .slice none 0 0] 28)
   rw [World.size_alloc] at HS0
   obtain ⟨dsR, hrR⟩ := HS0.out.rowR
   have HRR := hQz hrR
   clear hrR
   refine (HLp.out 3 (by decide) _ _ _ _ _ _ _ HS0.out.dnR HS0.out.dbR HS0.out.px HM.out HRR.out (fun g hg => HS0.out.rowD HDg.out g hg) HS0.out.okR HLen.out).mono ?_
   rintro e w1 ⟨hb, hm⟩
   (try dsimp only at hm)
   have hR : loopP ws nb P (.mk 31 at_ .empty vtN [] Ts) 3 t o = R := HR.out
   obtain ⟨er, q, hr⟩ | ⟨T, t1, o1, hr⟩ := pr_cases (loopP ws nb P (.mk 31 at_ .empty vtN [] Ts) 3 t o)
   · rw [hr] at hm hR
     obtain rfl : e = .panicked (fcs er q) := hm
     exact ⟨rfl, HS0.out.boR hb, by rw [← hR]⟩
   rw [hr] at hm hR
   obtain ⟨⟨v, rfl, hE⟩, hp⟩ := hm
   obtain ⟨d, rfl, hd⟩ := hE
   have HS1 := hQz ((HS0.out.stepRow hb hp).add (hd.weak (fun b hb _ => ⟨hb.1, hb.2, fun e => by cases e⟩)))
   clear hd hb hp HRR HS0 HR hr
   have HR := hQz hR
   clear hR
   obtain ⟨op1, at1, vk1, tx1, nu1, vt1, io1, yo1, no1, ko1, iN1, ic1, yN1, yc1, nN1, nc1, kN1, kc1⟩ := d
   unfold NV.v NV.l
   dsimp only
   obtain ⟨r0, r1, r2, r3, r4, r5, r6, r7, r8, r9⟩ := nd_cells HS1.out.bb0
   obtain ⟨rf0, rf1, rf2, rf3, rf4, rf5, rf6, rf7, rf8, rf9⟩ := nd_frozen HS1.out.bb0
   go_wp2_with fail
   generalize hzZ : ((((((((((w1).setCell ⟨u.heap.size + 1, 0, none⟩ (.int .i64 op1)).setCell ⟨u.heap.size + 1, 1, none⟩ (.int .i64 at1)).setCell ⟨u.heap.size + 1, 2, none⟩ (.string tx1)).setCell ⟨u.heap.size + 1, 3, none⟩ (.int .i64 vk1)).setCell ⟨u.heap.size + 1, 4, none⟩ (.string nu1)).setCell ⟨u.heap.size + 1, 5, none⟩ (.string vt1)).setCell ⟨u.heap.size + 1, 6, none⟩ (.slice io1 iN1 ic1)).setCell ⟨u.heap.size + 1, 7, none⟩ (.slice yo1 yN1 yc1)).setCell ⟨u.heap.size + 1, 8, none⟩ (.slice no1 nN1 nc1)).setCell ⟨u.heap.size + 1, 9, none⟩ (.slice ko1 kN1 kc1) = WZ
   have PZ := nd_set HS1.out.bb0 hzZ
   obtain ⟨m0, m1, m2, m3, m4, m5, m6, m7, m8, m9⟩ := nd_cells PZ.new
   have HZ := HS1.out.put 0 _ _ [.int .i64 op1, .int .i64 at1, .string tx1, .int .i64 vk1, .string nu1, .string vt1, .slice io1 iN1 ic1, .slice yo1 yN1 yc1, .slice no1 nN1 nc1, .slice ko1 kN1 kc1] _ rfl PZ
   refine bodyPost_ret (v := .agg #[.int .i64 op1, .int .i64 at1, .string tx1, .int .i64 vk1, .string nu1, .string vt1, .slice io1 iN1 ic1, .slice yo1 yN1 yc1, .slice no1 nN1 nc1, .slice ko1 kN1 kc1]) (by simp [results, Tryz.results139, go_sem, m0, m1, m2, m3, m4, m5, m6, m7, m8, m9]) rfl ?_
   have hR := HR.out
   refine ⟨HZ.bo, ?_⟩
   rw [← hR]
   exact ⟨⟨_, rfl, ⟨op1, at1, vk1, tx1, nu1, vt1, io1, yo1, no1, ko1, iN1, ic1, yN1, yc1, nN1, nc1, kN1, kc1⟩, rfl, HZ.t0⟩, HZ.px⟩
end
section
variable {Fl : Bool} {D : Nat → Prop} {r0 : Option Nat} {w W W' : World} {B : Nat} {so : Option Addr} {sc : Nat} {ws : List Tok} {nb t o : Nat} {bx : List (Nat × List Value × TypeId)} {tr : List (NT × NV)}
theorem SB.lit1 {T : NT} {d : NV} (h : SB Fl D r0 w B so sc ws nb t o bx (.slice none 0 0) [] ((T, d) :: tr) W) (hf : Fl = true → d.kc = d.kN ∧ d.kN ≤ 1000) : SB Fl D r0 w B so sc ws nb t o bx (.slice (some ⟨W.heap.size, 0, none⟩) 1 1) [T] tr (W.alloc (.cells d.l.toArray 28)) := by
 have hk := h.keep ((Below.refl _ _).alloc (Nat.le_refl _) (.cells d.l.toArray 28))
 have hh := heap_alloc_new W (.cells d.l.toArray 28)
 have hlo : ∀ b, Dm D bx (.slice none 0 0) b → b < W.heap.size → Dm D bx (.slice (some ⟨W.heap.size, 0, none⟩) 1 1) b := fun b hd hl => ⟨hd.1, hd.2.1, fun e => by
  have : W.heap.size = b := by injection e
  omega⟩
 have hs : ∀ b, Dm D bx (.slice none 0 0) b → b < W.heap.size → (W.alloc (.cells d.l.toArray 28)).heap[b]? = W.heap[b]? := fun b _ hl => Below.heap_alloc _ _ _ hl
 have hrow : NRw (Dm D bx (.slice (some ⟨W.heap.size, 0, none⟩) 1 1)) (W.alloc (.cells d.l.toArray 28)) (.slice (some ⟨W.heap.size, 0, none⟩) 1 1) [T] [d] := NRw.lit (Ts := [T]) (ds := [d]) rfl (by simp) (by simpa using hh) (els1 ((h.m0).keep (by simp) hs hlo))
 refine ⟨hk.bo, hk.px, hk.bxs, hk.apart, ⟨[d], hrow⟩, fun g hg => ?_, hk.r0k, fun q hq => (h.trs q (List.mem_cons_of_mem _ hq)).keep (by simp) hs hlo, hk.dn, hk.db, hk.hB, hk.p0, fun e g hg i hi => ?_⟩
 · have : W.heap.size = g := by injection hg
   subst this
   have := h.hB
   have := h.sz
   exact ⟨.inl h.sz, by omega, by simp, fun p hp => by have := (h.bxs p hp).2.1; omega⟩
 · have hi0 : i = 0 := by simp at hi; omega
   subst hi0
   have hc := hrow.cell (i := 0) (j := 9) hg rfl (by decide)
   refine ⟨d.ko, d.kN, (hf e).2, hc.trans ?_⟩
   show some (Value.slice d.ko d.kN d.kc) = _
   rw [(hf e).1]
end
section
variable {B : Nat} {so : Option Addr} {sc : Nat} {ws : List Tok} {nb : Nat} {m : Nat} {P : PM NT} {O : Nat → PM NT}
theorem choiceX (h : PO B so sc ws nb (m + 1) P O) : NodeC B so sc ws nb 166 m (choiceP ws nb P) := by
 intro D u t o dn db hx hm
 obtain ⟨R, hR⟩ : ∃ R, choiceP ws nb P t o = R := ⟨_, rfl⟩
 rw [hR]
 unfold choiceP at hR
 have HR := hQz hR
 have HPO := hQz h
 have HS0 := hQz (SB.new (Fl := true) (tr := []) hx dn db (fun q hq => by simp at hq))
 have HX := hQz (And.intro hx.pat.le hx.pat.open_)
 have HM := hQz hm
 have hfl0 := Tryz.fldX0
 have hfl1 := Tryz.fldX1
 have hfl3 := Tryz.fldX3
 clear hR h hx hm dn db
 obtain ⟨i0, hi0, hz0, hz1, hz2⟩ := info_parts Tryz.infoN
 have Hnx := hQz HPO.out.nx
 go_enter Tryz.func166, Tryz.ntmps166
 go_wp2_with fail
 have HS1 := hQz (HS0.out.alloc [.int .i64 0, .int .i64 0, .string ⟨#[]⟩, .int .i64 0, .string ⟨#[]⟩, .string ⟨#[]⟩, .slice none 0 0, .slice none 0 0, .slice none 0 0, .slice none 0 0] 28)
 refine (enterX [105, 102] _ HS1.out.px).mono ?_
 rintro e w1 ⟨hb, hm⟩
 have hR := HR.out
 obtain ⟨er, q, hr⟩ | ⟨x1, t1, o1, hr⟩ := pr_cases (pEnter ws nb [105, 102] t o)
 · rw [hr] at hm
   rw [pThen_bad hr] at hR
   obtain rfl : e = .panicked (fcs er q) := hm
   exact ⟨rfl, (HS1.out.bo.trans (Bo.ofBt hb)).toBt, by rw [← hR]⟩
 rw [hr] at hm
 rw [pThen_ok hr] at hR
 (try dsimp only at hR)
 obtain ⟨⟨v, rfl, hE⟩, hp⟩ := hm
 have HL1 := hQz (mv_enter (nb := nb) [105, 102] _ HS1.out.px.pat.le _ _ _ _ hr)
 have HO1 := hQz (up_enter (nb := nb) [105, 102] _ _ _ _ _ HS1.out.px.pat.open_ hr)
 have HQ1 := hQz hr
 replace HR := hQz hR
 have HS2 := hQz (HS1.out.step hb hp)
 clear hb hp hr hR
 unfold TkE at hE
 subst hE
 obtain ⟨kd1, pa1, fi1, tx1, er1⟩ := x1
 unfold tokV
 (try dsimp only at HR)
 dsimp only
 go_wp2_with fail
 refine (branchX HPO.out pa1 _ _ _ _ HS2.out.dnW HS2.out.dbW HS2.out.px (by have := HL1.out; have := HM.out; omega)).mono ?_
 rintro e w2 ⟨hb, hm⟩
 have hR := HR.out
 obtain ⟨er, q, hr⟩ | ⟨T2, t2, o2, hr⟩ := pr_cases (branchP ws nb P pa1 t1 o1)
 · rw [hr] at hm
   rw [pThen_bad hr] at hR
   obtain rfl : e = .panicked (fcs er q) := hm
   exact ⟨rfl, (HS2.out.bo.trans (Bo.ofBt hb)).toBt, by rw [← hR]⟩
 rw [hr] at hm
 rw [pThen_ok hr] at hR
 (try dsimp only at hR)
 obtain ⟨⟨v, rfl, hE⟩, hp⟩ := hm
 have HL2 := hQz (mv_branch (nb := nb) HPO.out.mp pa1 _ HS2.out.px.pat.le _ _ _ _ hr)
 have HO2 := hQz (bl_branch (nb := nb) HPO.out.bp pa1 _ _ _ _ _ HS2.out.px.pat.open_ hr)
 have HQ2 := hQz hr
 replace HR := hQz hR
 have HS3 := hQz (HS2.out.step hb hp)
 clear hb hp hr hR
 obtain ⟨d, rfl, hd, hf1, hf2⟩ := hE
 have HF2 := hQz (And.intro hf1 hf2)
 have HS4 := hQz (HS3.out.add hd)
 clear hd hf1 hf2
 obtain ⟨op2, at2, vk2, tx2, nu2, vt2, io2, yo2, no2, ko2, iN2, ic2, yN2, yc2, nN2, nc2, kN2, kc2⟩ := d
 unfold NV.v NV.l
 dsimp only at HF2 ⊢
 obtain ⟨W3, hW3⟩ : ∃ W, w2.alloc (.cells #[.int .i64 op2, .int .i64 at2, .string tx2, .int .i64 vk2, .string nu2, .string vt2, .slice io2 iN2 ic2, .slice yo2 yN2 yc2, .slice no2 nN2 nc2, .slice ko2 kN2 kc2] 28) = W := ⟨_, rfl⟩
 have HS5 := hQz (HS4.out.lit1 (fun _ => HF2.out))
 unfold NV.l at HS5
 dsimp only at HS5
 rw [hW3] at HS5
 go_wp2_with fail
 go_loopw [4, 3] (fun bw ba wr => ∃ (Bs : List NT) (pa t3 o3 f : Nat), ba = .int .i64 (pa : Int) ∧ Hid (ws.length < t3 + f) ∧ Hid (SB true D none u B so sc ws nb t3 o3 [(u.heap.size, [.int .i64 0, .int .i64 0, .string ⟨#[]⟩, .int .i64 0, .string ⟨#[]⟩, .string ⟨#[]⟩, .slice none 0 0, .slice none 0 0, .slice none 0 0, .slice none 0 0], 28)] bw Bs [] wr) ∧ Hid (Bs.length ≤ t3 ∧ t + 1 ≤ t3 ∧ o3 = o + 1) ∧ Hid (pThen (lpP (fun (a : List NT) t o => if syP ws t [101, 108, 105, 102] then pThen (pTake ws) (fun y => pThen (branchP ws nb P y.at_) fun b => pOk (.inl (a ++ [b]))) t o else .ok (.inr a) t o) f Bs) (fun bs => pThen (fun t o => if syP ws t [101, 108, 115, 101] then pThen (pTake ws) (fun _ => P) t o else .ok (selfP (hrP ws t).at_) t o) fun n => pThen (pLeave ws nb [101, 110, 100]) fun _ => pOk (withinP bs n)) t3 o3 = R)) (fun _ _ wr => ws.length + 1 - tkOf B wr)
 case atStart =>
  refine ⟨[T2], pa1, t2, o2, ws.length + 1, rfl, (by show _ < _; omega), HS5, ?_, HR⟩
  have h1 := HL1.out
  have h2 := HL2.out
  have h3 := HO1.out
  have h4 := HO2.out
  exact ⟨by show 1 ≤ t2; omega, by omega, by omega⟩
 case round =>
  clear HR HS0 HL1 HO1
  obtain ⟨Bs, pa, t3, o3, f, rfl, HF, HS0, HK, HR⟩ := hrel
  obtain ⟨f, rfl⟩ : ∃ f', f = f' + 1 := ⟨f - 1, by have := HF.out; have := HS0.out.px.pat.le; omega⟩
  have HTk := hQz HS0.out.px.tk
  have hR := HR.out
  rw [lp_step] at hR
  replace HR := hQz hR
  clear hR
  obtain ⟨c, hc⟩ : ∃ c, syP ws t3 [101, 108, 105, 102] = c := ⟨_, rfl⟩
  cases c with
  | true =>
   have hR := HR.out
   rw [pThen_congr (y := pThen (pTake ws) (fun y => pThen (branchP ws nb P y.at_) fun b => pOk (.inl (Bs ++ [b])))) (by (try dsimp only); rw [if_pos hc]), pThen_assoc, pThen_ok (x := pTake ws) rfl] at hR
   (try dsimp only at hR)
   rw [pThen_assoc] at hR
   replace HR := hQz hR
   clear hR
   go_wp2_with fail
   refine (saysX [101, 108, 105, 102] hc _ HS0.out.px).mono ?_
   rintro e w4 ⟨rfl, hb⟩
   have HS6 := hQz (HS0.out.keep hb)
   clear hb
   go_wp2_with fail
   refine (takeX (sy_lt hc) _ HS6.out.px).mono ?_
   rintro e w5 ⟨rfl, hb, hp⟩
   have HS7 := hQz (HS6.out.step hb hp)
   clear hb hp
   generalize hrP ws t3 = X at *
   obtain ⟨kd4, pa4, fi4, tx4, er4⟩ := X
   unfold tokV
   dsimp only at HR ⊢
   go_wp2_with fail
   refine (branchX HPO.out pa4 _ _ _ _ HS7.out.dnW HS7.out.dbW HS7.out.px (by have := HK.out; have := HM.out; omega)).mono ?_
   rintro e w6 ⟨hb, hm⟩
   have hR := HR.out
   obtain ⟨er, q, hr⟩ | ⟨T5, t5, o5, hr⟩ := pr_cases (branchP ws nb P pa4 (t3 + 1) o3)
   · rw [hr] at hm
     rw [pThen_bad hr] at hR
     obtain rfl : e = .panicked (fcs er q) := hm
     exact ⟨rfl, (HS7.out.bo.trans (Bo.ofBt hb)).toBt, by rw [← hR]⟩
   rw [hr] at hm
   rw [pThen_ok hr] at hR
   (try dsimp only at hR)
   obtain ⟨⟨v, rfl, hE⟩, hp⟩ := hm
   have HL6 := hQz (mv_branch (nb := nb) HPO.out.mp pa4 _ HS7.out.px.pat.le _ _ _ _ hr)
   have HO6 := hQz (bl_branch (nb := nb) HPO.out.bp pa4 _ _ _ _ _ HS7.out.px.pat.open_ hr)
   have HQ6 := hQz hr
   replace HR := hQz hR
   have HS8 := hQz (HS7.out.step hb hp)
   clear hb hp hr hR
   obtain ⟨d, rfl, hd, hf1, hf2⟩ := hE
   have HF5 := hQz (And.intro hf1 hf2)
   have HS9 := hQz (HS8.out.add hd)
   clear hd hf1 hf2
   obtain ⟨op5, at5, vk5, tx5, nu5, vt5, io5, yo5, no5, ko5, iN5, ic5, yN5, yc5, nN5, nc5, kN5, kc5⟩ := d
   unfold NV.v NV.l
   dsimp only at HF5 ⊢
   have hR := HR.out
   rw [pThen_ok (x := pOk _) rfl] at hR
   (try dsimp only at hR)
   replace HR := hQz hR
   clear hR
   obtain ⟨ds, hrw⟩ := HS9.out.row
   have HRW := hQz hrw
   clear hrw
   go_wp2_with (at_builtin; go_loud (refine wpList_append_own_at _ rfl _ _ 26 rfl 0 28 i0 (.agg #[.int .i64 0, .int .i64 0, .string ⟨#[]⟩, .int .i64 0, .string ⟨#[]⟩, .string ⟨#[]⟩, .slice none 0 0, .slice none 0 0, .slice none 0 0, .slice none 0 0]) 10 168 Tryz.underlying26 hi0 hz0 hz1 hz2 rfl (by decide) (u4) (Bs).length (ds.flatMap NV.l) rfl (HS9.out.ownA HRW.out _) ⟨w6.heap.size, 0, none⟩ 1 1 (NV.l ⟨op5, at5, vk5, tx5, nu5, vt5, io5, yo5, no5, ko5, iN5, ic5, yN5, yc5, nN5, nc5, kN5, kc5⟩) rfl rfl (newsL (heap_alloc_new w6 _)) (one_l _) (by have := (by have := HK.out; have := HS0.out.px.pat.le; have := HS0.out.px.pat.few; omega : Bs.length + 1 ≤ 50331648); unfold maxLen; omega) (by have := (by have := HK.out; have := HS0.out.px.pat.le; have := HS0.out.px.pat.few; omega : Bs.length + 1 ≤ 50331648); omega) (Nat.zero_le _) ?_))
   intro v6 w7 hown hgrow hnil hat
   have HS10 := hQz ((HS9.out.app HRW.out (Us := [T5]) (es := [⟨op5, at5, vk5, tx5, nu5, vt5, io5, yo5, no5, ko5, iN5, ic5, yN5, yc5, nN5, nc5, kN5, kc5⟩]) rfl (els1 HS9.out.m0) (fun _ i d hi => by cases i with | zero => cases hi; exact HF5.out | succ i => cases hi) _ (by simpa using hown) hgrow hat).drop)
   clear hown hgrow hnil hat HRW
   go_wp2_with fail
   go_roundw
   case rel =>
    refine ⟨Bs ++ [T5], pa4, t5, o5, f, rfl, ?_, HS10, ?_, HR⟩
    · have h1 := HF.out
      have h2 := HL6.out
      show _ < _
      omega
    · have h1 := HK.out
      have h2 := HL6.out
      have h3 := HO6.out
      have h6 : (Bs ++ [T5]).length = Bs.length + 1 := by simp
      exact ⟨by omega, by omega, by omega⟩
   case measure =>
    rw [HTk.out, HS10.out.px.tk]
    have h2 := HL6.out
    have h3 := HS0.out.px.pat.le
    omega
  | false =>
   have hR := HR.out
   rw [pThen_ok (a := .inr Bs) (t' := t3) (o' := o3) (by (try dsimp only); rw [if_neg (by rw [hc]; decide)])] at hR
   (try dsimp only at hR)
   replace HR := hQz hR
   clear hR
   go_wp2_with fail
   refine (saysX [101, 108, 105, 102] hc _ HS0.out.px).mono ?_
   rintro e w4 ⟨rfl, hb⟩
   have HS6 := hQz (HS0.out.keep hb)
   clear hb
   go_wp2_with fail
   refine (hereX _ HS6.out.px).mono ?_
   rintro e w5 ⟨rfl, hb⟩
   have HS7 := hQz (HS6.out.keep hb)
   clear hb
   unfold tokV
   go_wp2_with fail
   refine (selfX (fun _ => False) (hrP ws t3).at_ _).mono ?_
   rintro e w6 ⟨d, rfl, hb, hd⟩
   have HS8 := hQz ((HS7.out.keep hb).add (hd.weak (fun b hb _ => hb.elim)))
   clear hb hd
   obtain ⟨op31, at31, vk31, tx31, nu31, vt31, io31, yo31, no31, ko31, iN31, ic31, yN31, yc31, nN31, nc31, kN31, kc31⟩ := d
   unfold NV.v NV.l
   dsimp only
   obtain ⟨W7, hW7⟩ : ∃ W, w6.alloc (.cells #[.int .i64 op31, .int .i64 at31, .string tx31, .int .i64 vk31, .string nu31, .string vt31, .slice io31 iN31 ic31, .slice yo31 yN31 yc31, .slice no31 nN31 nc31, .slice ko31 kN31 kc31] 28) = W := ⟨_, rfl⟩
   have HS9 := hQz (HS8.out.alloc [.int .i64 op31, .int .i64 at31, .string tx31, .int .i64 vk31, .string nu31, .string vt31, .slice io31 iN31 ic31, .slice yo31 yN31 yc31, .slice no31 nN31 nc31, .slice ko31 kN31 kc31] 28)
   rw [hW7] at HS9
   go_wp2_with fail
   clear hW7
   obtain ⟨ce, he⟩ : ∃ c, syP ws t3 [101, 108, 115, 101] = c := ⟨_, rfl⟩
   cases ce with
   | true =>
    have hR := HR.out
    rw [pThen_congr (y := pThen (pTake ws) (fun _ => P)) (by (try dsimp only); rw [if_pos he]), pThen_assoc, pThen_ok (x := pTake ws) rfl] at hR
    (try dsimp only at hR)
    replace HR := hQz hR
    clear hR
    refine (takesT [101, 108, 115, 101] he _ HS9.out.px).mono ?_
    rintro e w8 ⟨rfl, hb, hp⟩
    have HS10 := hQz ((HS9.out.step hb hp).drop)
    clear hb hp
    go_wp2_with fail
    refine (HPO.out.pipe _ _ _ _ HS10.out.dnW HS10.out.dbW HS10.out.px (by have := HK.out; have := HM.out; omega)).mono ?_
    rintro e w9 ⟨hb, hm⟩
    have hR := HR.out
    obtain ⟨er, q, hr⟩ | ⟨T7, t7, o7, hr⟩ := pr_cases (P (t3 + 1) o3)
    · rw [hr] at hm
      rw [pThen_bad hr] at hR
      obtain rfl : e = .panicked (fcs er q) := hm
      exact ⟨rfl, (HS10.out.bo.trans (Bo.ofBt hb)).toBt, by rw [← hR]⟩
    rw [hr] at hm
    rw [pThen_ok hr] at hR
    (try dsimp only at hR)
    obtain ⟨⟨v, rfl, hE⟩, hp⟩ := hm
    have HL9 := hQz (HPO.out.mp _ HS10.out.px.pat.le _ _ _ _ hr)
    have HO9 := hQz (HPO.out.bp _ _ _ _ _ HS10.out.px.pat.open_ hr)
    have HQ9 := hQz hr
    replace HR := hQz hR
    have HS11 := hQz (HS10.out.step hb hp)
    clear hb hp hr hR
    obtain ⟨d, rfl, hd⟩ := hE
    have HS12 := hQz (HS11.out.add hd)
    clear hd
    obtain ⟨op32, at32, vk32, tx32, nu32, vt32, io32, yo32, no32, ko32, iN32, ic32, yN32, yc32, nN32, nc32, kN32, kc32⟩ := d
    unfold NV.v NV.l
    dsimp only
    obtain ⟨c0, c1, c2, c3, c4, c5, c6, c7, c8, c9⟩ := nd_cells HS12.out.bb0
    obtain ⟨cf0, cf1, cf2, cf3, cf4, cf5, cf6, cf7, cf8, cf9⟩ := nd_frozen HS12.out.bb0
    go_wp2_with fail
    generalize hz10 : ((((((((((w9).setCell ⟨w6.heap.size, 0, none⟩ (.int .i64 op32)).setCell ⟨w6.heap.size, 1, none⟩ (.int .i64 at32)).setCell ⟨w6.heap.size, 2, none⟩ (.string tx32)).setCell ⟨w6.heap.size, 3, none⟩ (.int .i64 vk32)).setCell ⟨w6.heap.size, 4, none⟩ (.string nu32)).setCell ⟨w6.heap.size, 5, none⟩ (.string vt32)).setCell ⟨w6.heap.size, 6, none⟩ (.slice io32 iN32 ic32)).setCell ⟨w6.heap.size, 7, none⟩ (.slice yo32 yN32 yc32)).setCell ⟨w6.heap.size, 8, none⟩ (.slice no32 nN32 nc32)).setCell ⟨w6.heap.size, 9, none⟩ (.slice ko32 kN32 kc32) = W10
    have P10 := nd_set HS12.out.bb0 hz10
    have HS13 := hQz (HS12.out.put 0 _ _ [.int .i64 op32, .int .i64 at32, .string tx32, .int .i64 vk32, .string nu32, .string vt32, .slice io32 iN32 ic32, .slice yo32 yN32 yc32, .slice no32 nN32 nc32, .slice ko32 kN32 kc32] _ rfl P10)
    clear P10 hz10
    clear c0 cf0 c1 cf1 c2 cf2 c3 cf3 c4 cf4 c5 cf5 c6 cf6 c7 cf7 c8 cf8 c9 cf9
    refine (leaveX [101, 110, 100] (by have := HK.out; have := HO9.out; omega) _ HS13.out.px).mono ?_
    rintro e w11 ⟨hb, hm⟩
    have hR := HR.out
    obtain ⟨er, q, hr⟩ | ⟨_x, t8, o8, hr⟩ := pr_cases (pLeave ws nb [101, 110, 100] t7 o7)
    · rw [hr] at hm
      rw [pThen_bad hr] at hR
      obtain rfl : e = .panicked (fcs er q) := hm
      exact ⟨rfl, (HS13.out.bo.trans (Bo.ofBt hb)).toBt, by rw [← hR]⟩
    rw [hr] at hm
    rw [pThen_ok hr] at hR
    (try dsimp only at hR)
    obtain ⟨⟨v, rfl, hE⟩, hp⟩ := hm
    have HL11 := hQz (mv_leave (nb := nb) [101, 110, 100] _ HS13.out.px.pat.le _ _ _ _ hr)
    have HQ11 := hQz hr
    replace HR := hQz hR
    have HS14 := hQz (HS13.out.step hb hp)
    clear hb hp hr hR
    subst hE
    have HLv := HL11
    obtain ⟨c0, c1, c2, c3, c4, c5, c6, c7, c8, c9⟩ := nd_cells HS14.out.bb0
    obtain ⟨ds, hrw, hfl⟩ := HS14.out.waits
    have HWt := hQz (And.intro hrw hfl)
    clear hrw hfl
    go_wp2_with fail
    refine (withinX _ (u4) (Bs) ds T7 ⟨op32, at32, vk32, tx32, nu32, vt32, io32, yo32, no32, ko32, iN32, ic32, yN32, yc32, nN32, nc32, kN32, kc32⟩ _ HS14.out.dnW HWt.out.1 HWt.out.2 (by have := HK.out; have := HS0.out.px.pat.le; have := HS0.out.px.pat.few; omega) HS14.out.m0).mono ?_
    rintro e w12 ⟨d, rfl, hb, hd⟩
    have HS15 := hQz ((HS14.out.keep hb).add (hd.weak (fun b hb _ => hb)))
    clear hb hd
    obtain ⟨op33, at33, vk33, tx33, nu33, vt33, io33, yo33, no33, ko33, iN33, ic33, yN33, yc33, nN33, nc33, kN33, kc33⟩ := d
    unfold NV.v NV.l
    dsimp only
    clear HWt
    obtain ⟨r0, r1, r2, r3, r4, r5, r6, r7, r8, r9⟩ := nd_cells HS15.out.bb1
    obtain ⟨rf0, rf1, rf2, rf3, rf4, rf5, rf6, rf7, rf8, rf9⟩ := nd_frozen HS15.out.bb1
    go_wp2_with fail
    generalize hzZ : ((((((((((w12).setCell ⟨u.heap.size, 0, none⟩ (.int .i64 op33)).setCell ⟨u.heap.size, 1, none⟩ (.int .i64 at33)).setCell ⟨u.heap.size, 2, none⟩ (.string tx33)).setCell ⟨u.heap.size, 3, none⟩ (.int .i64 vk33)).setCell ⟨u.heap.size, 4, none⟩ (.string nu33)).setCell ⟨u.heap.size, 5, none⟩ (.string vt33)).setCell ⟨u.heap.size, 6, none⟩ (.slice io33 iN33 ic33)).setCell ⟨u.heap.size, 7, none⟩ (.slice yo33 yN33 yc33)).setCell ⟨u.heap.size, 8, none⟩ (.slice no33 nN33 nc33)).setCell ⟨u.heap.size, 9, none⟩ (.slice ko33 kN33 kc33) = WZ
    have PZ := nd_set HS15.out.bb1 hzZ
    obtain ⟨m0, m1, m2, m3, m4, m5, m6, m7, m8, m9⟩ := nd_cells PZ.new
    have HZ := HS15.out.put 1 _ _ [.int .i64 op33, .int .i64 at33, .string tx33, .int .i64 vk33, .string nu33, .string vt33, .slice io33 iN33 ic33, .slice yo33 yN33 yc33, .slice no33 nN33 nc33, .slice ko33 kN33 kc33] _ rfl PZ
    refine bodyPost_ret (v := .agg #[.int .i64 op33, .int .i64 at33, .string tx33, .int .i64 vk33, .string nu33, .string vt33, .slice io33 iN33 ic33, .slice yo33 yN33 yc33, .slice no33 nN33 nc33, .slice ko33 kN33 kc33]) (by simp [results, Tryz.results166, go_sem, m0, m1, m2, m3, m4, m5, m6, m7, m8, m9]) rfl ?_
    have hR := HR.out
    refine ⟨HZ.bo.toBt, ?_⟩
    rw [← hR]
    exact ⟨⟨_, rfl, ⟨op33, at33, vk33, tx33, nu33, vt33, io33, yo33, no33, ko33, iN33, ic33, yN33, yc33, nN33, nc33, kN33, kc33⟩, rfl, HZ.t0⟩, HZ.px⟩
   | false =>
    have hR := HR.out
    rw [pThen_ok (a := selfP (hrP ws t3).at_) (t' := t3) (o' := o3) (by (try dsimp only); rw [if_neg (by rw [he]; decide)])] at hR
    (try dsimp only at hR)
    replace HR := hQz hR
    clear hR
    refine (takesF [101, 108, 115, 101] he _ HS9.out.px).mono ?_
    rintro e w8 ⟨rfl, hb⟩
    have HS10 := hQz (HS9.out.keep hb)
    clear hb
    go_wp2_with fail
    refine (leaveX [101, 110, 100] (by have := HK.out; omega) _ HS10.out.px).mono ?_
    rintro e w9 ⟨hb, hm⟩
    have hR := HR.out
    obtain ⟨er, q, hr⟩ | ⟨_x, t8, o8, hr⟩ := pr_cases (pLeave ws nb [101, 110, 100] t3 o3)
    · rw [hr] at hm
      rw [pThen_bad hr] at hR
      obtain rfl : e = .panicked (fcs er q) := hm
      exact ⟨rfl, (HS10.out.bo.trans (Bo.ofBt hb)).toBt, by rw [← hR]⟩
    rw [hr] at hm
    rw [pThen_ok hr] at hR
    (try dsimp only at hR)
    obtain ⟨⟨v, rfl, hE⟩, hp⟩ := hm
    have HL9 := hQz (mv_leave (nb := nb) [101, 110, 100] _ HS10.out.px.pat.le _ _ _ _ hr)
    have HQ9 := hQz hr
    replace HR := hQz hR
    have HS11 := hQz (HS10.out.step hb hp)
    clear hb hp hr hR
    subst hE
    have HLv := HL9
    obtain ⟨c0, c1, c2, c3, c4, c5, c6, c7, c8, c9⟩ := nd_cells HS11.out.bb0
    obtain ⟨ds, hrw, hfl⟩ := HS11.out.waits
    have HWt := hQz (And.intro hrw hfl)
    clear hrw hfl
    go_wp2_with fail
    refine (withinX _ (u4) (Bs) ds (selfP (hrP ws t3).at_) ⟨op31, at31, vk31, tx31, nu31, vt31, io31, yo31, no31, ko31, iN31, ic31, yN31, yc31, nN31, nc31, kN31, kc31⟩ _ HS11.out.dnW HWt.out.1 HWt.out.2 (by have := HK.out; have := HS0.out.px.pat.le; have := HS0.out.px.pat.few; omega) HS11.out.m0).mono ?_
    rintro e w10 ⟨d, rfl, hb, hd⟩
    have HS12 := hQz ((HS11.out.keep hb).add (hd.weak (fun b hb _ => hb)))
    clear hb hd
    obtain ⟨op33, at33, vk33, tx33, nu33, vt33, io33, yo33, no33, ko33, iN33, ic33, yN33, yc33, nN33, nc33, kN33, kc33⟩ := d
    unfold NV.v NV.l
    dsimp only
    clear HWt
    obtain ⟨r0, r1, r2, r3, r4, r5, r6, r7, r8, r9⟩ := nd_cells HS12.out.bb1
    obtain ⟨rf0, rf1, rf2, rf3, rf4, rf5, rf6, rf7, rf8, rf9⟩ := nd_frozen HS12.out.bb1
    go_wp2_with fail
    generalize hzZ : ((((((((((w10).setCell ⟨u.heap.size, 0, none⟩ (.int .i64 op33)).setCell ⟨u.heap.size, 1, none⟩ (.int .i64 at33)).setCell ⟨u.heap.size, 2, none⟩ (.string tx33)).setCell ⟨u.heap.size, 3, none⟩ (.int .i64 vk33)).setCell ⟨u.heap.size, 4, none⟩ (.string nu33)).setCell ⟨u.heap.size, 5, none⟩ (.string vt33)).setCell ⟨u.heap.size, 6, none⟩ (.slice io33 iN33 ic33)).setCell ⟨u.heap.size, 7, none⟩ (.slice yo33 yN33 yc33)).setCell ⟨u.heap.size, 8, none⟩ (.slice no33 nN33 nc33)).setCell ⟨u.heap.size, 9, none⟩ (.slice ko33 kN33 kc33) = WZ
    have PZ := nd_set HS12.out.bb1 hzZ
    obtain ⟨m0, m1, m2, m3, m4, m5, m6, m7, m8, m9⟩ := nd_cells PZ.new
    have HZ := HS12.out.put 1 _ _ [.int .i64 op33, .int .i64 at33, .string tx33, .int .i64 vk33, .string nu33, .string vt33, .slice io33 iN33 ic33, .slice yo33 yN33 yc33, .slice no33 nN33 nc33, .slice ko33 kN33 kc33] _ rfl PZ
    refine bodyPost_ret (v := .agg #[.int .i64 op33, .int .i64 at33, .string tx33, .int .i64 vk33, .string nu33, .string vt33, .slice io33 iN33 ic33, .slice yo33 yN33 yc33, .slice no33 nN33 nc33, .slice ko33 kN33 kc33]) (by simp [results, Tryz.results166, go_sem, m0, m1, m2, m3, m4, m5, m6, m7, m8, m9]) rfl ?_
    have hR := HR.out
    refine ⟨HZ.bo.toBt, ?_⟩
    rw [← hR]
    exact ⟨⟨_, rfl, ⟨op33, at33, vk33, tx33, nu33, vt33, io33, yo33, no33, ko33, iN33, ic33, yN33, yc33, nN33, nc33, kN33, kc33⟩, rfl, HZ.t0⟩, HZ.px⟩
end
end Go.Proofs.YtajnaiddcobkiaaGreatDoor
