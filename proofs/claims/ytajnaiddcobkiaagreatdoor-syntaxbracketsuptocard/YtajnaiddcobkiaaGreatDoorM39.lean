import Derived.Test.YtajnaiddcobkiaaGreatDoorM36
namespace Go.Proofs.YtajnaiddcobkiaaGreatDoor
open Go.RowKit Go.Shelf
set_option linter.unusedVariables false
set_option linter.unusedSimpArgs false
attribute [local go_sem] Oper.semAt_some
set_option maxRecDepth 100000
set_option maxHeartbeats 12800000
theorem kindL {ws : List Tok} {t : Nat} (h : (hrP ws t).kind ≠ 0) : t < ws.length := by
 by_cases hl : t < ws.length
 · exact hl
 · rw [hr_none (by omega)] at h
   exact absurd rfl h
section
variable {B : Nat} {so : Option Addr} {sc : Nat} {ws : List Tok} {nb : Nat} {m : Nat} {P : PM NT} {O : Nat → PM NT}
theorem entryX (h : PO B so sc ws nb (m + 1) P O) : RowC B so sc ws nb 172 (fun rv => #[.pointer (some ⟨B, 0, none⟩), rv]) m (fun ks => entryP ws nb P O ks) := by
 intro D u t o rv Ts ds dn db hx hm hrow hok hlen
 obtain ⟨R, hR⟩ : ∃ R, entryP ws nb P O Ts t o = R := ⟨_, rfl⟩
 dsimp only
 rw [hR]
 unfold entryP at hR
 have HR := hQz hR
 have HPO := hQz h
 have HS0 := hQz (SB.newR (tr := []) hx dn db hrow hok (fun q hq => by simp at hq))
 have HX := hQz (And.intro hx.pat.le (And.intro hx.pat.open_ hx.pat.few))
 have HM := hQz hm
 have HLen := hQz hlen
 have hfl0 := Tryz.fldX0
 have hfl1 := Tryz.fldX1
 have hfl3 := Tryz.fldX3
 clear hR h hx hm dn db hrow hok hlen
 obtain ⟨i0, hi0, hz0, hz1, hz2⟩ := info_parts Tryz.infoN
 have hr0 : ∃ r0, rv.ownBlock = r0 := ⟨_, rfl⟩
 obtain ⟨r0, hr0⟩ := hr0
 rw [hr0] at HS0 ⊢
 clear hr0
 have Htx := hQz (HPO.out.tx t)
 have Hlt := hQz (kindL (ws := ws) (t := t))
 have HH : Hid (∀ u, PX u B so sc ws nb t o → Calls Tryz.prog 80 #[.pointer (some ⟨B, 0, none⟩)] u fun e w' => e = .returned (tokV (hrP ws t)) ∧ Below u.heap.size u w') := fun u hu => hereX u hu
 have HT : Hid ((hrP ws t).kind ≠ 0 → ∀ u, PX u B so sc ws nb t o → Calls Tryz.prog 109 #[.pointer (some ⟨B, 0, none⟩)] u fun e w' => e = .returned (tokV (hrP ws t)) ∧ Bt B u w' ∧ PX w' B so sc ws nb (t + 1) o) := fun h u hu => takeX (kindL h) u hu
 generalize hrP ws t = X at *
 obtain ⟨kd, pa, fi, tx, er⟩ := X
 unfold tokV at HH HT
 dsimp only at HH HT HR Htx Hlt
 by_cases k1 : kd = 1
 · have q1 : ((kd : Int) == 1) = true := by rw [k1]; rfl
   have hkz : kd ≠ 0 := by omega
   have hor : kd = 1 ∨ kd = 2 ∨ kd = 6 ∨ kd = 3 := by omega
   have hR := HR.out
   rw [if_pos hor] at hR
   replace HR := hQz hR
   clear hR
   have HKd := hQz (And.intro hkz hor)
   clear hkz hor k1
   go_enter Tryz.func172, Tryz.ntmps172
   go_wp2_with fail
   refine (HH.out _ HS0.out.px).mono ?_
   rintro e w1 ⟨rfl, hb⟩
   have HS1 := hQz (HS0.out.keep hb)
   clear hb
   obtain ⟨W2, hW2⟩ : ∃ W, w1.alloc (.cells #[.int .i64 (kd : Int), .int .i64 (pa : Int), .int .i64 (fi : Int), .string ⟨tx.toArray⟩] 39) = W := ⟨_, rfl⟩
   have HS2 := hQz (HS1.out.alloc [.int .i64 (kd : Int), .int .i64 (pa : Int), .int .i64 (fi : Int), .string ⟨tx.toArray⟩] 39)
   rw [hW2] at HS2
   obtain ⟨c0, c1, c2, c3⟩ := tb_cells HS2.out.bb0
   go_wp2_with fail
   clear hW2 c0 c1 c2 c3
   refine (HT.out HKd.out.1 _ HS2.out.px).mono ?_
   rintro e w3 ⟨rfl, hb, hp⟩
   have HS3 := hQz (HS2.out.step hb hp)
   clear hb hp
   obtain ⟨c0, c1, c2, c3⟩ := tb_cells HS3.out.bb0
   go_wp2_with fail
   clear c0 c1 c2 c3
   refine (saidX (fun _ => False) ⟨kd, pa, fi, tx, er⟩ (by have := Htx.out; show tx.length ≤ _; omega) _).mono ?_
   rintro e w4 ⟨d, rfl, hb, hd⟩
   have HS4 := hQz ((HS3.out.keep hb).add (hd.weak (fun b hb _ => hb.elim)))
   clear hb hd
   obtain ⟨op21, at21, vk21, tx21, nu21, vt21, io21, yo21, no21, ko21, iN21, ic21, yN21, yc21, nN21, nc21, kN21, kc21⟩ := d
   unfold NV.v NV.l
   dsimp only
   obtain ⟨ds, hrw⟩ := HS4.out.row
   have HRW := hQz hrw
   clear hrw
   go_wp2_with (at_builtin; go_loud (refine wpList_append_own_at _ rfl _ _ 26 rfl 0 28 i0 (.agg #[.int .i64 0, .int .i64 0, .string ⟨#[]⟩, .int .i64 0, .string ⟨#[]⟩, .string ⟨#[]⟩, .slice none 0 0, .slice none 0 0, .slice none 0 0, .slice none 0 0]) 10 168 Tryz.underlying26 hi0 hz0 hz1 hz2 rfl (by decide) (rv) (Ts).length (ds.flatMap NV.l) rfl (HS4.out.ownA HRW.out _) ⟨w4.heap.size, 0, none⟩ 1 1 (NV.l ⟨op21, at21, vk21, tx21, nu21, vt21, io21, yo21, no21, ko21, iN21, ic21, yN21, yc21, nN21, nc21, kN21, kc21⟩) rfl rfl (newsL (heap_alloc_new w4 _)) (one_l _) (by have := (by have := HLen.out; have := HX.out; (try simp only [List.length_append, List.length_cons, List.length_nil]); omega : Ts.length + 1 ≤ 50331648); unfold maxLen; omega) (by have := (by have := HLen.out; have := HX.out; (try simp only [List.length_append, List.length_cons, List.length_nil]); omega : Ts.length + 1 ≤ 50331648); omega) (Nat.zero_le _) ?_))
   intro v1 w5 hown hgrow hnil hat
   have HS5 := hQz ((HS4.out.app HRW.out (Us := [saidP ⟨kd, pa, fi, tx, er⟩]) (es := [⟨op21, at21, vk21, tx21, nu21, vt21, io21, yo21, no21, ko21, iN21, ic21, yN21, yc21, nN21, nc21, kN21, kc21⟩]) rfl (els1 HS4.out.m0) (fun e => by cases e) _ (by simpa using hown) hgrow hat).drop)
   clear hown hgrow hnil hat HRW
   go_wp2_with fail
   obtain ⟨c, hc⟩ : ∃ c, syP ws (t + 1) [58] = c := ⟨_, rfl⟩
   cases c with
   | true =>
    refine (saysX [58] hc _ HS5.out.px).mono ?_
    rintro e w6 ⟨rfl, hb⟩
    have HS6 := hQz (HS5.out.keep hb)
    clear hb
    have hR := HR.out
    rw [if_pos hc] at hR
    replace HR := hQz hR
    clear hR
    go_wp2_with fail
    refine (mustX [58] _ HS6.out.px).mono ?_
    rintro e w7 ⟨hb, hm⟩
    (try dsimp only at hm)
    have hR := HR.out
    obtain ⟨er, q, hr⟩ | ⟨x8, t8, o8, hr⟩ := pr_cases (pMust ws nb [58] (t + 1) o)
    · rw [hr] at hm
      rw [pThen_bad hr] at hR
      obtain rfl : e = .panicked (fcs er q) := hm
      exact ⟨rfl, (HS6.out.bo.trans (Bo.ofBt hb)), by rw [← hR]⟩
    rw [hr] at hm
    rw [pThen_ok hr] at hR
    (try dsimp only at hR)
    obtain ⟨⟨v, rfl, hE⟩, hp⟩ := hm
    have HL7 := hQz (mv_must (nb := nb) [58] _ HS6.out.px.pat.le _ _ _ _ hr)
    have HO7 := hQz (bl_must (nb := nb) [58] _ _ _ _ _ HS6.out.px.pat.open_ hr)
    have HQ7 := hQz hr
    replace HR := hQz hR
    have HS7 := hQz (HS6.out.step hb hp)
    clear hb hp hr hR
    unfold TkE at hE
    subst hE
    obtain ⟨kd8, pa8, fi8, tx8, er8⟩ := x8
    unfold tokV
    (try dsimp only at HR)
    dsimp only
    go_wp2_with fail
    refine (HPO.out.opd 3 (by decide) (by decide) _ _ _ _ HS7.out.dnW HS7.out.dbW HS7.out.px (by have := HL7.out; have := HM.out; have := HM.out; omega)).mono ?_
    rintro e w8 ⟨hb, hm⟩
    (try dsimp only at hm)
    have hR := HR.out
    obtain ⟨er, q, hr⟩ | ⟨T9, t9, o9, hr⟩ := pr_cases (O 3 t8 o8)
    · rw [hr] at hm
      rw [pThen_bad hr] at hR
      obtain rfl : e = .panicked (fcs er q) := hm
      exact ⟨rfl, (HS7.out.bo.trans (Bo.ofBt hb)), by rw [← hR]⟩
    rw [hr] at hm
    rw [pThen_ok hr] at hR
    (try dsimp only at hR)
    obtain ⟨⟨v, rfl, hE⟩, hp⟩ := hm
    have HL8 := hQz (HPO.out.mo 3 (by decide) _ HS7.out.px.pat.le _ _ _ _ hr)
    have HO8 := hQz (HPO.out.bo 3 _ _ _ _ _ HS7.out.px.pat.open_ hr)
    have HQ8 := hQz hr
    replace HR := hQz hR
    have HS8 := hQz (HS7.out.step hb hp)
    clear hb hp hr hR
    obtain ⟨d, rfl, hd⟩ := hE
    have HS9 := hQz (HS8.out.add hd)
    clear hd
    obtain ⟨op9, at9, vk9, tx9, nu9, vt9, io9, yo9, no9, ko9, iN9, ic9, yN9, yc9, nN9, nc9, kN9, kc9⟩ := d
    unfold NV.v NV.l
    dsimp only
    obtain ⟨ds, hrw⟩ := HS9.out.row
    have HRW := hQz hrw
    clear hrw
    go_wp2_with (at_builtin; go_loud (refine wpList_append_own_at _ rfl _ _ 26 rfl 0 28 i0 (.agg #[.int .i64 0, .int .i64 0, .string ⟨#[]⟩, .int .i64 0, .string ⟨#[]⟩, .string ⟨#[]⟩, .slice none 0 0, .slice none 0 0, .slice none 0 0, .slice none 0 0]) 10 168 Tryz.underlying26 hi0 hz0 hz1 hz2 rfl (by decide) (v1) ((Ts ++ [saidP ⟨kd, pa, fi, tx, er⟩])).length (ds.flatMap NV.l) rfl (HS9.out.ownA HRW.out _) ⟨w8.heap.size, 0, none⟩ 1 1 (NV.l ⟨op9, at9, vk9, tx9, nu9, vt9, io9, yo9, no9, ko9, iN9, ic9, yN9, yc9, nN9, nc9, kN9, kc9⟩) rfl rfl (newsL (heap_alloc_new w8 _)) (one_l _) (by have := (by have := HLen.out; have := HX.out; (try simp only [List.length_append, List.length_cons, List.length_nil]); omega : (Ts ++ [saidP ⟨kd, pa, fi, tx, er⟩]).length + 1 ≤ 50331648); unfold maxLen; omega) (by have := (by have := HLen.out; have := HX.out; (try simp only [List.length_append, List.length_cons, List.length_nil]); omega : (Ts ++ [saidP ⟨kd, pa, fi, tx, er⟩]).length + 1 ≤ 50331648); omega) (Nat.zero_le _) ?_))
    intro v2 w9 hown hgrow hnil hat
    have HS10 := hQz ((HS9.out.app HRW.out (Us := [T9]) (es := [⟨op9, at9, vk9, tx9, nu9, vt9, io9, yo9, no9, ko9, iN9, ic9, yN9, yc9, nN9, nc9, kN9, kc9⟩]) rfl (els1 HS9.out.m0) (fun e => by cases e) _ (by simpa using hown) hgrow hat).drop)
    clear hown hgrow hnil hat HRW
    go_wp2_with fail
    refine bodyPost_ret (v := v2) (by simp [results, Tryz.results172, go_sem]) rfl ?_
    have hR := HR.out
    have hLE := HS10.out.px.pat.le
    refine ⟨HS10.out.bo, ?_⟩
    rw [← hR]
    (try rw [show ∀ a b, Ts ++ [a, b] = Ts ++ [a] ++ [b] from fun a b => by simp])
    exact ⟨⟨_, rfl, HS10.out.unbox.toRwE⟩, HS10.out.px, by have := HLen.out; have := HL7.out; have := HL8.out; simp only [List.length_append, List.length_cons, List.length_nil]; omega⟩
   | false =>
    refine (saysX [58] hc _ HS5.out.px).mono ?_
    rintro e w6 ⟨rfl, hb⟩
    have HS6 := hQz (HS5.out.keep hb)
    clear hb
    have hR := HR.out
    rw [if_neg (by rw [hc]; decide)] at hR
    replace HR := hQz hR
    clear hR
    obtain ⟨c0, c1, c2, c3⟩ := tb_cells HS6.out.bb0
    go_wp2_with fail
    clear c0 c1 c2 c3
    refine (shortX _ ⟨kd, pa, fi, tx, er⟩ (by have := Htx.out; show tx.length ≤ _; omega) _ HS6.out.dnW).mono ?_
    rintro e w7 ⟨d, rfl, hb, hd⟩
    have HS7 := hQz ((HS6.out.keep hb).add (hd.weak (fun b hb _ => hb)))
    clear hb hd
    obtain ⟨op22, at22, vk22, tx22, nu22, vt22, io22, yo22, no22, ko22, iN22, ic22, yN22, yc22, nN22, nc22, kN22, kc22⟩ := d
    unfold NV.v NV.l
    dsimp only
    obtain ⟨ds, hrw⟩ := HS7.out.row
    have HRW := hQz hrw
    clear hrw
    go_wp2_with (at_builtin; go_loud (refine wpList_append_own_at _ rfl _ _ 26 rfl 0 28 i0 (.agg #[.int .i64 0, .int .i64 0, .string ⟨#[]⟩, .int .i64 0, .string ⟨#[]⟩, .string ⟨#[]⟩, .slice none 0 0, .slice none 0 0, .slice none 0 0, .slice none 0 0]) 10 168 Tryz.underlying26 hi0 hz0 hz1 hz2 rfl (by decide) (v1) ((Ts ++ [saidP ⟨kd, pa, fi, tx, er⟩])).length (ds.flatMap NV.l) rfl (HS7.out.ownA HRW.out _) ⟨w7.heap.size, 0, none⟩ 1 1 (NV.l ⟨op22, at22, vk22, tx22, nu22, vt22, io22, yo22, no22, ko22, iN22, ic22, yN22, yc22, nN22, nc22, kN22, kc22⟩) rfl rfl (newsL (heap_alloc_new w7 _)) (one_l _) (by have := (by have := HLen.out; have := HX.out; (try simp only [List.length_append, List.length_cons, List.length_nil]); omega : (Ts ++ [saidP ⟨kd, pa, fi, tx, er⟩]).length + 1 ≤ 50331648); unfold maxLen; omega) (by have := (by have := HLen.out; have := HX.out; (try simp only [List.length_append, List.length_cons, List.length_nil]); omega : (Ts ++ [saidP ⟨kd, pa, fi, tx, er⟩]).length + 1 ≤ 50331648); omega) (Nat.zero_le _) ?_))
    intro v2 w8 hown hgrow hnil hat
    have HS8 := hQz ((HS7.out.app HRW.out (Us := [_]) (es := [⟨op22, at22, vk22, tx22, nu22, vt22, io22, yo22, no22, ko22, iN22, ic22, yN22, yc22, nN22, nc22, kN22, kc22⟩]) rfl (els1 HS7.out.m0) (fun e => by cases e) _ (by simpa using hown) hgrow hat).drop)
    clear hown hgrow hnil hat HRW
    go_wp2_with fail
    refine bodyPost_ret (v := v2) (by simp [results, Tryz.results172, go_sem]) rfl ?_
    have hR := HR.out
    have hLE := HS8.out.px.pat.le
    refine ⟨HS8.out.bo, ?_⟩
    rw [← hR]
    (try rw [show ∀ a b, Ts ++ [a, b] = Ts ++ [a] ++ [b] from fun a b => by simp])
    exact ⟨⟨_, rfl, HS8.out.unbox.toRwE⟩, HS8.out.px, by have := HLen.out; skip; simp only [List.length_append, List.length_cons, List.length_nil]; omega⟩
 have q1 : ((kd : Int) == 1) = false := by rw [bqZ]; omega
 by_cases k2 : kd = 2
 · have q2 : ((kd : Int) == 2) = true := by rw [k2]; rfl
   have hkz : kd ≠ 0 := by omega
   have hor : kd = 1 ∨ kd = 2 ∨ kd = 6 ∨ kd = 3 := by omega
   have hR := HR.out
   rw [if_pos hor] at hR
   replace HR := hQz hR
   clear hR
   have HKd := hQz (And.intro hkz hor)
   clear hkz hor k2
   go_enter Tryz.func172, Tryz.ntmps172
   go_wp2_with fail
   refine (HH.out _ HS0.out.px).mono ?_
   rintro e w1 ⟨rfl, hb⟩
   have HS1 := hQz (HS0.out.keep hb)
   clear hb
   obtain ⟨W2, hW2⟩ : ∃ W, w1.alloc (.cells #[.int .i64 (kd : Int), .int .i64 (pa : Int), .int .i64 (fi : Int), .string ⟨tx.toArray⟩] 39) = W := ⟨_, rfl⟩
   have HS2 := hQz (HS1.out.alloc [.int .i64 (kd : Int), .int .i64 (pa : Int), .int .i64 (fi : Int), .string ⟨tx.toArray⟩] 39)
   rw [hW2] at HS2
   obtain ⟨c0, c1, c2, c3⟩ := tb_cells HS2.out.bb0
   go_wp2_with fail
   clear hW2 c0 c1 c2 c3
   refine (HT.out HKd.out.1 _ HS2.out.px).mono ?_
   rintro e w3 ⟨rfl, hb, hp⟩
   have HS3 := hQz (HS2.out.step hb hp)
   clear hb hp
   obtain ⟨c0, c1, c2, c3⟩ := tb_cells HS3.out.bb0
   go_wp2_with fail
   clear c0 c1 c2 c3
   refine (saidX (fun _ => False) ⟨kd, pa, fi, tx, er⟩ (by have := Htx.out; show tx.length ≤ _; omega) _).mono ?_
   rintro e w4 ⟨d, rfl, hb, hd⟩
   have HS4 := hQz ((HS3.out.keep hb).add (hd.weak (fun b hb _ => hb.elim)))
   clear hb hd
   obtain ⟨op21, at21, vk21, tx21, nu21, vt21, io21, yo21, no21, ko21, iN21, ic21, yN21, yc21, nN21, nc21, kN21, kc21⟩ := d
   unfold NV.v NV.l
   dsimp only
   obtain ⟨ds, hrw⟩ := HS4.out.row
   have HRW := hQz hrw
   clear hrw
   go_wp2_with (at_builtin; go_loud (refine wpList_append_own_at _ rfl _ _ 26 rfl 0 28 i0 (.agg #[.int .i64 0, .int .i64 0, .string ⟨#[]⟩, .int .i64 0, .string ⟨#[]⟩, .string ⟨#[]⟩, .slice none 0 0, .slice none 0 0, .slice none 0 0, .slice none 0 0]) 10 168 Tryz.underlying26 hi0 hz0 hz1 hz2 rfl (by decide) (rv) (Ts).length (ds.flatMap NV.l) rfl (HS4.out.ownA HRW.out _) ⟨w4.heap.size, 0, none⟩ 1 1 (NV.l ⟨op21, at21, vk21, tx21, nu21, vt21, io21, yo21, no21, ko21, iN21, ic21, yN21, yc21, nN21, nc21, kN21, kc21⟩) rfl rfl (newsL (heap_alloc_new w4 _)) (one_l _) (by have := (by have := HLen.out; have := HX.out; (try simp only [List.length_append, List.length_cons, List.length_nil]); omega : Ts.length + 1 ≤ 50331648); unfold maxLen; omega) (by have := (by have := HLen.out; have := HX.out; (try simp only [List.length_append, List.length_cons, List.length_nil]); omega : Ts.length + 1 ≤ 50331648); omega) (Nat.zero_le _) ?_))
   intro v1 w5 hown hgrow hnil hat
   have HS5 := hQz ((HS4.out.app HRW.out (Us := [saidP ⟨kd, pa, fi, tx, er⟩]) (es := [⟨op21, at21, vk21, tx21, nu21, vt21, io21, yo21, no21, ko21, iN21, ic21, yN21, yc21, nN21, nc21, kN21, kc21⟩]) rfl (els1 HS4.out.m0) (fun e => by cases e) _ (by simpa using hown) hgrow hat).drop)
   clear hown hgrow hnil hat HRW
   go_wp2_with fail
   obtain ⟨c, hc⟩ : ∃ c, syP ws (t + 1) [58] = c := ⟨_, rfl⟩
   cases c with
   | true =>
    refine (saysX [58] hc _ HS5.out.px).mono ?_
    rintro e w6 ⟨rfl, hb⟩
    have HS6 := hQz (HS5.out.keep hb)
    clear hb
    have hR := HR.out
    rw [if_pos hc] at hR
    replace HR := hQz hR
    clear hR
    go_wp2_with fail
    refine (mustX [58] _ HS6.out.px).mono ?_
    rintro e w7 ⟨hb, hm⟩
    (try dsimp only at hm)
    have hR := HR.out
    obtain ⟨er, q, hr⟩ | ⟨x8, t8, o8, hr⟩ := pr_cases (pMust ws nb [58] (t + 1) o)
    · rw [hr] at hm
      rw [pThen_bad hr] at hR
      obtain rfl : e = .panicked (fcs er q) := hm
      exact ⟨rfl, (HS6.out.bo.trans (Bo.ofBt hb)), by rw [← hR]⟩
    rw [hr] at hm
    rw [pThen_ok hr] at hR
    (try dsimp only at hR)
    obtain ⟨⟨v, rfl, hE⟩, hp⟩ := hm
    have HL7 := hQz (mv_must (nb := nb) [58] _ HS6.out.px.pat.le _ _ _ _ hr)
    have HO7 := hQz (bl_must (nb := nb) [58] _ _ _ _ _ HS6.out.px.pat.open_ hr)
    have HQ7 := hQz hr
    replace HR := hQz hR
    have HS7 := hQz (HS6.out.step hb hp)
    clear hb hp hr hR
    unfold TkE at hE
    subst hE
    obtain ⟨kd8, pa8, fi8, tx8, er8⟩ := x8
    unfold tokV
    (try dsimp only at HR)
    dsimp only
    go_wp2_with fail
    refine (HPO.out.opd 3 (by decide) (by decide) _ _ _ _ HS7.out.dnW HS7.out.dbW HS7.out.px (by have := HL7.out; have := HM.out; have := HM.out; omega)).mono ?_
    rintro e w8 ⟨hb, hm⟩
    (try dsimp only at hm)
    have hR := HR.out
    obtain ⟨er, q, hr⟩ | ⟨T9, t9, o9, hr⟩ := pr_cases (O 3 t8 o8)
    · rw [hr] at hm
      rw [pThen_bad hr] at hR
      obtain rfl : e = .panicked (fcs er q) := hm
      exact ⟨rfl, (HS7.out.bo.trans (Bo.ofBt hb)), by rw [← hR]⟩
    rw [hr] at hm
    rw [pThen_ok hr] at hR
    (try dsimp only at hR)
    obtain ⟨⟨v, rfl, hE⟩, hp⟩ := hm
    have HL8 := hQz (HPO.out.mo 3 (by decide) _ HS7.out.px.pat.le _ _ _ _ hr)
    have HO8 := hQz (HPO.out.bo 3 _ _ _ _ _ HS7.out.px.pat.open_ hr)
    have HQ8 := hQz hr
    replace HR := hQz hR
    have HS8 := hQz (HS7.out.step hb hp)
    clear hb hp hr hR
    obtain ⟨d, rfl, hd⟩ := hE
    have HS9 := hQz (HS8.out.add hd)
    clear hd
    obtain ⟨op9, at9, vk9, tx9, nu9, vt9, io9, yo9, no9, ko9, iN9, ic9, yN9, yc9, nN9, nc9, kN9, kc9⟩ := d
    unfold NV.v NV.l
    dsimp only
    obtain ⟨ds, hrw⟩ := HS9.out.row
    have HRW := hQz hrw
    clear hrw
    go_wp2_with (at_builtin; go_loud (refine wpList_append_own_at _ rfl _ _ 26 rfl 0 28 i0 (.agg #[.int .i64 0, .int .i64 0, .string ⟨#[]⟩, .int .i64 0, .string ⟨#[]⟩, .string ⟨#[]⟩, .slice none 0 0, .slice none 0 0, .slice none 0 0, .slice none 0 0]) 10 168 Tryz.underlying26 hi0 hz0 hz1 hz2 rfl (by decide) (v1) ((Ts ++ [saidP ⟨kd, pa, fi, tx, er⟩])).length (ds.flatMap NV.l) rfl (HS9.out.ownA HRW.out _) ⟨w8.heap.size, 0, none⟩ 1 1 (NV.l ⟨op9, at9, vk9, tx9, nu9, vt9, io9, yo9, no9, ko9, iN9, ic9, yN9, yc9, nN9, nc9, kN9, kc9⟩) rfl rfl (newsL (heap_alloc_new w8 _)) (one_l _) (by have := (by have := HLen.out; have := HX.out; (try simp only [List.length_append, List.length_cons, List.length_nil]); omega : (Ts ++ [saidP ⟨kd, pa, fi, tx, er⟩]).length + 1 ≤ 50331648); unfold maxLen; omega) (by have := (by have := HLen.out; have := HX.out; (try simp only [List.length_append, List.length_cons, List.length_nil]); omega : (Ts ++ [saidP ⟨kd, pa, fi, tx, er⟩]).length + 1 ≤ 50331648); omega) (Nat.zero_le _) ?_))
    intro v2 w9 hown hgrow hnil hat
    have HS10 := hQz ((HS9.out.app HRW.out (Us := [T9]) (es := [⟨op9, at9, vk9, tx9, nu9, vt9, io9, yo9, no9, ko9, iN9, ic9, yN9, yc9, nN9, nc9, kN9, kc9⟩]) rfl (els1 HS9.out.m0) (fun e => by cases e) _ (by simpa using hown) hgrow hat).drop)
    clear hown hgrow hnil hat HRW
    go_wp2_with fail
    refine bodyPost_ret (v := v2) (by simp [results, Tryz.results172, go_sem]) rfl ?_
    have hR := HR.out
    have hLE := HS10.out.px.pat.le
    refine ⟨HS10.out.bo, ?_⟩
    rw [← hR]
    (try rw [show ∀ a b, Ts ++ [a, b] = Ts ++ [a] ++ [b] from fun a b => by simp])
    exact ⟨⟨_, rfl, HS10.out.unbox.toRwE⟩, HS10.out.px, by have := HLen.out; have := HL7.out; have := HL8.out; simp only [List.length_append, List.length_cons, List.length_nil]; omega⟩
   | false =>
    refine (saysX [58] hc _ HS5.out.px).mono ?_
    rintro e w6 ⟨rfl, hb⟩
    have HS6 := hQz (HS5.out.keep hb)
    clear hb
    have hR := HR.out
    rw [if_neg (by rw [hc]; decide)] at hR
    replace HR := hQz hR
    clear hR
    obtain ⟨c0, c1, c2, c3⟩ := tb_cells HS6.out.bb0
    go_wp2_with fail
    clear c0 c1 c2 c3
    refine (shortX _ ⟨kd, pa, fi, tx, er⟩ (by have := Htx.out; show tx.length ≤ _; omega) _ HS6.out.dnW).mono ?_
    rintro e w7 ⟨d, rfl, hb, hd⟩
    have HS7 := hQz ((HS6.out.keep hb).add (hd.weak (fun b hb _ => hb)))
    clear hb hd
    obtain ⟨op22, at22, vk22, tx22, nu22, vt22, io22, yo22, no22, ko22, iN22, ic22, yN22, yc22, nN22, nc22, kN22, kc22⟩ := d
    unfold NV.v NV.l
    dsimp only
    obtain ⟨ds, hrw⟩ := HS7.out.row
    have HRW := hQz hrw
    clear hrw
    go_wp2_with (at_builtin; go_loud (refine wpList_append_own_at _ rfl _ _ 26 rfl 0 28 i0 (.agg #[.int .i64 0, .int .i64 0, .string ⟨#[]⟩, .int .i64 0, .string ⟨#[]⟩, .string ⟨#[]⟩, .slice none 0 0, .slice none 0 0, .slice none 0 0, .slice none 0 0]) 10 168 Tryz.underlying26 hi0 hz0 hz1 hz2 rfl (by decide) (v1) ((Ts ++ [saidP ⟨kd, pa, fi, tx, er⟩])).length (ds.flatMap NV.l) rfl (HS7.out.ownA HRW.out _) ⟨w7.heap.size, 0, none⟩ 1 1 (NV.l ⟨op22, at22, vk22, tx22, nu22, vt22, io22, yo22, no22, ko22, iN22, ic22, yN22, yc22, nN22, nc22, kN22, kc22⟩) rfl rfl (newsL (heap_alloc_new w7 _)) (one_l _) (by have := (by have := HLen.out; have := HX.out; (try simp only [List.length_append, List.length_cons, List.length_nil]); omega : (Ts ++ [saidP ⟨kd, pa, fi, tx, er⟩]).length + 1 ≤ 50331648); unfold maxLen; omega) (by have := (by have := HLen.out; have := HX.out; (try simp only [List.length_append, List.length_cons, List.length_nil]); omega : (Ts ++ [saidP ⟨kd, pa, fi, tx, er⟩]).length + 1 ≤ 50331648); omega) (Nat.zero_le _) ?_))
    intro v2 w8 hown hgrow hnil hat
    have HS8 := hQz ((HS7.out.app HRW.out (Us := [_]) (es := [⟨op22, at22, vk22, tx22, nu22, vt22, io22, yo22, no22, ko22, iN22, ic22, yN22, yc22, nN22, nc22, kN22, kc22⟩]) rfl (els1 HS7.out.m0) (fun e => by cases e) _ (by simpa using hown) hgrow hat).drop)
    clear hown hgrow hnil hat HRW
    go_wp2_with fail
    refine bodyPost_ret (v := v2) (by simp [results, Tryz.results172, go_sem]) rfl ?_
    have hR := HR.out
    have hLE := HS8.out.px.pat.le
    refine ⟨HS8.out.bo, ?_⟩
    rw [← hR]
    (try rw [show ∀ a b, Ts ++ [a, b] = Ts ++ [a] ++ [b] from fun a b => by simp])
    exact ⟨⟨_, rfl, HS8.out.unbox.toRwE⟩, HS8.out.px, by have := HLen.out; skip; simp only [List.length_append, List.length_cons, List.length_nil]; omega⟩
 have q2 : ((kd : Int) == 2) = false := by rw [bqZ]; omega
 by_cases k6 : kd = 6
 · have q6 : ((kd : Int) == 6) = true := by rw [k6]; rfl
   have hkz : kd ≠ 0 := by omega
   have hor : kd = 1 ∨ kd = 2 ∨ kd = 6 ∨ kd = 3 := by omega
   have hR := HR.out
   rw [if_pos hor] at hR
   replace HR := hQz hR
   clear hR
   have HKd := hQz (And.intro hkz hor)
   clear hkz hor k6
   go_enter Tryz.func172, Tryz.ntmps172
   go_wp2_with fail
   refine (HH.out _ HS0.out.px).mono ?_
   rintro e w1 ⟨rfl, hb⟩
   have HS1 := hQz (HS0.out.keep hb)
   clear hb
   obtain ⟨W2, hW2⟩ : ∃ W, w1.alloc (.cells #[.int .i64 (kd : Int), .int .i64 (pa : Int), .int .i64 (fi : Int), .string ⟨tx.toArray⟩] 39) = W := ⟨_, rfl⟩
   have HS2 := hQz (HS1.out.alloc [.int .i64 (kd : Int), .int .i64 (pa : Int), .int .i64 (fi : Int), .string ⟨tx.toArray⟩] 39)
   rw [hW2] at HS2
   obtain ⟨c0, c1, c2, c3⟩ := tb_cells HS2.out.bb0
   go_wp2_with fail
   clear hW2 c0 c1 c2 c3
   refine (HT.out HKd.out.1 _ HS2.out.px).mono ?_
   rintro e w3 ⟨rfl, hb, hp⟩
   have HS3 := hQz (HS2.out.step hb hp)
   clear hb hp
   obtain ⟨c0, c1, c2, c3⟩ := tb_cells HS3.out.bb0
   go_wp2_with fail
   clear c0 c1 c2 c3
   refine (saidX (fun _ => False) ⟨kd, pa, fi, tx, er⟩ (by have := Htx.out; show tx.length ≤ _; omega) _).mono ?_
   rintro e w4 ⟨d, rfl, hb, hd⟩
   have HS4 := hQz ((HS3.out.keep hb).add (hd.weak (fun b hb _ => hb.elim)))
   clear hb hd
   obtain ⟨op21, at21, vk21, tx21, nu21, vt21, io21, yo21, no21, ko21, iN21, ic21, yN21, yc21, nN21, nc21, kN21, kc21⟩ := d
   unfold NV.v NV.l
   dsimp only
   obtain ⟨ds, hrw⟩ := HS4.out.row
   have HRW := hQz hrw
   clear hrw
   go_wp2_with (at_builtin; go_loud (refine wpList_append_own_at _ rfl _ _ 26 rfl 0 28 i0 (.agg #[.int .i64 0, .int .i64 0, .string ⟨#[]⟩, .int .i64 0, .string ⟨#[]⟩, .string ⟨#[]⟩, .slice none 0 0, .slice none 0 0, .slice none 0 0, .slice none 0 0]) 10 168 Tryz.underlying26 hi0 hz0 hz1 hz2 rfl (by decide) (rv) (Ts).length (ds.flatMap NV.l) rfl (HS4.out.ownA HRW.out _) ⟨w4.heap.size, 0, none⟩ 1 1 (NV.l ⟨op21, at21, vk21, tx21, nu21, vt21, io21, yo21, no21, ko21, iN21, ic21, yN21, yc21, nN21, nc21, kN21, kc21⟩) rfl rfl (newsL (heap_alloc_new w4 _)) (one_l _) (by have := (by have := HLen.out; have := HX.out; (try simp only [List.length_append, List.length_cons, List.length_nil]); omega : Ts.length + 1 ≤ 50331648); unfold maxLen; omega) (by have := (by have := HLen.out; have := HX.out; (try simp only [List.length_append, List.length_cons, List.length_nil]); omega : Ts.length + 1 ≤ 50331648); omega) (Nat.zero_le _) ?_))
   intro v1 w5 hown hgrow hnil hat
   have HS5 := hQz ((HS4.out.app HRW.out (Us := [saidP ⟨kd, pa, fi, tx, er⟩]) (es := [⟨op21, at21, vk21, tx21, nu21, vt21, io21, yo21, no21, ko21, iN21, ic21, yN21, yc21, nN21, nc21, kN21, kc21⟩]) rfl (els1 HS4.out.m0) (fun e => by cases e) _ (by simpa using hown) hgrow hat).drop)
   clear hown hgrow hnil hat HRW
   go_wp2_with fail
   obtain ⟨c, hc⟩ : ∃ c, syP ws (t + 1) [58] = c := ⟨_, rfl⟩
   cases c with
   | true =>
    refine (saysX [58] hc _ HS5.out.px).mono ?_
    rintro e w6 ⟨rfl, hb⟩
    have HS6 := hQz (HS5.out.keep hb)
    clear hb
    have hR := HR.out
    rw [if_pos hc] at hR
    replace HR := hQz hR
    clear hR
    go_wp2_with fail
    refine (mustX [58] _ HS6.out.px).mono ?_
    rintro e w7 ⟨hb, hm⟩
    (try dsimp only at hm)
    have hR := HR.out
    obtain ⟨er, q, hr⟩ | ⟨x8, t8, o8, hr⟩ := pr_cases (pMust ws nb [58] (t + 1) o)
    · rw [hr] at hm
      rw [pThen_bad hr] at hR
      obtain rfl : e = .panicked (fcs er q) := hm
      exact ⟨rfl, (HS6.out.bo.trans (Bo.ofBt hb)), by rw [← hR]⟩
    rw [hr] at hm
    rw [pThen_ok hr] at hR
    (try dsimp only at hR)
    obtain ⟨⟨v, rfl, hE⟩, hp⟩ := hm
    have HL7 := hQz (mv_must (nb := nb) [58] _ HS6.out.px.pat.le _ _ _ _ hr)
    have HO7 := hQz (bl_must (nb := nb) [58] _ _ _ _ _ HS6.out.px.pat.open_ hr)
    have HQ7 := hQz hr
    replace HR := hQz hR
    have HS7 := hQz (HS6.out.step hb hp)
    clear hb hp hr hR
    unfold TkE at hE
    subst hE
    obtain ⟨kd8, pa8, fi8, tx8, er8⟩ := x8
    unfold tokV
    (try dsimp only at HR)
    dsimp only
    go_wp2_with fail
    refine (HPO.out.opd 3 (by decide) (by decide) _ _ _ _ HS7.out.dnW HS7.out.dbW HS7.out.px (by have := HL7.out; have := HM.out; have := HM.out; omega)).mono ?_
    rintro e w8 ⟨hb, hm⟩
    (try dsimp only at hm)
    have hR := HR.out
    obtain ⟨er, q, hr⟩ | ⟨T9, t9, o9, hr⟩ := pr_cases (O 3 t8 o8)
    · rw [hr] at hm
      rw [pThen_bad hr] at hR
      obtain rfl : e = .panicked (fcs er q) := hm
      exact ⟨rfl, (HS7.out.bo.trans (Bo.ofBt hb)), by rw [← hR]⟩
    rw [hr] at hm
    rw [pThen_ok hr] at hR
    (try dsimp only at hR)
    obtain ⟨⟨v, rfl, hE⟩, hp⟩ := hm
    have HL8 := hQz (HPO.out.mo 3 (by decide) _ HS7.out.px.pat.le _ _ _ _ hr)
    have HO8 := hQz (HPO.out.bo 3 _ _ _ _ _ HS7.out.px.pat.open_ hr)
    have HQ8 := hQz hr
    replace HR := hQz hR
    have HS8 := hQz (HS7.out.step hb hp)
    clear hb hp hr hR
    obtain ⟨d, rfl, hd⟩ := hE
    have HS9 := hQz (HS8.out.add hd)
    clear hd
    obtain ⟨op9, at9, vk9, tx9, nu9, vt9, io9, yo9, no9, ko9, iN9, ic9, yN9, yc9, nN9, nc9, kN9, kc9⟩ := d
    unfold NV.v NV.l
    dsimp only
    obtain ⟨ds, hrw⟩ := HS9.out.row
    have HRW := hQz hrw
    clear hrw
    go_wp2_with (at_builtin; go_loud (refine wpList_append_own_at _ rfl _ _ 26 rfl 0 28 i0 (.agg #[.int .i64 0, .int .i64 0, .string ⟨#[]⟩, .int .i64 0, .string ⟨#[]⟩, .string ⟨#[]⟩, .slice none 0 0, .slice none 0 0, .slice none 0 0, .slice none 0 0]) 10 168 Tryz.underlying26 hi0 hz0 hz1 hz2 rfl (by decide) (v1) ((Ts ++ [saidP ⟨kd, pa, fi, tx, er⟩])).length (ds.flatMap NV.l) rfl (HS9.out.ownA HRW.out _) ⟨w8.heap.size, 0, none⟩ 1 1 (NV.l ⟨op9, at9, vk9, tx9, nu9, vt9, io9, yo9, no9, ko9, iN9, ic9, yN9, yc9, nN9, nc9, kN9, kc9⟩) rfl rfl (newsL (heap_alloc_new w8 _)) (one_l _) (by have := (by have := HLen.out; have := HX.out; (try simp only [List.length_append, List.length_cons, List.length_nil]); omega : (Ts ++ [saidP ⟨kd, pa, fi, tx, er⟩]).length + 1 ≤ 50331648); unfold maxLen; omega) (by have := (by have := HLen.out; have := HX.out; (try simp only [List.length_append, List.length_cons, List.length_nil]); omega : (Ts ++ [saidP ⟨kd, pa, fi, tx, er⟩]).length + 1 ≤ 50331648); omega) (Nat.zero_le _) ?_))
    intro v2 w9 hown hgrow hnil hat
    have HS10 := hQz ((HS9.out.app HRW.out (Us := [T9]) (es := [⟨op9, at9, vk9, tx9, nu9, vt9, io9, yo9, no9, ko9, iN9, ic9, yN9, yc9, nN9, nc9, kN9, kc9⟩]) rfl (els1 HS9.out.m0) (fun e => by cases e) _ (by simpa using hown) hgrow hat).drop)
    clear hown hgrow hnil hat HRW
    go_wp2_with fail
    refine bodyPost_ret (v := v2) (by simp [results, Tryz.results172, go_sem]) rfl ?_
    have hR := HR.out
    have hLE := HS10.out.px.pat.le
    refine ⟨HS10.out.bo, ?_⟩
    rw [← hR]
    (try rw [show ∀ a b, Ts ++ [a, b] = Ts ++ [a] ++ [b] from fun a b => by simp])
    exact ⟨⟨_, rfl, HS10.out.unbox.toRwE⟩, HS10.out.px, by have := HLen.out; have := HL7.out; have := HL8.out; simp only [List.length_append, List.length_cons, List.length_nil]; omega⟩
   | false =>
    refine (saysX [58] hc _ HS5.out.px).mono ?_
    rintro e w6 ⟨rfl, hb⟩
    have HS6 := hQz (HS5.out.keep hb)
    clear hb
    have hR := HR.out
    rw [if_neg (by rw [hc]; decide)] at hR
    replace HR := hQz hR
    clear hR
    obtain ⟨c0, c1, c2, c3⟩ := tb_cells HS6.out.bb0
    go_wp2_with fail
    clear c0 c1 c2 c3
    refine (shortX _ ⟨kd, pa, fi, tx, er⟩ (by have := Htx.out; show tx.length ≤ _; omega) _ HS6.out.dnW).mono ?_
    rintro e w7 ⟨d, rfl, hb, hd⟩
    have HS7 := hQz ((HS6.out.keep hb).add (hd.weak (fun b hb _ => hb)))
    clear hb hd
    obtain ⟨op22, at22, vk22, tx22, nu22, vt22, io22, yo22, no22, ko22, iN22, ic22, yN22, yc22, nN22, nc22, kN22, kc22⟩ := d
    unfold NV.v NV.l
    dsimp only
    obtain ⟨ds, hrw⟩ := HS7.out.row
    have HRW := hQz hrw
    clear hrw
    go_wp2_with (at_builtin; go_loud (refine wpList_append_own_at _ rfl _ _ 26 rfl 0 28 i0 (.agg #[.int .i64 0, .int .i64 0, .string ⟨#[]⟩, .int .i64 0, .string ⟨#[]⟩, .string ⟨#[]⟩, .slice none 0 0, .slice none 0 0, .slice none 0 0, .slice none 0 0]) 10 168 Tryz.underlying26 hi0 hz0 hz1 hz2 rfl (by decide) (v1) ((Ts ++ [saidP ⟨kd, pa, fi, tx, er⟩])).length (ds.flatMap NV.l) rfl (HS7.out.ownA HRW.out _) ⟨w7.heap.size, 0, none⟩ 1 1 (NV.l ⟨op22, at22, vk22, tx22, nu22, vt22, io22, yo22, no22, ko22, iN22, ic22, yN22, yc22, nN22, nc22, kN22, kc22⟩) rfl rfl (newsL (heap_alloc_new w7 _)) (one_l _) (by have := (by have := HLen.out; have := HX.out; (try simp only [List.length_append, List.length_cons, List.length_nil]); omega : (Ts ++ [saidP ⟨kd, pa, fi, tx, er⟩]).length + 1 ≤ 50331648); unfold maxLen; omega) (by have := (by have := HLen.out; have := HX.out; (try simp only [List.length_append, List.length_cons, List.length_nil]); omega : (Ts ++ [saidP ⟨kd, pa, fi, tx, er⟩]).length + 1 ≤ 50331648); omega) (Nat.zero_le _) ?_))
    intro v2 w8 hown hgrow hnil hat
    have HS8 := hQz ((HS7.out.app HRW.out (Us := [_]) (es := [⟨op22, at22, vk22, tx22, nu22, vt22, io22, yo22, no22, ko22, iN22, ic22, yN22, yc22, nN22, nc22, kN22, kc22⟩]) rfl (els1 HS7.out.m0) (fun e => by cases e) _ (by simpa using hown) hgrow hat).drop)
    clear hown hgrow hnil hat HRW
    go_wp2_with fail
    refine bodyPost_ret (v := v2) (by simp [results, Tryz.results172, go_sem]) rfl ?_
    have hR := HR.out
    have hLE := HS8.out.px.pat.le
    refine ⟨HS8.out.bo, ?_⟩
    rw [← hR]
    (try rw [show ∀ a b, Ts ++ [a, b] = Ts ++ [a] ++ [b] from fun a b => by simp])
    exact ⟨⟨_, rfl, HS8.out.unbox.toRwE⟩, HS8.out.px, by have := HLen.out; skip; simp only [List.length_append, List.length_cons, List.length_nil]; omega⟩
 have q6 : ((kd : Int) == 6) = false := by rw [bqZ]; omega
 by_cases k3 : kd = 3
 · have q3 : ((kd : Int) == 3) = true := by rw [k3]; rfl
   have hkz : kd ≠ 0 := by omega
   have hor : kd = 1 ∨ kd = 2 ∨ kd = 6 ∨ kd = 3 := by omega
   have hR := HR.out
   rw [if_pos hor] at hR
   replace HR := hQz hR
   clear hR
   have HKd := hQz (And.intro hkz hor)
   clear hkz hor k3
   go_enter Tryz.func172, Tryz.ntmps172
   go_wp2_with fail
   refine (HH.out _ HS0.out.px).mono ?_
   rintro e w1 ⟨rfl, hb⟩
   have HS1 := hQz (HS0.out.keep hb)
   clear hb
   obtain ⟨W2, hW2⟩ : ∃ W, w1.alloc (.cells #[.int .i64 (kd : Int), .int .i64 (pa : Int), .int .i64 (fi : Int), .string ⟨tx.toArray⟩] 39) = W := ⟨_, rfl⟩
   have HS2 := hQz (HS1.out.alloc [.int .i64 (kd : Int), .int .i64 (pa : Int), .int .i64 (fi : Int), .string ⟨tx.toArray⟩] 39)
   rw [hW2] at HS2
   obtain ⟨c0, c1, c2, c3⟩ := tb_cells HS2.out.bb0
   go_wp2_with fail
   clear hW2 c0 c1 c2 c3
   refine (HT.out HKd.out.1 _ HS2.out.px).mono ?_
   rintro e w3 ⟨rfl, hb, hp⟩
   have HS3 := hQz (HS2.out.step hb hp)
   clear hb hp
   obtain ⟨c0, c1, c2, c3⟩ := tb_cells HS3.out.bb0
   go_wp2_with fail
   clear c0 c1 c2 c3
   refine (saidX (fun _ => False) ⟨kd, pa, fi, tx, er⟩ (by have := Htx.out; show tx.length ≤ _; omega) _).mono ?_
   rintro e w4 ⟨d, rfl, hb, hd⟩
   have HS4 := hQz ((HS3.out.keep hb).add (hd.weak (fun b hb _ => hb.elim)))
   clear hb hd
   obtain ⟨op21, at21, vk21, tx21, nu21, vt21, io21, yo21, no21, ko21, iN21, ic21, yN21, yc21, nN21, nc21, kN21, kc21⟩ := d
   unfold NV.v NV.l
   dsimp only
   obtain ⟨ds, hrw⟩ := HS4.out.row
   have HRW := hQz hrw
   clear hrw
   go_wp2_with (at_builtin; go_loud (refine wpList_append_own_at _ rfl _ _ 26 rfl 0 28 i0 (.agg #[.int .i64 0, .int .i64 0, .string ⟨#[]⟩, .int .i64 0, .string ⟨#[]⟩, .string ⟨#[]⟩, .slice none 0 0, .slice none 0 0, .slice none 0 0, .slice none 0 0]) 10 168 Tryz.underlying26 hi0 hz0 hz1 hz2 rfl (by decide) (rv) (Ts).length (ds.flatMap NV.l) rfl (HS4.out.ownA HRW.out _) ⟨w4.heap.size, 0, none⟩ 1 1 (NV.l ⟨op21, at21, vk21, tx21, nu21, vt21, io21, yo21, no21, ko21, iN21, ic21, yN21, yc21, nN21, nc21, kN21, kc21⟩) rfl rfl (newsL (heap_alloc_new w4 _)) (one_l _) (by have := (by have := HLen.out; have := HX.out; (try simp only [List.length_append, List.length_cons, List.length_nil]); omega : Ts.length + 1 ≤ 50331648); unfold maxLen; omega) (by have := (by have := HLen.out; have := HX.out; (try simp only [List.length_append, List.length_cons, List.length_nil]); omega : Ts.length + 1 ≤ 50331648); omega) (Nat.zero_le _) ?_))
   intro v1 w5 hown hgrow hnil hat
   have HS5 := hQz ((HS4.out.app HRW.out (Us := [saidP ⟨kd, pa, fi, tx, er⟩]) (es := [⟨op21, at21, vk21, tx21, nu21, vt21, io21, yo21, no21, ko21, iN21, ic21, yN21, yc21, nN21, nc21, kN21, kc21⟩]) rfl (els1 HS4.out.m0) (fun e => by cases e) _ (by simpa using hown) hgrow hat).drop)
   clear hown hgrow hnil hat HRW
   go_wp2_with fail
   obtain ⟨c, hc⟩ : ∃ c, syP ws (t + 1) [58] = c := ⟨_, rfl⟩
   cases c with
   | true =>
    refine (saysX [58] hc _ HS5.out.px).mono ?_
    rintro e w6 ⟨rfl, hb⟩
    have HS6 := hQz (HS5.out.keep hb)
    clear hb
    have hR := HR.out
    rw [if_pos hc] at hR
    replace HR := hQz hR
    clear hR
    go_wp2_with fail
    refine (mustX [58] _ HS6.out.px).mono ?_
    rintro e w7 ⟨hb, hm⟩
    (try dsimp only at hm)
    have hR := HR.out
    obtain ⟨er, q, hr⟩ | ⟨x8, t8, o8, hr⟩ := pr_cases (pMust ws nb [58] (t + 1) o)
    · rw [hr] at hm
      rw [pThen_bad hr] at hR
      obtain rfl : e = .panicked (fcs er q) := hm
      exact ⟨rfl, (HS6.out.bo.trans (Bo.ofBt hb)), by rw [← hR]⟩
    rw [hr] at hm
    rw [pThen_ok hr] at hR
    (try dsimp only at hR)
    obtain ⟨⟨v, rfl, hE⟩, hp⟩ := hm
    have HL7 := hQz (mv_must (nb := nb) [58] _ HS6.out.px.pat.le _ _ _ _ hr)
    have HO7 := hQz (bl_must (nb := nb) [58] _ _ _ _ _ HS6.out.px.pat.open_ hr)
    have HQ7 := hQz hr
    replace HR := hQz hR
    have HS7 := hQz (HS6.out.step hb hp)
    clear hb hp hr hR
    unfold TkE at hE
    subst hE
    obtain ⟨kd8, pa8, fi8, tx8, er8⟩ := x8
    unfold tokV
    (try dsimp only at HR)
    dsimp only
    go_wp2_with fail
    refine (HPO.out.opd 3 (by decide) (by decide) _ _ _ _ HS7.out.dnW HS7.out.dbW HS7.out.px (by have := HL7.out; have := HM.out; have := HM.out; omega)).mono ?_
    rintro e w8 ⟨hb, hm⟩
    (try dsimp only at hm)
    have hR := HR.out
    obtain ⟨er, q, hr⟩ | ⟨T9, t9, o9, hr⟩ := pr_cases (O 3 t8 o8)
    · rw [hr] at hm
      rw [pThen_bad hr] at hR
      obtain rfl : e = .panicked (fcs er q) := hm
      exact ⟨rfl, (HS7.out.bo.trans (Bo.ofBt hb)), by rw [← hR]⟩
    rw [hr] at hm
    rw [pThen_ok hr] at hR
    (try dsimp only at hR)
    obtain ⟨⟨v, rfl, hE⟩, hp⟩ := hm
    have HL8 := hQz (HPO.out.mo 3 (by decide) _ HS7.out.px.pat.le _ _ _ _ hr)
    have HO8 := hQz (HPO.out.bo 3 _ _ _ _ _ HS7.out.px.pat.open_ hr)
    have HQ8 := hQz hr
    replace HR := hQz hR
    have HS8 := hQz (HS7.out.step hb hp)
    clear hb hp hr hR
    obtain ⟨d, rfl, hd⟩ := hE
    have HS9 := hQz (HS8.out.add hd)
    clear hd
    obtain ⟨op9, at9, vk9, tx9, nu9, vt9, io9, yo9, no9, ko9, iN9, ic9, yN9, yc9, nN9, nc9, kN9, kc9⟩ := d
    unfold NV.v NV.l
    dsimp only
    obtain ⟨ds, hrw⟩ := HS9.out.row
    have HRW := hQz hrw
    clear hrw
    go_wp2_with (at_builtin; go_loud (refine wpList_append_own_at _ rfl _ _ 26 rfl 0 28 i0 (.agg #[.int .i64 0, .int .i64 0, .string ⟨#[]⟩, .int .i64 0, .string ⟨#[]⟩, .string ⟨#[]⟩, .slice none 0 0, .slice none 0 0, .slice none 0 0, .slice none 0 0]) 10 168 Tryz.underlying26 hi0 hz0 hz1 hz2 rfl (by decide) (v1) ((Ts ++ [saidP ⟨kd, pa, fi, tx, er⟩])).length (ds.flatMap NV.l) rfl (HS9.out.ownA HRW.out _) ⟨w8.heap.size, 0, none⟩ 1 1 (NV.l ⟨op9, at9, vk9, tx9, nu9, vt9, io9, yo9, no9, ko9, iN9, ic9, yN9, yc9, nN9, nc9, kN9, kc9⟩) rfl rfl (newsL (heap_alloc_new w8 _)) (one_l _) (by have := (by have := HLen.out; have := HX.out; (try simp only [List.length_append, List.length_cons, List.length_nil]); omega : (Ts ++ [saidP ⟨kd, pa, fi, tx, er⟩]).length + 1 ≤ 50331648); unfold maxLen; omega) (by have := (by have := HLen.out; have := HX.out; (try simp only [List.length_append, List.length_cons, List.length_nil]); omega : (Ts ++ [saidP ⟨kd, pa, fi, tx, er⟩]).length + 1 ≤ 50331648); omega) (Nat.zero_le _) ?_))
    intro v2 w9 hown hgrow hnil hat
    have HS10 := hQz ((HS9.out.app HRW.out (Us := [T9]) (es := [⟨op9, at9, vk9, tx9, nu9, vt9, io9, yo9, no9, ko9, iN9, ic9, yN9, yc9, nN9, nc9, kN9, kc9⟩]) rfl (els1 HS9.out.m0) (fun e => by cases e) _ (by simpa using hown) hgrow hat).drop)
    clear hown hgrow hnil hat HRW
    go_wp2_with fail
    refine bodyPost_ret (v := v2) (by simp [results, Tryz.results172, go_sem]) rfl ?_
    have hR := HR.out
    have hLE := HS10.out.px.pat.le
    refine ⟨HS10.out.bo, ?_⟩
    rw [← hR]
    (try rw [show ∀ a b, Ts ++ [a, b] = Ts ++ [a] ++ [b] from fun a b => by simp])
    exact ⟨⟨_, rfl, HS10.out.unbox.toRwE⟩, HS10.out.px, by have := HLen.out; have := HL7.out; have := HL8.out; simp only [List.length_append, List.length_cons, List.length_nil]; omega⟩
   | false =>
    refine (saysX [58] hc _ HS5.out.px).mono ?_
    rintro e w6 ⟨rfl, hb⟩
    have HS6 := hQz (HS5.out.keep hb)
    clear hb
    have hR := HR.out
    rw [if_neg (by rw [hc]; decide)] at hR
    replace HR := hQz hR
    clear hR
    obtain ⟨c0, c1, c2, c3⟩ := tb_cells HS6.out.bb0
    go_wp2_with fail
    clear c0 c1 c2 c3
    refine (shortX _ ⟨kd, pa, fi, tx, er⟩ (by have := Htx.out; show tx.length ≤ _; omega) _ HS6.out.dnW).mono ?_
    rintro e w7 ⟨d, rfl, hb, hd⟩
    have HS7 := hQz ((HS6.out.keep hb).add (hd.weak (fun b hb _ => hb)))
    clear hb hd
    obtain ⟨op22, at22, vk22, tx22, nu22, vt22, io22, yo22, no22, ko22, iN22, ic22, yN22, yc22, nN22, nc22, kN22, kc22⟩ := d
    unfold NV.v NV.l
    dsimp only
    obtain ⟨ds, hrw⟩ := HS7.out.row
    have HRW := hQz hrw
    clear hrw
    go_wp2_with (at_builtin; go_loud (refine wpList_append_own_at _ rfl _ _ 26 rfl 0 28 i0 (.agg #[.int .i64 0, .int .i64 0, .string ⟨#[]⟩, .int .i64 0, .string ⟨#[]⟩, .string ⟨#[]⟩, .slice none 0 0, .slice none 0 0, .slice none 0 0, .slice none 0 0]) 10 168 Tryz.underlying26 hi0 hz0 hz1 hz2 rfl (by decide) (v1) ((Ts ++ [saidP ⟨kd, pa, fi, tx, er⟩])).length (ds.flatMap NV.l) rfl (HS7.out.ownA HRW.out _) ⟨w7.heap.size, 0, none⟩ 1 1 (NV.l ⟨op22, at22, vk22, tx22, nu22, vt22, io22, yo22, no22, ko22, iN22, ic22, yN22, yc22, nN22, nc22, kN22, kc22⟩) rfl rfl (newsL (heap_alloc_new w7 _)) (one_l _) (by have := (by have := HLen.out; have := HX.out; (try simp only [List.length_append, List.length_cons, List.length_nil]); omega : (Ts ++ [saidP ⟨kd, pa, fi, tx, er⟩]).length + 1 ≤ 50331648); unfold maxLen; omega) (by have := (by have := HLen.out; have := HX.out; (try simp only [List.length_append, List.length_cons, List.length_nil]); omega : (Ts ++ [saidP ⟨kd, pa, fi, tx, er⟩]).length + 1 ≤ 50331648); omega) (Nat.zero_le _) ?_))
    intro v2 w8 hown hgrow hnil hat
    have HS8 := hQz ((HS7.out.app HRW.out (Us := [_]) (es := [⟨op22, at22, vk22, tx22, nu22, vt22, io22, yo22, no22, ko22, iN22, ic22, yN22, yc22, nN22, nc22, kN22, kc22⟩]) rfl (els1 HS7.out.m0) (fun e => by cases e) _ (by simpa using hown) hgrow hat).drop)
    clear hown hgrow hnil hat HRW
    go_wp2_with fail
    refine bodyPost_ret (v := v2) (by simp [results, Tryz.results172, go_sem]) rfl ?_
    have hR := HR.out
    have hLE := HS8.out.px.pat.le
    refine ⟨HS8.out.bo, ?_⟩
    rw [← hR]
    (try rw [show ∀ a b, Ts ++ [a, b] = Ts ++ [a] ++ [b] from fun a b => by simp])
    exact ⟨⟨_, rfl, HS8.out.unbox.toRwE⟩, HS8.out.px, by have := HLen.out; skip; simp only [List.length_append, List.length_cons, List.length_nil]; omega⟩
 have q3 : ((kd : Int) == 3) = false := by rw [bqZ]; omega
 have hR := HR.out
 rw [if_neg (by omega)] at hR
 replace HR := hQz hR
 clear hR
 by_cases k7 : kd = 7
 · have q7 : ((kd : Int) == 7) = true := by rw [k7]; rfl
   have hR := HR.out
   rw [if_pos k7] at hR
   replace HR := hQz hR
   clear hR
   clear k1 k2 k3 k6 k7
   go_enter Tryz.func172, Tryz.ntmps172
   go_wp2_with fail
   refine (HH.out _ HS0.out.px).mono ?_
   rintro e w1 ⟨rfl, hb⟩
   have HS1 := hQz (HS0.out.keep hb)
   clear hb
   obtain ⟨W2, hW2⟩ : ∃ W, w1.alloc (.cells #[.int .i64 (kd : Int), .int .i64 (pa : Int), .int .i64 (fi : Int), .string ⟨tx.toArray⟩] 39) = W := ⟨_, rfl⟩
   have HS2 := hQz (HS1.out.alloc [.int .i64 (kd : Int), .int .i64 (pa : Int), .int .i64 (fi : Int), .string ⟨tx.toArray⟩] 39)
   rw [hW2] at HS2
   obtain ⟨c0, c1, c2, c3⟩ := tb_cells HS2.out.bb0
   go_wp2_with fail
   clear hW2 c0 c1 c2 c3
   refine (textX HPO.out _ _ _ _ HS2.out.dnW HS2.out.dbW HS2.out.px HM.out).mono ?_
   rintro e w3 ⟨hb, hm⟩
   (try dsimp only at hm)
   have hR := HR.out
   obtain ⟨er, q, hr⟩ | ⟨T7, t7, o7, hr⟩ := pr_cases (textP ws nb P t o)
   · rw [hr] at hm
     rw [pThen_bad hr] at hR
     obtain rfl : e = .panicked (fcs er q) := hm
     exact ⟨rfl, (HS2.out.bo.trans (Bo.ofBt hb)), by rw [← hR]⟩
   rw [hr] at hm
   rw [pThen_ok hr] at hR
   (try dsimp only at hR)
   obtain ⟨⟨v, rfl, hE⟩, hp⟩ := hm
   have HL3 := hQz (mv_text (nb := nb) HPO.out.mp _ HS2.out.px.pat.le _ _ _ _ hr)
   have HO3 := hQz (bl_text (nb := nb) HPO.out.bp _ _ _ _ _ HS2.out.px.pat.open_ hr)
   have HQ3 := hQz hr
   replace HR := hQz hR
   have HS3 := hQz (HS2.out.step hb hp)
   clear hb hp hr hR
   obtain ⟨d, rfl, hd⟩ := hE
   have HS4 := hQz (HS3.out.add hd)
   clear hd
   obtain ⟨op7, at7, vk7, tx7, nu7, vt7, io7, yo7, no7, ko7, iN7, ic7, yN7, yc7, nN7, nc7, kN7, kc7⟩ := d
   unfold NV.v NV.l
   dsimp only
   obtain ⟨ds, hrw⟩ := HS4.out.row
   have HRW := hQz hrw
   clear hrw
   go_wp2_with (at_builtin; go_loud (refine wpList_append_own_at _ rfl _ _ 26 rfl 0 28 i0 (.agg #[.int .i64 0, .int .i64 0, .string ⟨#[]⟩, .int .i64 0, .string ⟨#[]⟩, .string ⟨#[]⟩, .slice none 0 0, .slice none 0 0, .slice none 0 0, .slice none 0 0]) 10 168 Tryz.underlying26 hi0 hz0 hz1 hz2 rfl (by decide) (rv) (Ts).length (ds.flatMap NV.l) rfl (HS4.out.ownA HRW.out _) ⟨w3.heap.size, 0, none⟩ 1 1 (NV.l ⟨op7, at7, vk7, tx7, nu7, vt7, io7, yo7, no7, ko7, iN7, ic7, yN7, yc7, nN7, nc7, kN7, kc7⟩) rfl rfl (newsL (heap_alloc_new w3 _)) (one_l _) (by have := (by have := HLen.out; have := HX.out; (try simp only [List.length_append, List.length_cons, List.length_nil]); omega : Ts.length + 1 ≤ 50331648); unfold maxLen; omega) (by have := (by have := HLen.out; have := HX.out; (try simp only [List.length_append, List.length_cons, List.length_nil]); omega : Ts.length + 1 ≤ 50331648); omega) (Nat.zero_le _) ?_))
   intro v1 w4 hown hgrow hnil hat
   have HS5 := hQz ((HS4.out.app HRW.out (Us := [T7]) (es := [⟨op7, at7, vk7, tx7, nu7, vt7, io7, yo7, no7, ko7, iN7, ic7, yN7, yc7, nN7, nc7, kN7, kc7⟩]) rfl (els1 HS4.out.m0) (fun e => by cases e) _ (by simpa using hown) hgrow hat).drop)
   clear hown hgrow hnil hat HRW
   go_wp2_with fail
   refine (mustX [58] _ HS5.out.px).mono ?_
   rintro e w5 ⟨hb, hm⟩
   (try dsimp only at hm)
   have hR := HR.out
   obtain ⟨er, q, hr⟩ | ⟨x8, t8, o8, hr⟩ := pr_cases (pMust ws nb [58] t7 o7)
   · rw [hr] at hm
     rw [pThen_bad hr] at hR
     obtain rfl : e = .panicked (fcs er q) := hm
     exact ⟨rfl, (HS5.out.bo.trans (Bo.ofBt hb)), by rw [← hR]⟩
   rw [hr] at hm
   rw [pThen_ok hr] at hR
   (try dsimp only at hR)
   obtain ⟨⟨v, rfl, hE⟩, hp⟩ := hm
   have HL5 := hQz (mv_must (nb := nb) [58] _ HS5.out.px.pat.le _ _ _ _ hr)
   have HO5 := hQz (bl_must (nb := nb) [58] _ _ _ _ _ HS5.out.px.pat.open_ hr)
   have HQ5 := hQz hr
   replace HR := hQz hR
   have HS6 := hQz (HS5.out.step hb hp)
   clear hb hp hr hR
   unfold TkE at hE
   subst hE
   obtain ⟨kd8, pa8, fi8, tx8, er8⟩ := x8
   unfold tokV
   (try dsimp only at HR)
   dsimp only
   go_wp2_with fail
   refine (HPO.out.opd 3 (by decide) (by decide) _ _ _ _ HS6.out.dnW HS6.out.dbW HS6.out.px (by have := HL5.out; have := HL3.out; have := HM.out; omega)).mono ?_
   rintro e w6 ⟨hb, hm⟩
   (try dsimp only at hm)
   have hR := HR.out
   obtain ⟨er, q, hr⟩ | ⟨T9, t9, o9, hr⟩ := pr_cases (O 3 t8 o8)
   · rw [hr] at hm
     rw [pThen_bad hr] at hR
     obtain rfl : e = .panicked (fcs er q) := hm
     exact ⟨rfl, (HS6.out.bo.trans (Bo.ofBt hb)), by rw [← hR]⟩
   rw [hr] at hm
   rw [pThen_ok hr] at hR
   (try dsimp only at hR)
   obtain ⟨⟨v, rfl, hE⟩, hp⟩ := hm
   have HL6 := hQz (HPO.out.mo 3 (by decide) _ HS6.out.px.pat.le _ _ _ _ hr)
   have HO6 := hQz (HPO.out.bo 3 _ _ _ _ _ HS6.out.px.pat.open_ hr)
   have HQ6 := hQz hr
   replace HR := hQz hR
   have HS7 := hQz (HS6.out.step hb hp)
   clear hb hp hr hR
   obtain ⟨d, rfl, hd⟩ := hE
   have HS8 := hQz (HS7.out.add hd)
   clear hd
   obtain ⟨op9, at9, vk9, tx9, nu9, vt9, io9, yo9, no9, ko9, iN9, ic9, yN9, yc9, nN9, nc9, kN9, kc9⟩ := d
   unfold NV.v NV.l
   dsimp only
   obtain ⟨ds, hrw⟩ := HS8.out.row
   have HRW := hQz hrw
   clear hrw
   go_wp2_with (at_builtin; go_loud (refine wpList_append_own_at _ rfl _ _ 26 rfl 0 28 i0 (.agg #[.int .i64 0, .int .i64 0, .string ⟨#[]⟩, .int .i64 0, .string ⟨#[]⟩, .string ⟨#[]⟩, .slice none 0 0, .slice none 0 0, .slice none 0 0, .slice none 0 0]) 10 168 Tryz.underlying26 hi0 hz0 hz1 hz2 rfl (by decide) (v1) ((Ts ++ [T7])).length (ds.flatMap NV.l) rfl (HS8.out.ownA HRW.out _) ⟨w6.heap.size, 0, none⟩ 1 1 (NV.l ⟨op9, at9, vk9, tx9, nu9, vt9, io9, yo9, no9, ko9, iN9, ic9, yN9, yc9, nN9, nc9, kN9, kc9⟩) rfl rfl (newsL (heap_alloc_new w6 _)) (one_l _) (by have := (by have := HLen.out; have := HX.out; (try simp only [List.length_append, List.length_cons, List.length_nil]); omega : (Ts ++ [T7]).length + 1 ≤ 50331648); unfold maxLen; omega) (by have := (by have := HLen.out; have := HX.out; (try simp only [List.length_append, List.length_cons, List.length_nil]); omega : (Ts ++ [T7]).length + 1 ≤ 50331648); omega) (Nat.zero_le _) ?_))
   intro v2 w7 hown hgrow hnil hat
   have HS9 := hQz ((HS8.out.app HRW.out (Us := [T9]) (es := [⟨op9, at9, vk9, tx9, nu9, vt9, io9, yo9, no9, ko9, iN9, ic9, yN9, yc9, nN9, nc9, kN9, kc9⟩]) rfl (els1 HS8.out.m0) (fun e => by cases e) _ (by simpa using hown) hgrow hat).drop)
   clear hown hgrow hnil hat HRW
   go_wp2_with fail
   refine bodyPost_ret (v := v2) (by simp [results, Tryz.results172, go_sem]) rfl ?_
   have hR := HR.out
   have hLE := HS9.out.px.pat.le
   refine ⟨HS9.out.bo, ?_⟩
   rw [← hR]
   (try rw [show ∀ a b, Ts ++ [a, b] = Ts ++ [a] ++ [b] from fun a b => by simp])
   exact ⟨⟨_, rfl, HS9.out.unbox.toRwE⟩, HS9.out.px, by have := HLen.out; have := HL3.out; have := HL5.out; have := HL6.out; simp only [List.length_append, List.length_cons, List.length_nil]; omega⟩
 · have q7 : ((kd : Int) == 7) = false := by rw [bqZ]; omega
   have hR := HR.out
   rw [if_neg k7] at hR
   replace HR := hQz hR
   clear hR
   clear k1 k2 k3 k6 k7
   go_enter Tryz.func172, Tryz.ntmps172
   go_wp2_with fail
   refine (HH.out _ HS0.out.px).mono ?_
   rintro e w1 ⟨rfl, hb⟩
   have HS1 := hQz (HS0.out.keep hb)
   clear hb
   obtain ⟨W2, hW2⟩ : ∃ W, w1.alloc (.cells #[.int .i64 (kd : Int), .int .i64 (pa : Int), .int .i64 (fi : Int), .string ⟨tx.toArray⟩] 39) = W := ⟨_, rfl⟩
   have HS2 := hQz (HS1.out.alloc [.int .i64 (kd : Int), .int .i64 (pa : Int), .int .i64 (fi : Int), .string ⟨tx.toArray⟩] 39)
   rw [hW2] at HS2
   obtain ⟨c0, c1, c2, c3⟩ := tb_cells HS2.out.bb0
   go_wp2_with fail
   clear hW2 c0 c1 c2 c3
   refine (groupX HPO.out _ _ _ _ HS2.out.dnW HS2.out.dbW HS2.out.px HM.out).mono ?_
   rintro e w3 ⟨hb, hm⟩
   (try dsimp only at hm)
   have hR := HR.out
   obtain ⟨er, q, hr⟩ | ⟨T7, t7, o7, hr⟩ := pr_cases (groupP ws nb P t o)
   · rw [hr] at hm
     rw [pThen_bad hr] at hR
     obtain rfl : e = .panicked (fcs er q) := hm
     exact ⟨rfl, (HS2.out.bo.trans (Bo.ofBt hb)), by rw [← hR]⟩
   rw [hr] at hm
   rw [pThen_ok hr] at hR
   (try dsimp only at hR)
   obtain ⟨⟨v, rfl, hE⟩, hp⟩ := hm
   have HL3 := hQz (mv_group (nb := nb) HPO.out.mp _ HS2.out.px.pat.le _ _ _ _ hr)
   have HO3 := hQz (bl_group (nb := nb) HPO.out.bp _ _ _ _ _ HS2.out.px.pat.open_ hr)
   have HQ3 := hQz hr
   replace HR := hQz hR
   have HS3 := hQz (HS2.out.step hb hp)
   clear hb hp hr hR
   obtain ⟨d, rfl, hd⟩ := hE
   have HS4 := hQz (HS3.out.add hd)
   clear hd
   obtain ⟨op7, at7, vk7, tx7, nu7, vt7, io7, yo7, no7, ko7, iN7, ic7, yN7, yc7, nN7, nc7, kN7, kc7⟩ := d
   unfold NV.v NV.l
   dsimp only
   obtain ⟨ds, hrw⟩ := HS4.out.row
   have HRW := hQz hrw
   clear hrw
   go_wp2_with (at_builtin; go_loud (refine wpList_append_own_at _ rfl _ _ 26 rfl 0 28 i0 (.agg #[.int .i64 0, .int .i64 0, .string ⟨#[]⟩, .int .i64 0, .string ⟨#[]⟩, .string ⟨#[]⟩, .slice none 0 0, .slice none 0 0, .slice none 0 0, .slice none 0 0]) 10 168 Tryz.underlying26 hi0 hz0 hz1 hz2 rfl (by decide) (rv) (Ts).length (ds.flatMap NV.l) rfl (HS4.out.ownA HRW.out _) ⟨w3.heap.size, 0, none⟩ 1 1 (NV.l ⟨op7, at7, vk7, tx7, nu7, vt7, io7, yo7, no7, ko7, iN7, ic7, yN7, yc7, nN7, nc7, kN7, kc7⟩) rfl rfl (newsL (heap_alloc_new w3 _)) (one_l _) (by have := (by have := HLen.out; have := HX.out; (try simp only [List.length_append, List.length_cons, List.length_nil]); omega : Ts.length + 1 ≤ 50331648); unfold maxLen; omega) (by have := (by have := HLen.out; have := HX.out; (try simp only [List.length_append, List.length_cons, List.length_nil]); omega : Ts.length + 1 ≤ 50331648); omega) (Nat.zero_le _) ?_))
   intro v1 w4 hown hgrow hnil hat
   have HS5 := hQz ((HS4.out.app HRW.out (Us := [T7]) (es := [⟨op7, at7, vk7, tx7, nu7, vt7, io7, yo7, no7, ko7, iN7, ic7, yN7, yc7, nN7, nc7, kN7, kc7⟩]) rfl (els1 HS4.out.m0) (fun e => by cases e) _ (by simpa using hown) hgrow hat).drop)
   clear hown hgrow hnil hat HRW
   go_wp2_with fail
   refine (mustX [58] _ HS5.out.px).mono ?_
   rintro e w5 ⟨hb, hm⟩
   (try dsimp only at hm)
   have hR := HR.out
   obtain ⟨er, q, hr⟩ | ⟨x8, t8, o8, hr⟩ := pr_cases (pMust ws nb [58] t7 o7)
   · rw [hr] at hm
     rw [pThen_bad hr] at hR
     obtain rfl : e = .panicked (fcs er q) := hm
     exact ⟨rfl, (HS5.out.bo.trans (Bo.ofBt hb)), by rw [← hR]⟩
   rw [hr] at hm
   rw [pThen_ok hr] at hR
   (try dsimp only at hR)
   obtain ⟨⟨v, rfl, hE⟩, hp⟩ := hm
   have HL5 := hQz (mv_must (nb := nb) [58] _ HS5.out.px.pat.le _ _ _ _ hr)
   have HO5 := hQz (bl_must (nb := nb) [58] _ _ _ _ _ HS5.out.px.pat.open_ hr)
   have HQ5 := hQz hr
   replace HR := hQz hR
   have HS6 := hQz (HS5.out.step hb hp)
   clear hb hp hr hR
   unfold TkE at hE
   subst hE
   obtain ⟨kd8, pa8, fi8, tx8, er8⟩ := x8
   unfold tokV
   (try dsimp only at HR)
   dsimp only
   go_wp2_with fail
   refine (HPO.out.opd 3 (by decide) (by decide) _ _ _ _ HS6.out.dnW HS6.out.dbW HS6.out.px (by have := HL5.out; have := HL3.out; have := HM.out; omega)).mono ?_
   rintro e w6 ⟨hb, hm⟩
   (try dsimp only at hm)
   have hR := HR.out
   obtain ⟨er, q, hr⟩ | ⟨T9, t9, o9, hr⟩ := pr_cases (O 3 t8 o8)
   · rw [hr] at hm
     rw [pThen_bad hr] at hR
     obtain rfl : e = .panicked (fcs er q) := hm
     exact ⟨rfl, (HS6.out.bo.trans (Bo.ofBt hb)), by rw [← hR]⟩
   rw [hr] at hm
   rw [pThen_ok hr] at hR
   (try dsimp only at hR)
   obtain ⟨⟨v, rfl, hE⟩, hp⟩ := hm
   have HL6 := hQz (HPO.out.mo 3 (by decide) _ HS6.out.px.pat.le _ _ _ _ hr)
   have HO6 := hQz (HPO.out.bo 3 _ _ _ _ _ HS6.out.px.pat.open_ hr)
   have HQ6 := hQz hr
   replace HR := hQz hR
   have HS7 := hQz (HS6.out.step hb hp)
   clear hb hp hr hR
   obtain ⟨d, rfl, hd⟩ := hE
   have HS8 := hQz (HS7.out.add hd)
   clear hd
   obtain ⟨op9, at9, vk9, tx9, nu9, vt9, io9, yo9, no9, ko9, iN9, ic9, yN9, yc9, nN9, nc9, kN9, kc9⟩ := d
   unfold NV.v NV.l
   dsimp only
   obtain ⟨ds, hrw⟩ := HS8.out.row
   have HRW := hQz hrw
   clear hrw
   go_wp2_with (at_builtin; go_loud (refine wpList_append_own_at _ rfl _ _ 26 rfl 0 28 i0 (.agg #[.int .i64 0, .int .i64 0, .string ⟨#[]⟩, .int .i64 0, .string ⟨#[]⟩, .string ⟨#[]⟩, .slice none 0 0, .slice none 0 0, .slice none 0 0, .slice none 0 0]) 10 168 Tryz.underlying26 hi0 hz0 hz1 hz2 rfl (by decide) (v1) ((Ts ++ [T7])).length (ds.flatMap NV.l) rfl (HS8.out.ownA HRW.out _) ⟨w6.heap.size, 0, none⟩ 1 1 (NV.l ⟨op9, at9, vk9, tx9, nu9, vt9, io9, yo9, no9, ko9, iN9, ic9, yN9, yc9, nN9, nc9, kN9, kc9⟩) rfl rfl (newsL (heap_alloc_new w6 _)) (one_l _) (by have := (by have := HLen.out; have := HX.out; (try simp only [List.length_append, List.length_cons, List.length_nil]); omega : (Ts ++ [T7]).length + 1 ≤ 50331648); unfold maxLen; omega) (by have := (by have := HLen.out; have := HX.out; (try simp only [List.length_append, List.length_cons, List.length_nil]); omega : (Ts ++ [T7]).length + 1 ≤ 50331648); omega) (Nat.zero_le _) ?_))
   intro v2 w7 hown hgrow hnil hat
   have HS9 := hQz ((HS8.out.app HRW.out (Us := [T9]) (es := [⟨op9, at9, vk9, tx9, nu9, vt9, io9, yo9, no9, ko9, iN9, ic9, yN9, yc9, nN9, nc9, kN9, kc9⟩]) rfl (els1 HS8.out.m0) (fun e => by cases e) _ (by simpa using hown) hgrow hat).drop)
   clear hown hgrow hnil hat HRW
   go_wp2_with fail
   refine bodyPost_ret (v := v2) (by simp [results, Tryz.results172, go_sem]) rfl ?_
   have hR := HR.out
   have hLE := HS9.out.px.pat.le
   refine ⟨HS9.out.bo, ?_⟩
   rw [← hR]
   (try rw [show ∀ a b, Ts ++ [a, b] = Ts ++ [a] ++ [b] from fun a b => by simp])
   exact ⟨⟨_, rfl, HS9.out.unbox.toRwE⟩, HS9.out.px, by have := HLen.out; have := HL3.out; have := HL5.out; have := HL6.out; simp only [List.length_append, List.length_cons, List.length_nil]; omega⟩
end
section
variable {B : Nat} {so : Option Addr} {sc : Nat} {ws : List Tok} {nb : Nat} {m : Nat} {P : PM NT} {O : Nat → PM NT}
theorem recordX (h : PO B so sc ws nb (m + 1) P O) : NodeC B so sc ws nb 165 m (recordP ws nb P O) := by
 intro D u t o dn db hx hm
 obtain ⟨R, hR⟩ : ∃ R, recordP ws nb P O t o = R := ⟨_, rfl⟩
 rw [hR]
 unfold recordP at hR
 have HR := hQz hR
 have HPO := hQz h
 have HS0 := hQz (SB.new (Fl := false) (tr := []) hx dn db (fun q hq => by simp at hq))
 have HX := hQz (And.intro hx.pat.le hx.pat.open_)
 have HM := hQz hm
 have hfl0 := Tryz.fldX0
 have hfl1 := Tryz.fldX1
 have hfl3 := Tryz.fldX3
 clear hR h hx hm dn db
 obtain ⟨i0, hi0, hz0, hz1, hz2⟩ := info_parts Tryz.infoN
 go_enter Tryz.func165, Tryz.ntmps165
 go_wp2_with fail
 have HS1 := hQz (HS0.out.alloc [.int .i64 0, .int .i64 0, .string ⟨#[]⟩, .int .i64 0, .string ⟨#[]⟩, .string ⟨#[]⟩, .slice none 0 0, .slice none 0 0, .slice none 0 0, .slice none 0 0] 28)
 refine (enterX [123] _ HS1.out.px).mono ?_
 rintro e w1 ⟨hb, hm⟩
 (try dsimp only at hm)
 have hR := HR.out
 obtain ⟨er, q, hr⟩ | ⟨x1, t1, o1, hr⟩ := pr_cases (pEnter ws nb [123] t o)
 · rw [hr] at hm
   rw [pThen_bad hr] at hR
   obtain rfl : e = .panicked (fcs er q) := hm
   exact ⟨rfl, (HS1.out.bo.trans (Bo.ofBt hb)).toBt, by rw [← hR]⟩
 rw [hr] at hm
 rw [pThen_ok hr] at hR
 (try dsimp only at hR)
 obtain ⟨⟨v, rfl, hE⟩, hp⟩ := hm
 have HL1 := hQz (mv_enter (nb := nb) [123] _ HS1.out.px.pat.le _ _ _ _ hr)
 have HO1 := hQz (up_enter (nb := nb) [123] _ _ _ _ _ HS1.out.px.pat.open_ hr)
 have HQ1 := hQz hr
 replace HR := hQz hR
 have HS2 := hQz (HS1.out.step hb hp)
 clear hb hp hr hR
 unfold TkE at hE
 subst hE
 obtain ⟨kd1, pa1, fi1, tx1, er1⟩ := x1
 unfold tokV
 (try dsimp only at HR)
 dsimp only
 go_wp2_with fail
 have HS3 := hQz (HS2.out.alloc [.int .i64 5, .int .i64 (pa1 : Int), .string ⟨#[]⟩, .int .i64 0, .string ⟨#[]⟩, .string ⟨#[]⟩, .slice none 0 0, .slice none 0 0, .slice none 0 0, .slice none 0 0] 28)
 obtain ⟨c, hc⟩ : ∃ c, syP ws t1 [125] = c := ⟨_, rfl⟩
 cases c with
 | true =>
  refine (saysX [125] hc _ HS3.out.px).mono ?_
  rintro e w2 ⟨rfl, hb⟩
  have HS4 := hQz (HS3.out.keep hb)
  clear hb
  have hR := HR.out
  rw [pThen_ok (a := []) (t' := t1) (o' := o1) (by (try dsimp only); rw [if_pos hc])] at hR
  (try dsimp only at hR)
  replace HR := hQz hR
  clear hR
  go_wp2_with fail
  refine (leaveX [125] (by have := HO1.out; omega) _ HS4.out.px).mono ?_
  rintro e w3 ⟨hb, hm⟩
  (try dsimp only at hm)
  have hR := HR.out
  obtain ⟨er, q, hr⟩ | ⟨_x, t4, o4, hr⟩ := pr_cases (pLeave ws nb [125] t1 o1)
  · rw [hr] at hm
    rw [pThen_bad hr] at hR
    obtain rfl : e = .panicked (fcs er q) := hm
    exact ⟨rfl, (HS4.out.bo.trans (Bo.ofBt hb)).toBt, by rw [← hR]⟩
  rw [hr] at hm
  rw [pThen_ok hr] at hR
  (try dsimp only at hR)
  obtain ⟨⟨v, rfl, hE⟩, hp⟩ := hm
  have HL3 := hQz (mv_leave (nb := nb) [125] _ HS4.out.px.pat.le _ _ _ _ hr)
  have HQ3 := hQz hr
  replace HR := hQz hR
  have HS5 := hQz (HS4.out.step hb hp)
  clear hb hp hr hR
  subst hE
  have HLv := HL3
  obtain ⟨c0, c1, c2, c3, c4, c5, c6, c7, c8, c9⟩ := nd_cells HS5.out.bb0
  obtain ⟨r0, r1, r2, r3, r4, r5, r6, r7, r8, r9⟩ := nd_cells HS5.out.bb1
  obtain ⟨rf0, rf1, rf2, rf3, rf4, rf5, rf6, rf7, rf8, rf9⟩ := nd_frozen HS5.out.bb1
  go_wp2_with fail
  generalize hzZ : ((((((((((w3).setCell ⟨u.heap.size, 0, none⟩ (.int .i64 5)).setCell ⟨u.heap.size, 1, none⟩ (.int .i64 (pa1 : Int))).setCell ⟨u.heap.size, 2, none⟩ (.string ⟨#[]⟩)).setCell ⟨u.heap.size, 3, none⟩ (.int .i64 0)).setCell ⟨u.heap.size, 4, none⟩ (.string ⟨#[]⟩)).setCell ⟨u.heap.size, 5, none⟩ (.string ⟨#[]⟩)).setCell ⟨u.heap.size, 6, none⟩ (.slice none 0 0)).setCell ⟨u.heap.size, 7, none⟩ (.slice none 0 0)).setCell ⟨u.heap.size, 8, none⟩ (.slice none 0 0)).setCell ⟨u.heap.size, 9, none⟩ (.slice none 0 0) = WZ
  have PZ := nd_set HS5.out.bb1 hzZ
  obtain ⟨m0, m1, m2, m3, m4, m5, m6, m7, m8, m9⟩ := nd_cells PZ.new
  have HZ := HS5.out.put 1 _ _ [.int .i64 5, .int .i64 (pa1 : Int), .string ⟨#[]⟩, .int .i64 0, .string ⟨#[]⟩, .string ⟨#[]⟩, .slice none 0 0, .slice none 0 0, .slice none 0 0, .slice none 0 0] _ rfl PZ
  refine bodyPost_ret (v := .agg #[.int .i64 5, .int .i64 (pa1 : Int), .string ⟨#[]⟩, .int .i64 0, .string ⟨#[]⟩, .string ⟨#[]⟩, .slice none 0 0, .slice none 0 0, .slice none 0 0, .slice none 0 0]) (by simp [results, Tryz.results165, go_sem, m0, m1, m2, m3, m4, m5, m6, m7, m8, m9]) rfl ?_
  have hR := HR.out
  refine ⟨HZ.bo.toBt, ?_⟩
  rw [← hR]
  exact ⟨⟨_, rfl, ⟨5, (pa1 : Int), 0, ⟨#[]⟩, ⟨#[]⟩, ⟨#[]⟩, none, none, none, none, 0, 0, 0, 0, 0, 0, 0, 0⟩, rfl, NdI.leaf D _ 5 (pa1 : Int) .empty size0⟩, HZ.px⟩
 | false =>
  refine (saysX [125] hc _ HS3.out.px).mono ?_
  rintro e w2 ⟨rfl, hb⟩
  have HS4 := hQz (HS3.out.keep hb)
  clear hb
  have hR := HR.out
  rw [pThen_congr (y := pThen (entryP ws nb P O []) (fun ks => lpP (fun (a : List NT) t o => if syP ws t [44] then pThen (pTake ws) (fun _ => pThen (entryP ws nb P O a) fun b => pOk (.inl b)) t o else .ok (.inr a) t o) (ws.length + 1) ks)) (by (try dsimp only); rw [if_neg (by rw [hc]; decide)]), pThen_assoc] at hR
  replace HR := hQz hR
  clear hR
  go_wp2_with fail
  obtain ⟨dsR, hrR⟩ := HS4.out.rowR
  have HRR := hQz hrR
  clear hrR
  refine (entryX HPO.out _ _ _ _ _ _ _ HS4.out.dnR HS4.out.dbR HS4.out.px (by have := HL1.out; have := HM.out; omega) HRR.out HS4.out.okR (Nat.zero_le _)).mono ?_
  rintro e w3 ⟨hb, hm⟩
  (try dsimp only at hm)
  have hR := HR.out
  obtain ⟨er, q, hr⟩ | ⟨Ks, t2, o2, hr⟩ := pr_cases (entryP ws nb P O [] t1 o1)
  · rw [hr] at hm
    rw [pThen_bad hr] at hR
    obtain rfl : e = .panicked (fcs er q) := hm
    exact ⟨rfl, (HS4.out.boR hb).toBt, by rw [← hR]⟩
  rw [hr] at hm
  rw [pThen_ok hr] at hR
  (try dsimp only at hR)
  obtain ⟨⟨v, rfl, hE⟩, hp, hln⟩ := hm
  have HLn3 := hQz hln
  have HL3 := hQz (mv_entry (nb := nb) HPO.out.mp HPO.out.mo [] _ HS4.out.px.pat.le _ _ _ _ hr)
  have HO3 := hQz (bl_entry (nb := nb) HPO.out.bp HPO.out.bo [] _ _ _ _ _ HS4.out.px.pat.open_ hr)
  replace HR := hQz hR
  have HS5 := hQz (HS4.out.rowcall hb hp hE)
  clear hb hp hr hR hE hln
  obtain ⟨ko, kc, hv⟩ := HS5.out.rowV
  subst hv
  obtain ⟨s0, s1, s2, s3, s4, s5, s6, s7, s8, s9⟩ := nd_cells HS5.out.bb0
  obtain ⟨sf0, sf1, sf2, sf3, sf4, sf5, sf6, sf7, sf8, sf9⟩ := nd_frozen HS5.out.bb0
  obtain ⟨W4, hW4⟩ : ∃ W, w3.setCell ⟨w1.heap.size, 9, none⟩ (.slice ko Ks.length kc) = W := ⟨_, rfl⟩
  have P4 := nd_set9 HS5.out.bb0 hW4
  have HS6 := hQz (HS5.out.put 0 _ _ [.int .i64 5, .int .i64 (pa1 : Int), .string ⟨#[]⟩, .int .i64 0, .string ⟨#[]⟩, .string ⟨#[]⟩, .slice none 0 0, .slice none 0 0, .slice none 0 0, .slice ko Ks.length kc] _ rfl P4)
  clear P4
  have HLq := HLn3
  go_wp2_with fail
  go_loopw [] (fun wr => ∃ (Ks : List NT) (ko : Option Addr) (kc t3 o3 f : Nat), Hid (ws.length < t3 + f) ∧ Hid (SB false D none u B so sc ws nb t3 o3 [(w1.heap.size, [.int .i64 5, .int .i64 (pa1 : Int), .string ⟨#[]⟩, .int .i64 0, .string ⟨#[]⟩, .string ⟨#[]⟩, .slice none 0 0, .slice none 0 0, .slice none 0 0, .slice ko Ks.length kc], 28), (u.heap.size, [.int .i64 0, .int .i64 0, .string ⟨#[]⟩, .int .i64 0, .string ⟨#[]⟩, .string ⟨#[]⟩, .slice none 0 0, .slice none 0 0, .slice none 0 0, .slice none 0 0], 28)] (.slice ko Ks.length kc) Ks [] wr) ∧ Hid (Ks.length ≤ 2 * t3 + 4 ∧ t + 1 ≤ t3 ∧ o3 = o + 1) ∧ Hid (pThen (lpP (fun (a : List NT) t o => if syP ws t [44] then pThen (pTake ws) (fun _ => pThen (entryP ws nb P O a) fun b => pOk (.inl b)) t o else .ok (.inr a) t o) f Ks) (fun ks => pThen (pLeave ws nb [125]) fun _ => pOk (ndP 5 pa1 ks)) t3 o3 = R)) (fun wr => ws.length + 1 - tkOf B wr)
  case atStart =>
   refine ⟨Ks, ko, kc, t2, o2, ws.length + 1, (by show _ < _; omega), HS6, ?_, HR⟩
   have h1 := HL1.out
   have h2 := HL3.out
   have h3 := HO1.out
   have h4 := HO3.out
   exact ⟨HLq.out, by omega, by omega⟩
  case round =>
   clear HR HS0 HL1 HO1 HLq
   obtain ⟨Ks, ko, kc, t3, o3, f, HF, HS0, HK, HR⟩ := hrel
   obtain ⟨f, rfl⟩ : ∃ f', f = f' + 1 := ⟨f - 1, by have := HF.out; have := HS0.out.px.pat.le; omega⟩
   have HTk := hQz HS0.out.px.tk
   have hR := HR.out
   rw [lp_step] at hR
   replace HR := hQz hR
   clear hR
   obtain ⟨c, hc⟩ : ∃ c, syP ws t3 [44] = c := ⟨_, rfl⟩
   cases c with
   | true =>
    have hR := HR.out
    rw [pThen_congr (y := pThen (pTake ws) (fun _ => pThen (entryP ws nb P O Ks) fun b => pOk (.inl b))) (by (try dsimp only); rw [if_pos hc]), pThen_assoc, pThen_ok (x := pTake ws) rfl] at hR
    (try dsimp only at hR)
    rw [pThen_assoc] at hR
    replace HR := hQz hR
    clear hR
    go_wp2_with fail
    refine (takesT [44] hc _ HS0.out.px).mono ?_
    rintro e w5 ⟨rfl, hb, hp⟩
    have HS7 := hQz (HS0.out.step hb hp)
    clear hb hp
    obtain ⟨c0, c1, c2, c3, c4, c5, c6, c7, c8, c9⟩ := nd_cells HS7.out.bb0
    go_wp2_with fail
    clear c0 c1 c2 c3 c4 c5 c6 c7 c8 c9
    obtain ⟨dsR, hrR⟩ := HS7.out.rowR
    have HRR := hQz hrR
    clear hrR
    refine (entryX HPO.out _ _ _ _ _ _ _ HS7.out.dnR HS7.out.dbR HS7.out.px (by have := HK.out; have := HM.out; omega) HRR.out HS7.out.okR (by have := HK.out; omega)).mono ?_
    rintro e w6 ⟨hb, hm⟩
    (try dsimp only at hm)
    have hR := HR.out
    obtain ⟨er, q, hr⟩ | ⟨Ls, t4, o4, hr⟩ := pr_cases (entryP ws nb P O Ks (t3 + 1) o3)
    · rw [hr] at hm
      rw [pThen_bad hr] at hR
      obtain rfl : e = .panicked (fcs er q) := hm
      exact ⟨rfl, (HS7.out.boR hb).toBt, by rw [← hR]⟩
    rw [hr] at hm
    rw [pThen_ok hr] at hR
    (try dsimp only at hR)
    obtain ⟨⟨v, rfl, hE⟩, hp, hln⟩ := hm
    have HLn6 := hQz hln
    have HL6 := hQz (mv_entry (nb := nb) HPO.out.mp HPO.out.mo Ks _ HS7.out.px.pat.le _ _ _ _ hr)
    have HO6 := hQz (bl_entry (nb := nb) HPO.out.bp HPO.out.bo Ks _ _ _ _ _ HS7.out.px.pat.open_ hr)
    replace HR := hQz hR
    have HS8 := hQz (HS7.out.rowcall hb hp hE)
    clear hb hp hr hR hE hln
    obtain ⟨ko4, kc4, hv⟩ := HS8.out.rowV
    subst hv
    have hR := HR.out
    rw [pThen_ok (x := pOk _) rfl] at hR
    (try dsimp only at hR)
    replace HR := hQz hR
    clear hR
    obtain ⟨s0, s1, s2, s3, s4, s5, s6, s7, s8, s9⟩ := nd_cells HS8.out.bb0
    obtain ⟨sf0, sf1, sf2, sf3, sf4, sf5, sf6, sf7, sf8, sf9⟩ := nd_frozen HS8.out.bb0
    obtain ⟨W7, hW7⟩ : ∃ W, w6.setCell ⟨w1.heap.size, 9, none⟩ (.slice ko4 Ls.length kc4) = W := ⟨_, rfl⟩
    have P7 := nd_set9 HS8.out.bb0 hW7
    have HS9 := hQz (HS8.out.put 0 _ _ [.int .i64 5, .int .i64 (pa1 : Int), .string ⟨#[]⟩, .int .i64 0, .string ⟨#[]⟩, .string ⟨#[]⟩, .slice none 0 0, .slice none 0 0, .slice none 0 0, .slice ko4 Ls.length kc4] _ rfl P7)
    clear P7
    go_wp2_with fail
    go_roundw
    case rel =>
     refine ⟨Ls, ko4, kc4, t4, o4, f, ?_, HS9, ?_, HR⟩
     · have h1 := HF.out
       have h2 := HL6.out
       show _ < _
       omega
     · have h1 := HK.out
       have h2 := HL6.out
       have h3 := HO6.out
       exact ⟨HLn6.out, by omega, by omega⟩
    case measure =>
     rw [HTk.out, HS9.out.px.tk]
     have h2 := HL6.out
     have h3 := HS0.out.px.pat.le
     omega
   | false =>
    have hR := HR.out
    rw [pThen_ok (a := .inr Ks) (t' := t3) (o' := o3) (by (try dsimp only); rw [if_neg (by rw [hc]; decide)])] at hR
    (try dsimp only at hR)
    replace HR := hQz hR
    clear hR
    go_wp2_with fail
    refine (takesF [44] hc _ HS0.out.px).mono ?_
    rintro e w5 ⟨rfl, hb⟩
    have HS7 := hQz (HS0.out.keep hb)
    clear hb
    go_wp2_with fail
    refine (leaveX [125] (by have := HK.out; omega) _ HS7.out.px).mono ?_
    rintro e w6 ⟨hb, hm⟩
    (try dsimp only at hm)
    have hR := HR.out
    obtain ⟨er, q, hr⟩ | ⟨_x, t5, o5, hr⟩ := pr_cases (pLeave ws nb [125] t3 o3)
    · rw [hr] at hm
      rw [pThen_bad hr] at hR
      obtain rfl : e = .panicked (fcs er q) := hm
      exact ⟨rfl, (HS7.out.bo.trans (Bo.ofBt hb)).toBt, by rw [← hR]⟩
    rw [hr] at hm
    rw [pThen_ok hr] at hR
    (try dsimp only at hR)
    obtain ⟨⟨v, rfl, hE⟩, hp⟩ := hm
    have HL6 := hQz (mv_leave (nb := nb) [125] _ HS7.out.px.pat.le _ _ _ _ hr)
    have HQ6 := hQz hr
    replace HR := hQz hR
    have HS8 := hQz (HS7.out.step hb hp)
    clear hb hp hr hR
    subst hE
    have HLv := HL6
    obtain ⟨c0, c1, c2, c3, c4, c5, c6, c7, c8, c9⟩ := nd_cells HS8.out.bb0
    obtain ⟨r0, r1, r2, r3, r4, r5, r6, r7, r8, r9⟩ := nd_cells HS8.out.bb1
    obtain ⟨rf0, rf1, rf2, rf3, rf4, rf5, rf6, rf7, rf8, rf9⟩ := nd_frozen HS8.out.bb1
    go_wp2_with fail
    generalize hzZ : ((((((((((w6).setCell ⟨u.heap.size, 0, none⟩ (.int .i64 5)).setCell ⟨u.heap.size, 1, none⟩ (.int .i64 (pa1 : Int))).setCell ⟨u.heap.size, 2, none⟩ (.string ⟨#[]⟩)).setCell ⟨u.heap.size, 3, none⟩ (.int .i64 0)).setCell ⟨u.heap.size, 4, none⟩ (.string ⟨#[]⟩)).setCell ⟨u.heap.size, 5, none⟩ (.string ⟨#[]⟩)).setCell ⟨u.heap.size, 6, none⟩ (.slice none 0 0)).setCell ⟨u.heap.size, 7, none⟩ (.slice none 0 0)).setCell ⟨u.heap.size, 8, none⟩ (.slice none 0 0)).setCell ⟨u.heap.size, 9, none⟩ (.slice ko Ks.length kc) = WZ
    have PZ := nd_set HS8.out.bb1 hzZ
    obtain ⟨m0, m1, m2, m3, m4, m5, m6, m7, m8, m9⟩ := nd_cells PZ.new
    have HZ := HS8.out.put 1 _ _ [.int .i64 5, .int .i64 (pa1 : Int), .string ⟨#[]⟩, .int .i64 0, .string ⟨#[]⟩, .string ⟨#[]⟩, .slice none 0 0, .slice none 0 0, .slice none 0 0, .slice ko Ks.length kc] _ rfl PZ
    refine bodyPost_ret (v := .agg #[.int .i64 5, .int .i64 (pa1 : Int), .string ⟨#[]⟩, .int .i64 0, .string ⟨#[]⟩, .string ⟨#[]⟩, .slice none 0 0, .slice none 0 0, .slice none 0 0, .slice ko Ks.length kc]) (by simp [results, Tryz.results165, go_sem, m0, m1, m2, m3, m4, m5, m6, m7, m8, m9]) rfl ?_
    have hR := HR.out
    refine ⟨HZ.bo.toBt, ?_⟩
    rw [← hR]
    exact ⟨⟨_, rfl, ⟨5, (pa1 : Int), 0, ⟨#[]⟩, ⟨#[]⟩, ⟨#[]⟩, none, none, none, ko, 0, 0, 0, 0, 0, 0, Ks.length, kc⟩, rfl, HZ.rowNode rfl 5 (pa1 : Int) .empty size0 (by have := HK.out; have := HS0.out.px.pat.le; have := HS0.out.px.pat.few; omega)⟩, HZ.px⟩
end
end Go.Proofs.YtajnaiddcobkiaaGreatDoor
