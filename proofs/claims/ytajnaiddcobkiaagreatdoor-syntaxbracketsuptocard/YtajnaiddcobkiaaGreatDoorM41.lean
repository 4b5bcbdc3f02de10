import Derived.Test.YtajnaiddcobkiaaGreatDoorM38
import Derived.Test.YtajnaiddcobkiaaGreatDoorM40
import Derived.Deep.LoopGhost
import Derived.Test.YtajnaiddcobkiaaGreatDoorM36
import Derived.Test.YtajnaiddcobkiaaGreatDoorM37
import Derived.Test.YtajnaiddcobkiaaGreatDoorM34
namespace Go.Proofs.YtajnaiddcobkiaaGreatDoor
open Go.RowKit Go.Shelf
set_option linter.unusedVariables false
set_option linter.unusedSimpArgs false
attribute [local go_sem] Oper.semAt_some
set_option maxRecDepth 100000
set_option maxHeartbeats 12800000
theorem WS.val {v : Value} {n : Nat} {As : List NT} {es : List NV} {wb kb : Bxs} {kt : List (NT × NV)} (h : WS v n As es wb kb kt) : ∃ vo vc, v = .slice vo n vc := by
 rcases h.r with ⟨e1, _, _, e2⟩ | ⟨g, l, c, e1, _⟩
 · exact ⟨none, 0, by rw [e1, e2]⟩
 · exact ⟨_, _, e1⟩
section
variable {B : Nat} {so : Option Addr} {sc : Nat} {ws : List Tok} {nb : Nat} {m : Nat} {P : PM NT} {O : Nat → PM NT}
theorem postX (h : PO B so sc ws nb (m + 1) P O) : NodeC B so sc ws nb 122 m (postP ws nb P O) := by
 intro D u t o dn db hx hm
 obtain ⟨R, hR⟩ : ∃ R, postP ws nb P O t o = R := ⟨_, rfl⟩
 rw [hR]
 rw [post_eq] at hR
 have HR := hQz hR
 have HPO := hQz h
 have HS0 := hQz (SB.new (Fl := false) (tr := []) hx dn db (fun q hq => by simp at hq))
 have HX := hQz (And.intro hx.pat.le (And.intro hx.pat.open_ hx.pat.few))
 have HM := hQz hm
 have hfl0 := Tryz.fldX0
 have hfl1 := Tryz.fldX1
 have hfl3 := Tryz.fldX3
 clear hR h hx hm dn db
 obtain ⟨i0, hi0, hz0, hz1, hz2⟩ := info_parts Tryz.infoN
 go_enter Tryz.func122, Tryz.ntmps122
 go_wp2_with fail
 go_step3
 go_wp2_with fail
 go_step3
 go_wp2_with fail
 have HS1 := hQz (HS0.out.alloc [.int .i64 0, .int .i64 0, .string ⟨#[]⟩, .int .i64 0, .string ⟨#[]⟩, .string ⟨#[]⟩, .slice none 0 0, .slice none 0 0, .slice none 0 0, .slice none 0 0] 28)
 go_loopg [3] (ws.length + 1) (fun gk v3 wr => ∃ (As : List NT) (es : List NV) (wb kb : Bxs) (kt : List (NT × NV)) (t3 o3 : Nat), Hid (ws.length < t3 + gk) ∧ Hid (WS v3 As.length As es wb kb kt) ∧ Hid (SB false D none u B so sc ws nb t3 o3 (wb ++ (kb ++ [(u.heap.size, [.int .i64 0, .int .i64 0, .string ⟨#[]⟩, .int .i64 0, .string ⟨#[]⟩, .string ⟨#[]⟩, .slice none 0 0, .slice none 0 0, .slice none 0 0, .slice none 0 0], 28)])) (.slice none 0 0) [] kt wr) ∧ Hid (As.length ≤ t3 ∧ t ≤ t3) ∧ Hid (pThen (lpP (poB ws nb P O) gk As) pOk t3 o3 = R))
 case atStart => exact ⟨[], [], [], [], [], t, o, (by show _ < _; have := HX.out; omega), WS.new, HS1, ⟨Nat.zero_le _, Nat.le_refl _⟩, HR⟩
 case round =>
  clear HR HS0 HS1
  obtain ⟨As, es, wb, kb, kt, t3, o3, HF, HW, HS0, HK1, HR⟩ := hrel
  obtain ⟨f, rfl⟩ : ∃ f', gk = f' + 1 := ⟨gk - 1, by have := HF.out; have := HS0.out.px.pat.le; omega⟩
  have hR := HR.out
  rw [post_step] at hR
  replace HR := hQz hR
  clear hR
  go_wp2_with fail
  go_loopg [3] (ws.length + 1) (fun gk v3 wr => ∃ (As : List NT) (es : List NV) (wb kb : Bxs) (kt : List (NT × NV)) (t4 o4 : Nat), Hid (ws.length < t4 + gk) ∧ Hid (WS v3 As.length As es wb kb kt) ∧ Hid (SB false D none u B so sc ws nb t4 o4 (wb ++ (kb ++ [(u.heap.size, [.int .i64 0, .int .i64 0, .string ⟨#[]⟩, .int .i64 0, .string ⟨#[]⟩, .string ⟨#[]⟩, .slice none 0 0, .slice none 0 0, .slice none 0 0, .slice none 0 0], 28)])) (.slice none 0 0) [] kt wr) ∧ Hid (As.length ≤ t4 ∧ t3 ≤ t4) ∧ Hid (pThen (lpP (awB ws) gk As) (fun b => pThen (termP ws nb P O) fun n => pThen (suffixedP ws nb P n) fun m => pThen (unwindP ws nb P b m) (poK ws nb P O f)) t4 o4 = R))
  case atStart => exact ⟨As, es, wb, kb, kt, t3, o3, (by show _ < _; omega), HW, HS0, ⟨HK1.out.1, Nat.le_refl _⟩, HR⟩
  case round =>
   clear HR HS0 HW
   obtain ⟨As, es, wb, kb, kt, t4, o4, HF4, HW, HS0, HK4, HR⟩ := hrel
   obtain ⟨f4, rfl⟩ : ∃ f', gk = f' + 1 := ⟨gk - 1, by have := HF4.out; have := HS0.out.px.pat.le; omega⟩
   obtain ⟨oA, hA⟩ : ∃ x, awaitP ws t4 = x := ⟨_, rfl⟩
   have HAw : Hid (∀ W, PX W B so sc ws nb t4 o4 → Calls Tryz.prog 135 #[.pointer (some ⟨B, 0, none⟩)] W fun e w' => e = .returned (.bool oA.isSome) ∧ Below W.heap.size W w') := fun W hW => by
    have h := awaitsX W hW
    rwa [hA] at h
   cases oA with
   | some A =>
    have hR := HR.out
    rw [aw_some hA] at hR
    replace HR := hQz hR
    clear hR
    obtain ⟨op, hop, rfl, hlt⟩ := await_shape hA
    have HAg : Hid (∀ W, PX W B so sc ws nb t4 o4 → Calls Tryz.prog 136 #[.pointer (some ⟨B, 0, none⟩)] W fun e w' => e = .returned (.agg #[.int .i64 op, .int .i64 ((hrP ws t4).at_ : Int), .string ⟨#[]⟩, .int .i64 0, .string ⟨#[]⟩, .string ⟨#[]⟩, .slice none 0 0, .slice none 0 0, .slice none 0 0, .slice none 0 0]) ∧ Bt B W w' ∧ PX w' B so sc ws nb (t4 + 1) o4) := fun W hW => awaitingX hA W hW
    have Hlt := hQz hlt
    have Hop := hQz hop
    clear hA hlt hop
    generalize ((hrP ws t4).at_ : Int) = pa at *
    dsimp only [Option.isSome] at HAw
    go_wp2_with fail
    refine (HAw.out _ HS0.out.px).mono ?_
    rintro e w1 ⟨rfl, hb⟩
    have HS2 := hQz (HS0.out.keep hb)
    clear hb
    go_wp2_with fail
    refine (HAg.out _ HS2.out.px).mono ?_
    rintro e w2 ⟨rfl, hb, hp⟩
    have HS3 := hQz (HS2.out.step hb hp)
    clear hb hp HAg HAw
    go_wp2_with (at_builtin; go_loud (refine wpList_append_own_at _ rfl _ _ 26 rfl 0 28 i0 (.agg #[.int .i64 0, .int .i64 0, .string ⟨#[]⟩, .int .i64 0, .string ⟨#[]⟩, .string ⟨#[]⟩, .slice none 0 0, .slice none 0 0, .slice none 0 0, .slice none 0 0]) 10 168 Tryz.underlying26 hi0 hz0 hz1 hz2 rfl (by decide) (u3) (As.length) (es.reverse.flatMap NV.l) rfl (HW.out.own HS3.out _) ⟨w2.heap.size, 0, none⟩ 1 1 (NV.l ⟨op, pa, 0, ⟨#[]⟩, ⟨#[]⟩, ⟨#[]⟩, none, none, none, none, 0, 0, 0, 0, 0, 0, 0, 0⟩) rfl rfl (newsL (heap_alloc_new w2 _)) (one_l _) (by have := (by have := HK4.out; have := Hlt.out; have := HX.out; omega : As.length + 1 ≤ 50331648); unfold maxLen; omega) (by have := (by have := HK4.out; have := Hlt.out; have := HX.out; omega : As.length + 1 ≤ 50331648); omega) (Nat.zero_le _) ?_))
    intro v3 w3 hown hgrow hnil hat
    obtain ⟨g, l, c, rfl, hRB, hS⟩ := HS3.out.appB (by omega) HW.out.hob _ hown hgrow hat
    have HSn := hQz hS
    have HRB := hQz hRB
    clear hown hgrow hnil hat hRB hS
    go_wp2_with fail
    go_roundg f4
    case measure => omega
    case rel =>
     refine ⟨.mk op pa .empty vtN [] [] :: As, kdN op pa none 0 0 :: es, [(g, l, 28)], kb, kt, t4 + 1, o4, ?_, WS.push (.leaf op pa Hop.out HW.out.w) HRB.out, HSn, ?_, HR⟩
     · have h1 := HF4.out
       show _ < _
       omega
     · have h1 := HK4.out
       refine ⟨?_, by omega⟩
       rw [List.length_cons]
       omega
   | none =>
    have hR := HR.out
    rw [aw_none hA] at hR
    replace HR := hQz hR
    clear hR
    dsimp only [Option.isSome] at HAw
    clear hA
    go_wp2_with fail
    refine (HAw.out _ HS0.out.px).mono ?_
    rintro e w1 ⟨rfl, hb⟩
    have HS2 := hQz (HS0.out.keep hb)
    clear hb
    clear HAw HF4
    obtain ⟨vo, vc, hv3⟩ := HW.out.val
    subst hv3
    go_wp2_with fail
    refine (termX HPO.out _ _ _ _ HS2.out.dnW HS2.out.dbW HS2.out.px (by have := HK4.out; have := HK1.out; have := HM.out; omega)).mono ?_
    rintro e w2 ⟨hb, hm⟩
    (try dsimp only at hm)
    have hR := HR.out
    obtain ⟨er, q, hr⟩ | ⟨T5, t5, o5, hr⟩ := pr_cases (termP ws nb P O t4 o4)
    · rw [hr] at hm
      rw [pThen_bad hr] at hR
      obtain rfl : e = .panicked (fcs er q) := hm
      exact ⟨rfl, (HS2.out.bo.trans (Bo.ofBt hb)).toBt, by rw [← hR]⟩
    rw [hr] at hm
    rw [pThen_ok hr] at hR
    (try dsimp only at hR)
    obtain ⟨⟨v, rfl, hE⟩, hp⟩ := hm
    have HL2 := hQz (mv_term (nb := nb) HPO.out.mp HPO.out.mo _ HS2.out.px.pat.le _ _ _ _ hr)
    have HQ2 := hQz hr
    replace HR := hQz hR
    have HS3 := hQz (HS2.out.step hb hp)
    clear hb hp hr hR
    obtain ⟨d, rfl, hd⟩ := hE
    have HS4 := hQz (HS3.out.add hd)
    clear hd
    obtain ⟨op5, at5, vk5, tx5, nu5, vt5, io5, yo5, no5, ko5, iN5, ic5, yN5, yc5, nN5, nc5, kN5, kc5⟩ := d
    unfold NV.v NV.l
    dsimp only
    go_wp2_with fail
    refine (suffixedX HPO.out _ _ _ _ T5 ⟨op5, at5, vk5, tx5, nu5, vt5, io5, yo5, no5, ko5, iN5, ic5, yN5, yc5, nN5, nc5, kN5, kc5⟩ HS4.out.dnW HS4.out.dbW HS4.out.px (by have := HK4.out; have := HK1.out; have := HM.out; have := HL2.out; omega) HS4.out.m0).mono ?_
    rintro e w3 ⟨hb, hm⟩
    (try dsimp only at hm)
    have hR := HR.out
    obtain ⟨er, q, hr⟩ | ⟨T6, t6, o6, hr⟩ := pr_cases (suffixedP ws nb P T5 t5 o5)
    · rw [hr] at hm
      rw [pThen_bad hr] at hR
      obtain rfl : e = .panicked (fcs er q) := hm
      exact ⟨rfl, (HS4.out.bo.trans (Bo.ofBt hb)).toBt, by rw [← hR]⟩
    rw [hr] at hm
    rw [pThen_ok hr] at hR
    (try dsimp only at hR)
    obtain ⟨⟨v, rfl, hE⟩, hp⟩ := hm
    have HL3 := hQz (mv_suffixed (nb := nb) HPO.out.mp T5 _ HS4.out.px.pat.le _ _ _ _ hr)
    have HQ3 := hQz hr
    replace HR := hQz hR
    have HS5 := hQz (HS4.out.step hb hp)
    clear hb hp hr hR
    obtain ⟨d, rfl, hd⟩ := hE
    have HS6 := hQz (HS5.out.add hd)
    clear hd
    obtain ⟨op6, at6, vk6, tx6, nu6, vt6, io6, yo6, no6, ko6, iN6, ic6, yN6, yc6, nN6, nc6, kN6, kc6⟩ := d
    unfold NV.v NV.l
    dsimp only
    have HS7 := hQz (HS6.out.trees ((T6, ⟨op6, at6, vk6, tx6, nu6, vt6, io6, yo6, no6, ko6, iN6, ic6, yN6, yc6, nN6, nc6, kN6, kc6⟩) :: kt) (fun q hq => by rcases List.mem_cons.1 hq with rfl | hq; exact mcS; exact List.mem_cons_of_mem _ (List.mem_cons_of_mem _ hq)))
    obtain ⟨W4, hW4⟩ : ∃ W, w3.alloc (.cells #[.int .i64 op6, .int .i64 at6, .string tx6, .int .i64 vk6, .string nu6, .string vt6, .slice io6 iN6 ic6, .slice yo6 yN6 yc6, .slice no6 nN6 nc6, .slice ko6 kN6 kc6] 28) = W := ⟨_, rfl⟩
    have HS8 := hQz (HS7.out.alloc [.int .i64 op6, .int .i64 at6, .string tx6, .int .i64 vk6, .string nu6, .string vt6, .slice io6 iN6 ic6, .slice yo6 yN6 yc6, .slice no6 nN6 nc6, .slice ko6 kN6 kc6] 28)
    rw [hW4] at HS8
    have hn1 : (0 : Int) ≤ (As.length : Int) := by omega
    have hn2 : (As.length : Int) ≤ 16777216 := by have := HK4.out; have := HS0.out.px.pat.le; have := HX.out; omega
    obtain ⟨N, hN⟩ : ∃ N, As.length = N := ⟨_, rfl⟩
    rw [hN] at hn1 hn2 HW ⊢
    have HNe := hQz hN
    clear hN
    go_wp2_with fail
    clear hW4
    go_loopg [3, 5] N (fun gk v3 v5 wr => ∃ (Bs : List NT) (es : List NV) (kb : Bxs) (kt : List (NT × NV)) (T : NT) (d : NV) (t7 o7 : Nat) (z : Int), v3 = .slice vo N vc ∧ v5 = .int .i64 z ∧ Hid (z = (Bs.length : Int) - 1) ∧ Hid (Bs.length ≤ gk) ∧ Hid (WS (.slice vo N vc) N Bs es wb kb kt) ∧ Hid (SB false D none u B so sc ws nb t7 o7 ((w3.heap.size, d.l, 28) :: (wb ++ (kb ++ [(u.heap.size, [.int .i64 0, .int .i64 0, .string ⟨#[]⟩, .int .i64 0, .string ⟨#[]⟩, .string ⟨#[]⟩, .slice none 0 0, .slice none 0 0, .slice none 0 0, .slice none 0 0], 28)]))) (.slice none 0 0) [] ((T, d) :: kt) wr) ∧ Hid (Bs.length ≤ t7 ∧ t3 ≤ t7) ∧ Hid (pThen (unwindP ws nb P Bs T) (poK ws nb P O f) t7 o7 = R))
    case atStart =>
     refine ⟨As, es, kb, kt, T6, ⟨op6, at6, vk6, tx6, nu6, vt6, io6, yo6, no6, ko6, iN6, ic6, yN6, yc6, nN6, nc6, kN6, kc6⟩, t6, o6, (N : Int) - 1, rfl, rfl, ?_, ?_, HW, HS8, ?_, HR⟩
     · show _ = _
       rw [HNe.out]
     · show _ ≤ _
       have := HNe.out
       omega
     · have h1 := HK4.out
       have h2 := HL2.out
       have h3 := HL3.out
       exact ⟨by omega, by omega⟩
    case round =>
     clear HR HS0 HW HNe HK4
     obtain ⟨Bs, es, kb, kt, T, d, t7, o7, z, rfl, rfl, Hz, HG, HW, HS0, HK, HR⟩ := hrel
     obtain ⟨op7, at7, vk7, tx7, nu7, vt7, io7, yo7, no7, ko7, iN7, ic7, yN7, yc7, nN7, nc7, kN7, kc7⟩ := d
     unfold NV.l at HS0
     dsimp only at HS0
     have hw := HW.out.w
     cases hw with
     | nil =>
      have hR := HR.out
      rw [show pThen (unwindP ws nb P [] T) (poK ws nb P O f) t7 o7 = .ok T t7 o7 from rfl] at hR
      replace HR := hQz hR
      clear hR
      have hz2 : z < 0 := by have := Hz.out; simp at this; omega
      clear Hz HG
      have HS9 := hQz (HS0.out.perm (List.perm_append_comm (l₁ := _ :: wb) (l₂ := [_])))
      obtain ⟨c0, c1, c2, c3, c4, c5, c6, c7, c8, c9⟩ := nd_cells HS9.out.bb1
      obtain ⟨r0, r1, r2, r3, r4, r5, r6, r7, r8, r9⟩ := nd_cells HS9.out.bb0
      obtain ⟨rf0, rf1, rf2, rf3, rf4, rf5, rf6, rf7, rf8, rf9⟩ := nd_frozen HS9.out.bb0
      go_wp2_with fail
      try rw [Exit.noGoto_ret]
      generalize hzZ : ((((((((((wr).setCell ⟨u.heap.size, 0, none⟩ (.int .i64 op7)).setCell ⟨u.heap.size, 1, none⟩ (.int .i64 at7)).setCell ⟨u.heap.size, 2, none⟩ (.string tx7)).setCell ⟨u.heap.size, 3, none⟩ (.int .i64 vk7)).setCell ⟨u.heap.size, 4, none⟩ (.string nu7)).setCell ⟨u.heap.size, 5, none⟩ (.string vt7)).setCell ⟨u.heap.size, 6, none⟩ (.slice io7 iN7 ic7)).setCell ⟨u.heap.size, 7, none⟩ (.slice yo7 yN7 yc7)).setCell ⟨u.heap.size, 8, none⟩ (.slice no7 nN7 nc7)).setCell ⟨u.heap.size, 9, none⟩ (.slice ko7 kN7 kc7) = WZ
      have PZ := nd_set HS9.out.bb0 hzZ
      obtain ⟨m0, m1, m2, m3, m4, m5, m6, m7, m8, m9⟩ := nd_cells PZ.new
      have HZ := HS9.out.put 0 _ _ [.int .i64 op7, .int .i64 at7, .string tx7, .int .i64 vk7, .string nu7, .string vt7, .slice io7 iN7 ic7, .slice yo7 yN7 yc7, .slice no7 nN7 nc7, .slice ko7 kN7 kc7] _ rfl PZ
      refine bodyPost_ret (v := .agg #[.int .i64 op7, .int .i64 at7, .string tx7, .int .i64 vk7, .string nu7, .string vt7, .slice io7 iN7 ic7, .slice yo7 yN7 yc7, .slice no7 nN7 nc7, .slice ko7 kN7 kc7]) (by simp [results, Tryz.results122, go_sem, m0, m1, m2, m3, m4, m5, m6, m7, m8, m9]) rfl ?_
      have hR := HR.out
      refine ⟨HZ.bo.toBt, ?_⟩
      rw [← hR]
      exact ⟨⟨_, rfl, ⟨op7, at7, vk7, tx7, nu7, vt7, io7, yo7, no7, ko7, iN7, ic7, yN7, yc7, nN7, nc7, kN7, kc7⟩, rfl, HZ.t0⟩, HZ.px⟩
     | @leaf op at_ hop Bs es kb kt hw =>
      by_cases hne : op = 10
      · subst hne
        clear hop
        obtain ⟨cc, hc⟩ : ∃ cc, syP ws t7 [99, 97, 116, 99, 104] = cc := ⟨_, rfl⟩
        cases cc with
        | true =>
         obtain ⟨g, l, c, hv, hwb, hlt, hle, hRB⟩ := HW.out.top
         injection hv with hv1 _ hv2
         subst hv1 hv2 hwb
         obtain ⟨k, hk⟩ : ∃ k, Bs.length = k := ⟨_, rfl⟩
         have Hk := hQz hk
         obtain rfl : z = (k : Int) := by have := Hz.out; rw [List.length_cons] at this; omega
         rw [kdN_l, hk] at hRB
         rw [hk] at hlt
         obtain ⟨k0, k1, k2, k3, k4, k5, k6, k7, k8, k9⟩ := HS0.out.topc (List.mem_of_getElem? (i := 1) rfl) hRB
         have HRB := hQz hRB
         have Hle := hQz (And.intro hlt hle)
         have hk1 : (0 : Int) ≤ (k : Int) := by omega
         have hk2 : (k : Int) < (N : Int) := by omega
         have hk3 : (k : Int) ≤ (vc : Int) := by omega
         have Hbd : Hid (k + 1 ≤ 16777216) := by show _ ≤ _; omega
         clear hk hlt hle hRB Hz
         have HS9 := hQz (HS0.out.alloc [.int .i64 10, .int .i64 at_, .string ⟨#[]⟩, .int .i64 0, .string ⟨#[]⟩, .string ⟨#[]⟩, .slice none 0 0, .slice none 0 0, .slice none 0 0, .slice none 0 0] 28)
         obtain ⟨b0, b1, b2, b3, b4, b5, b6, b7, b8, b9⟩ := nd_cells HS9.out.bb1
         have HNw : Hid (∀ X, ((wr.alloc (.cells #[.int .i64 10, .int .i64 at_, .string ⟨#[]⟩, .int .i64 0, .string ⟨#[]⟩, .string ⟨#[]⟩, .slice none 0 0, .slice none 0 0, .slice none 0 0, .slice none 0 0] 28)).alloc X).heap[wr.heap.size + 1]? = some X) := fun X => by have := heap_alloc_new (wr.alloc (.cells #[.int .i64 10, .int .i64 at_, .string ⟨#[]⟩, .int .i64 0, .string ⟨#[]⟩, .string ⟨#[]⟩, .slice none 0 0, .slice none 0 0, .slice none 0 0, .slice none 0 0] 28)) X; rwa [World.size_alloc] at this
         go_wp2_with (at_builtin; go_loud (refine wpList_append_own_at _ rfl _ _ 26 rfl 0 28 i0 (.agg #[.int .i64 0, .int .i64 0, .string ⟨#[]⟩, .int .i64 0, .string ⟨#[]⟩, .string ⟨#[]⟩, .slice none 0 0, .slice none 0 0, .slice none 0 0, .slice none 0 0]) 10 168 Tryz.underlying26 hi0 hz0 hz1 hz2 rfl (by decide) (.slice none 0 0) (0) ([]) rfl (World.ownsRow_nil _ _ _ _) ⟨wr.heap.size + 1, 0, none⟩ 1 1 (NV.l ⟨op7, at7, vk7, tx7, nu7, vt7, io7, yo7, no7, ko7, iN7, ic7, yN7, yc7, nN7, nc7, kN7, kc7⟩) rfl rfl (newsL (HNw.out _)) (one_l _) (by have := (Nat.le_refl 0); unfold maxLen; omega) (by have := (Nat.le_refl 0); omega) (Nat.zero_le _) ?_))
         intro v5 w5 hown hgrow hnil hat
         obtain ⟨g2, l2, c2, rfl, hRB2, hS⟩ := HS9.out.appB (ob := []) (n1 := 1) (by omega) (.inl ⟨rfl, rfl⟩) _ hown hgrow (by simpa using hat)
         have HS10 := hQz (hS)
         have HRB2 := hQz hRB2
         clear HNw hown hgrow hnil hat hRB2 hS
         clear k0 b0 k1 b1 k2 b2 k3 b3 k4 b4 k5 b5 k6 b6 k7 b7 k8 b8 k9 b9
         obtain ⟨s0, s1, s2, s3, s4, s5, s6, s7, s8, s9⟩ := nd_cells HS10.out.bb1
         obtain ⟨sf0, sf1, sf2, sf3, sf4, sf5, sf6, sf7, sf8, sf9⟩ := nd_frozen HS10.out.bb1
         obtain ⟨W6, hW6⟩ : ∃ W, w5.setCell ⟨wr.heap.size, 9, none⟩ (.slice (some ⟨g2, 0, none⟩) 1 c2) = W := ⟨_, rfl⟩
         have P6 := nd_set9 HS10.out.bb1 hW6
         have HS11 := hQz (HS10.out.put 1 _ _ [.int .i64 10, .int .i64 at_, .string ⟨#[]⟩, .int .i64 0, .string ⟨#[]⟩, .string ⟨#[]⟩, .slice none 0 0, .slice none 0 0, .slice none 0 0, .slice (some ⟨g2, 0, none⟩) 1 c2] _ rfl P6)
         clear P6
         obtain ⟨x0, x1, x2, x3, x4, x5, x6, x7, x8, x9⟩ := nd_cells HS11.out.bb1
         have HTt : Hid (∀ W, PX W B so sc ws nb t7 o7 → Calls Tryz.prog 134 #[.pointer (some ⟨B, 0, none⟩), .string ⟨#[99, 97, 116, 99, 104]⟩] W fun e w' => e = .returned (.bool true) ∧ Bt B W w' ∧ PX w' B so sc ws nb (t7 + 1) o7) := fun W hW => takesT [99, 97, 116, 99, 104] hc W hW
         have hR := HR.out
         rw [unw_catch at_ Bs T _ t7 o7 hc] at hR
         replace HR := hQz hR
         clear hR
         go_wp2_with fail
         clear x0 x1 x2 x3 x4 x5 x6 x7 x8 x9
         refine (HTt.out _ HS11.out.px).mono ?_
         rintro e w7 ⟨rfl, hb, hp⟩
         have HS12 := hQz (HS11.out.step hb hp)
         clear hb hp HTt hW6 s0 sf0 s1 sf1 s2 sf2 s3 sf3 s4 sf4 s5 sf5 s6 sf6 s7 sf7 s8 sf8 s9 sf9
         go_wp2_with fail
         have HS13 := hQz ((HS12.out.perm (List.perm_append_comm_assoc [_, _, _] [_] _)).drew)
         obtain ⟨x0, x1, x2, x3, x4, x5, x6, x7, x8, x9⟩ := nd_cells HS13.out.bb2
         refine wp_region_held_drew (S := (fun u1 => u1.cell? ⟨wr.heap.size, 0, none⟩ = some (.int .i64 10) ∧ u1.cell? ⟨wr.heap.size, 1, none⟩ = some (.int .i64 at_) ∧ u1.cell? ⟨wr.heap.size, 2, none⟩ = some (.string ⟨#[]⟩) ∧ u1.cell? ⟨wr.heap.size, 3, none⟩ = some (.int .i64 0) ∧ u1.cell? ⟨wr.heap.size, 4, none⟩ = some (.string ⟨#[]⟩) ∧ u1.cell? ⟨wr.heap.size, 5, none⟩ = some (.string ⟨#[]⟩) ∧ u1.cell? ⟨wr.heap.size, 6, none⟩ = some (.slice none 0 0) ∧ u1.cell? ⟨wr.heap.size, 7, none⟩ = some (.slice none 0 0) ∧ u1.cell? ⟨wr.heap.size, 8, none⟩ = some (.slice none 0 0) ∧ u1.cell? ⟨wr.heap.size, 9, none⟩ = some (.slice (some ⟨g2, 0, none⟩) 1 c2))) (by kernel_rfl) (by exact ⟨x0, x1, x2, x3, x4, x5, x6, x7, x8, x9⟩) (fun hHeld => ?_)
         clear x0 x1 x2 x3 x4 x5 x6 x7 x8 x9
         refine wpAnyH_take (i := 0) (oi := _) (v := .slice (some ⟨g, 0, none⟩) N vc) rfl (by kernel_rfl) (by kernel_rfl) (by kernel_rfl) (fun _ _ _ h => h) (Or.inl ⟨by rfl, ?_⟩) (by assumption) ?_
         · intro w hSw
           go_simp
           try (intro hq; exfalso; omega)
         try simp only [Act.put, qsA, qsB, qsC]
         refine wpAnyH_take (i := 1) (oi := _) (v := .int .i64 (k : Int)) rfl (by kernel_rfl) (by kernel_rfl) (by kernel_rfl) (fun _ _ _ h => h) (Or.inl ⟨by rfl, ?_⟩) (by assumption) ?_
         · intro w hSw
           go_simp
           try (intro hq; exfalso; omega)
         try simp only [Act.put, qsA, qsB, qsC]
         refine wpAnyH_take (i := 2) (oi := _) (v := .slice (some ⟨g, 0, none⟩) k vc) rfl (by kernel_rfl) (by kernel_rfl) (by kernel_rfl) (fun _ _ _ h => h) (Or.inl ⟨by rfl, ?_⟩) (by assumption) ?_
         · intro w hSw
           go_simp
           try (intro hq; exfalso; omega)
         try simp only [Act.put, qsA, qsB, qsC]
         refine wpAnyH_take (i := 3) (oi := _) (v := .agg #[.int .i64 10, .int .i64 at_, .string ⟨#[]⟩, .int .i64 0, .string ⟨#[]⟩, .string ⟨#[]⟩, .slice none 0 0, .slice none 0 0, .slice none 0 0, .slice (some ⟨g2, 0, none⟩) 1 c2]) rfl (by kernel_rfl) (by kernel_rfl) (by kernel_rfl) (fun _ _ _ h => h) (Or.inl ⟨by rfl, ?_⟩) (by assumption) ?_
         · intro w hSw
           obtain ⟨hx0, hx1, hx2, hx3, hx4, hx5, hx6, hx7, hx8, hx9⟩ := hSw
           go_simp
           try (intro hq; exfalso; omega)
         try simp only [Act.put, qsA, qsB, qsC]
         have HA := hQz (HS13.out.keep (below1 w7.drew (.cells #[.int .i64 10, .int .i64 at_, .string ⟨#[]⟩, .int .i64 0, .string ⟨#[]⟩, .string ⟨#[]⟩, .slice none 0 0, .slice none 0 0, .slice none 0 0, .slice (some ⟨g2, 0, none⟩) 1 c2] 28)))
         obtain ⟨x0, x1, x2, x3, x4, x5, x6, x7, x8, x9⟩ := nd_cells HA.out.bb2
         refine wpAnyH_ready (rs := [4]) (by kernel_rfl) (by simp) ?_
         refine AllReadyH.cons (o := _) rfl (fun K2 hK2 => ?_) AllReadyH.nil
         go_simp
         go_wp2_with fail
         refine hK2.out _ _ (by exact ⟨x0, x1, x2, x3, x4, x5, x6, x7, x8, x9⟩) (fun hHeld => ?_)
         clear hK2 K2
         try simp only [Act.put, qsA, qsB, qsC]
         clear x0 x1 x2 x3 x4 x5 x6 x7 x8 x9 HA
         refine wpAnyH_ready (rs := [5]) (by kernel_rfl) (by simp) ?_
         refine AllReadyH.cons (o := _) rfl (fun K2 hK2 => ?_) AllReadyH.nil
         refine step_append_lies _ (by rfl) _ _ _ (by rfl) 0 28 i0 (.agg #[.int .i64 0, .int .i64 0, .string ⟨#[]⟩, .int .i64 0, .string ⟨#[]⟩, .string ⟨#[]⟩, .slice none 0 0, .slice none 0 0, .slice none 0 0, .slice none 0 0]) 10 168 Tryz.underlying26 hi0 hz0 hz1 hz2 rfl (by omega) (.slice (some ⟨g, 0, none⟩) k vc) k (es.reverse.flatMap NV.l) (by rfl) (HS13.out.ownB mcS (RB.cut HRB.out rfl) _) ⟨w7.drew.heap.size, 0, none⟩ 1 1 (NV.l ⟨10, at_, 0, ⟨#[]⟩, ⟨#[]⟩, ⟨#[]⟩, none, none, none, some ⟨g2, 0, none⟩, 0, 0, 0, 0, 0, 0, 1, c2⟩) (by rfl) (by rfl) (newsL (heap_alloc_new w7.drew _)) (one_l _) (by omega) (by have := Hbd.out; unfold maxLen; omega) (by have := Hbd.out; omega) (Nat.zero_le _) _ rfl ?_
         intro g' c' w8 hown hgrow hat hlt
         obtain ⟨g3, l3, c3, hv3, hRB3, hS⟩ := HS13.out.appB (ob := [(g, l, 28)]) (n1 := k + 1) (v := .slice (some ⟨g, 0, none⟩) k vc) (v' := .slice (some ⟨g', 0, none⟩) (k + 1) c') (by omega) (.inr ⟨g, l, rfl, rfl⟩) _ hown hgrow (hat.elim (fun e => .inl e.symm) (fun e => .inr (by rw [e]; simp [Value.ownBlock])))
         injection hv3 with hv1 _ hv2
         injection hv1 with hv1
         injection hv1 with hv1
         subst hv1 hv2
         have HS14 := hQz (hS)
         have HRB3 := hQz hRB3
         clear hown hgrow hat hlt hS hRB3
         obtain ⟨x0, x1, x2, x3, x4, x5, x6, x7, x8, x9⟩ := nd_cells HS14.out.bb2
         refine hK2.out _ _ (by exact ⟨x0, x1, x2, x3, x4, x5, x6, x7, x8, x9⟩) (fun hHeld => ?_)
         clear hK2 K2
         try simp only [Act.put, qsA, qsB, qsC]
         clear x0 x1 x2 x3 x4 x5 x6 x7 x8 x9
         refine wpAnyH_take (i := 6) (oi := _) (v := .slice (some ⟨g', 0, none⟩) (k + 1) c') rfl (by kernel_rfl) (by kernel_rfl) (by kernel_rfl) (fun _ _ _ h => h) (Or.inl ⟨by rfl, ?_⟩) (by assumption) ?_
         · intro w hSw
           go_simp
           try (intro hq; exfalso; omega)
         try simp only [Act.put, qsA, qsB, qsC]
         refine wpAnyH_done (by kernel_rfl) ?_ _
         clear hHeld
         have HSn := hQz (HS14.out.perm (List.perm_append_comm_assoc [_, _] [_, _] _)).unbox.unbox
         go_wp2_with fail
         go_roundg f
         case measure => omega
         case rel =>
          refine ⟨.mk 10 at_ .empty vtN [] [T] :: Bs, kdN 10 at_ (some ⟨g2, 0, none⟩) 1 c2 :: es, [(g', l3, 28)], (g2, l2, 28) :: kb, (T, _) :: kt, t7 + 1, o7, ?_, ?_, HSn, ?_, HR⟩
          · have h1 := HF.out
            have h2 := HK.out
            show _ < _
            omega
          · have h3 := HRB3.out
            rw [← Hk.out] at h3
            have h4 := WS.push (g := g') (.one at_ T ⟨op7, at7, vk7, tx7, nu7, vt7, io7, yo7, no7, ko7, iN7, ic7, yN7, yc7, nN7, nc7, kN7, kc7⟩ g2 c2 l2 HRB2.out hw) h3
            rw [Hk.out] at h4
            exact h4
          · have h1 := HK.out
            have h2 := HK1.out
            rw [List.length_cons] at h1 ⊢
            exact ⟨by omega, by omega⟩
        | false =>
         obtain ⟨g, l, c, hv, hwb, hlt, hle, hRB⟩ := HW.out.top
         injection hv with hv1 _ hv2
         subst hv1 hv2 hwb
         obtain ⟨k, hk⟩ : ∃ k, Bs.length = k := ⟨_, rfl⟩
         have Hk := hQz hk
         obtain rfl : z = (k : Int) := by have := Hz.out; rw [List.length_cons] at this; omega
         rw [kdN_l, hk] at hRB
         rw [hk] at hlt
         obtain ⟨k0, k1, k2, k3, k4, k5, k6, k7, k8, k9⟩ := HS0.out.topc (List.mem_of_getElem? (i := 1) rfl) hRB
         have HRB := hQz hRB
         have Hle := hQz (And.intro hlt hle)
         have hk1 : (0 : Int) ≤ (k : Int) := by omega
         have hk2 : (k : Int) < (N : Int) := by omega
         have hk3 : (k : Int) ≤ (vc : Int) := by omega
         have Hbd : Hid (k + 1 ≤ 16777216) := by show _ ≤ _; omega
         clear hk hlt hle hRB Hz
         have HS9 := hQz (HS0.out.alloc [.int .i64 10, .int .i64 at_, .string ⟨#[]⟩, .int .i64 0, .string ⟨#[]⟩, .string ⟨#[]⟩, .slice none 0 0, .slice none 0 0, .slice none 0 0, .slice none 0 0] 28)
         obtain ⟨b0, b1, b2, b3, b4, b5, b6, b7, b8, b9⟩ := nd_cells HS9.out.bb1
         have HNw : Hid (∀ X, ((wr.alloc (.cells #[.int .i64 10, .int .i64 at_, .string ⟨#[]⟩, .int .i64 0, .string ⟨#[]⟩, .string ⟨#[]⟩, .slice none 0 0, .slice none 0 0, .slice none 0 0, .slice none 0 0] 28)).alloc X).heap[wr.heap.size + 1]? = some X) := fun X => by have := heap_alloc_new (wr.alloc (.cells #[.int .i64 10, .int .i64 at_, .string ⟨#[]⟩, .int .i64 0, .string ⟨#[]⟩, .string ⟨#[]⟩, .slice none 0 0, .slice none 0 0, .slice none 0 0, .slice none 0 0] 28)) X; rwa [World.size_alloc] at this
         go_wp2_with (at_builtin; go_loud (refine wpList_append_own_at _ rfl _ _ 26 rfl 0 28 i0 (.agg #[.int .i64 0, .int .i64 0, .string ⟨#[]⟩, .int .i64 0, .string ⟨#[]⟩, .string ⟨#[]⟩, .slice none 0 0, .slice none 0 0, .slice none 0 0, .slice none 0 0]) 10 168 Tryz.underlying26 hi0 hz0 hz1 hz2 rfl (by decide) (.slice none 0 0) (0) ([]) rfl (World.ownsRow_nil _ _ _ _) ⟨wr.heap.size + 1, 0, none⟩ 1 1 (NV.l ⟨op7, at7, vk7, tx7, nu7, vt7, io7, yo7, no7, ko7, iN7, ic7, yN7, yc7, nN7, nc7, kN7, kc7⟩) rfl rfl (newsL (HNw.out _)) (one_l _) (by have := (Nat.le_refl 0); unfold maxLen; omega) (by have := (Nat.le_refl 0); omega) (Nat.zero_le _) ?_))
         intro v5 w5 hown hgrow hnil hat
         obtain ⟨g2, l2, c2, rfl, hRB2, hS⟩ := HS9.out.appB (ob := []) (n1 := 1) (by omega) (.inl ⟨rfl, rfl⟩) _ hown hgrow (by simpa using hat)
         have HS10 := hQz (hS)
         have HRB2 := hQz hRB2
         clear HNw hown hgrow hnil hat hRB2 hS
         clear k0 b0 k1 b1 k2 b2 k3 b3 k4 b4 k5 b5 k6 b6 k7 b7 k8 b8 k9 b9
         obtain ⟨s0, s1, s2, s3, s4, s5, s6, s7, s8, s9⟩ := nd_cells HS10.out.bb1
         obtain ⟨sf0, sf1, sf2, sf3, sf4, sf5, sf6, sf7, sf8, sf9⟩ := nd_frozen HS10.out.bb1
         obtain ⟨W6, hW6⟩ : ∃ W, w5.setCell ⟨wr.heap.size, 9, none⟩ (.slice (some ⟨g2, 0, none⟩) 1 c2) = W := ⟨_, rfl⟩
         have P6 := nd_set9 HS10.out.bb1 hW6
         have HS11 := hQz (HS10.out.put 1 _ _ [.int .i64 10, .int .i64 at_, .string ⟨#[]⟩, .int .i64 0, .string ⟨#[]⟩, .string ⟨#[]⟩, .slice none 0 0, .slice none 0 0, .slice none 0 0, .slice (some ⟨g2, 0, none⟩) 1 c2] _ rfl P6)
         clear P6
         obtain ⟨x0, x1, x2, x3, x4, x5, x6, x7, x8, x9⟩ := nd_cells HS11.out.bb1
         have HTf : Hid (∀ W, PX W B so sc ws nb t7 o7 → Calls Tryz.prog 134 #[.pointer (some ⟨B, 0, none⟩), .string ⟨#[99, 97, 116, 99, 104]⟩] W fun e w' => e = .returned (.bool false) ∧ Below W.heap.size W w') := fun W hW => takesF [99, 97, 116, 99, 104] hc W hW
         have hR := HR.out
         rw [unw_fin 10 at_ [] Bs T _ t7 o7 (fun h => by rw [hc] at h; exact absurd h.2.2 (by decide))] at hR
         simp only [List.nil_append, List.cons_append] at hR
         replace HR := hQz hR
         clear hR
         go_wp2_with fail
         clear x0 x1 x2 x3 x4 x5 x6 x7 x8 x9
         refine (HTf.out _ HS11.out.px).mono ?_
         rintro e w7 ⟨rfl, hb⟩
         have HS12 := hQz (HS11.out.keep hb)
         clear hb
         obtain ⟨x0, x1, x2, x3, x4, x5, x6, x7, x8, x9⟩ := nd_cells HS12.out.bb1
         go_wp2_with fail
         clear hW6 x0 s0 sf0 x1 s1 sf1 x2 s2 sf2 x3 s3 sf3 x4 s4 sf4 x5 s5 sf5 x6 s6 sf6 x7 s7 sf7 x8 s8 sf8 x9 s9 sf9
         refine (finL HPO.out (op := 10) (at_ := at_) (.inl rfl) HS12.out (by have := HK.out; have := HK1.out; have := HM.out; omega) [T] [⟨op7, at7, vk7, tx7, nu7, vt7, io7, yo7, no7, ko7, iN7, ic7, yN7, yc7, nN7, nc7, kN7, kc7⟩] HRB2.out rfl (els1 HS12.out.m0) (by simp)).mono ?_
         rintro e8 w8 ⟨hb, hm⟩
         (try dsimp only at hm)
         have hR := HR.out
         obtain ⟨er, q, hr⟩ | ⟨T8, t8, o8, hr⟩ := pr_cases (finishedP ws nb P (.mk 10 at_ .empty vtN [] [T]) t7 o7)
         · rw [hr] at hm
           rw [pThen_bad (x := finishedP ws nb P (.mk 10 at_ .empty vtN [] [T])) hr] at hR
           have hm' : e8 = .panicked (fcs er q) := hm
           subst hm'
           exact ⟨rfl, (HS12.out.boB hb).toBt, by rw [← hR]⟩
         rw [hr] at hm
         rw [pThen_ok (x := finishedP ws nb P (.mk 10 at_ .empty vtN [] [T])) hr] at hR
         (try dsimp only at hR)
         obtain ⟨⟨v, rfl, hE⟩, hp⟩ := hm
         obtain ⟨d, rfl, hd⟩ := hE
         have HLfi := hQz (mv_finished (nb := nb) HPO.out.mp _ _ HS12.out.px.pat.le _ _ _ _ hr)
         replace HR := hQz hR
         have HS13 := hQz ((HS12.out.stepR hb hp).add hd)
         clear hb hp hr hR hd HRB2
         obtain ⟨op8, at8, vk8, tx8, nu8, vt8, io8, yo8, no8, ko8, iN8, ic8, yN8, yc8, nN8, nc8, kN8, kc8⟩ := d
         unfold NV.v NV.l
         dsimp only
         go_wp2_with fail
         refine (suffixedX HPO.out _ _ _ _ T8 ⟨op8, at8, vk8, tx8, nu8, vt8, io8, yo8, no8, ko8, iN8, ic8, yN8, yc8, nN8, nc8, kN8, kc8⟩ HS13.out.dnW HS13.out.dbW HS13.out.px (by have := HK.out; have := HK1.out; have := HM.out; have := HLfi.out; omega) HS13.out.m0).mono ?_
         rintro e w9 ⟨hb, hm⟩
         (try dsimp only at hm)
         have hR := HR.out
         obtain ⟨er, q, hr⟩ | ⟨T9, t9, o9, hr⟩ := pr_cases (suffixedP ws nb P T8 t8 o8)
         · rw [hr] at hm
           rw [pThen_bad hr] at hR
           obtain rfl : e = .panicked (fcs er q) := hm
           exact ⟨rfl, (HS13.out.bo.trans (Bo.ofBt hb)).toBt, by rw [← hR]⟩
         rw [hr] at hm
         rw [pThen_ok hr] at hR
         (try dsimp only at hR)
         obtain ⟨⟨v, rfl, hE⟩, hp⟩ := hm
         have HL9 := hQz (mv_suffixed (nb := nb) HPO.out.mp T8 _ HS13.out.px.pat.le _ _ _ _ hr)
         have HQ9 := hQz hr
         replace HR := hQz hR
         have HS14 := hQz (HS13.out.step hb hp)
         clear hb hp hr hR
         obtain ⟨d, rfl, hd⟩ := hE
         have HS15 := hQz (HS14.out.add hd)
         clear hd
         obtain ⟨op9, at9, vk9, tx9, nu9, vt9, io9, yo9, no9, ko9, iN9, ic9, yN9, yc9, nN9, nc9, kN9, kc9⟩ := d
         unfold NV.v NV.l
         dsimp only
         obtain ⟨b0, b1, b2, b3, b4, b5, b6, b7, b8, b9⟩ := nd_cells HS15.out.bb1
         obtain ⟨bf0, bf1, bf2, bf3, bf4, bf5, bf6, bf7, bf8, bf9⟩ := nd_frozen HS15.out.bb1
         go_wp2_with fail
         generalize hz10 : ((((((((((w9).setCell ⟨w3.heap.size, 0, none⟩ (.int .i64 op9)).setCell ⟨w3.heap.size, 1, none⟩ (.int .i64 at9)).setCell ⟨w3.heap.size, 2, none⟩ (.string tx9)).setCell ⟨w3.heap.size, 3, none⟩ (.int .i64 vk9)).setCell ⟨w3.heap.size, 4, none⟩ (.string nu9)).setCell ⟨w3.heap.size, 5, none⟩ (.string vt9)).setCell ⟨w3.heap.size, 6, none⟩ (.slice io9 iN9 ic9)).setCell ⟨w3.heap.size, 7, none⟩ (.slice yo9 yN9 yc9)).setCell ⟨w3.heap.size, 8, none⟩ (.slice no9 nN9 nc9)).setCell ⟨w3.heap.size, 9, none⟩ (.slice ko9 kN9 kc9) = W10
         have P10 := nd_set HS15.out.bb1 hz10
         have HS16 := hQz (HS15.out.put 1 _ _ [.int .i64 op9, .int .i64 at9, .string tx9, .int .i64 vk9, .string nu9, .string vt9, .slice io9 iN9 ic9, .slice yo9 yN9 yc9, .slice no9 nN9 nc9, .slice ko9 kN9 kc9] _ rfl P10)
         clear P10 hz10
         go_wp2_with fail
         have HS17 := hQz ((HS16.out.trees ((T9, ⟨op9, at9, vk9, tx9, nu9, vt9, io9, yo9, no9, ko9, iN9, ic9, yN9, yc9, nN9, nc9, kN9, kc9⟩) :: kt) (fun q hq => by rcases List.mem_cons.1 hq with rfl | hq; exact mcS; exact List.mem_cons_of_mem _ (List.mem_cons_of_mem _ (List.mem_cons_of_mem _ hq)))).unbox)
         go_roundg (gk - 1)
         case measure =>
          have := HG.out
          rw [List.length_cons] at this
          omega
         case rel =>
          refine ⟨Bs, es, kb, kt, T9, ⟨op9, at9, vk9, tx9, nu9, vt9, io9, yo9, no9, ko9, iN9, ic9, yN9, yc9, nN9, nc9, kN9, kc9⟩, t9, o9, (k : Int) - 1, rfl, rfl, ?_, ?_, HW.out.pop hw, HS17, ?_, HR⟩
          · show _ = _
            rw [Hk.out]
          · have := HG.out
            rw [List.length_cons] at this
            show _ ≤ _
            omega
          · have h1 := HK.out
            have h2 := HLfi.out
            have h3 := HL9.out
            rw [List.length_cons] at h1
            exact ⟨by omega, by omega⟩
      · have Hop := hQz hop
        have q10 : (op == 10) = false := by rw [bqZ]; exact hne
        clear hop
        obtain ⟨g, l, c, hv, hwb, hlt, hle, hRB⟩ := HW.out.top
        injection hv with hv1 _ hv2
        subst hv1 hv2 hwb
        obtain ⟨k, hk⟩ : ∃ k, Bs.length = k := ⟨_, rfl⟩
        have Hk := hQz hk
        obtain rfl : z = (k : Int) := by have := Hz.out; rw [List.length_cons] at this; omega
        rw [kdN_l, hk] at hRB
        rw [hk] at hlt
        obtain ⟨k0, k1, k2, k3, k4, k5, k6, k7, k8, k9⟩ := HS0.out.topc (List.mem_of_getElem? (i := 1) rfl) hRB
        have HRB := hQz hRB
        have Hle := hQz (And.intro hlt hle)
        have hk1 : (0 : Int) ≤ (k : Int) := by omega
        have hk2 : (k : Int) < (N : Int) := by omega
        have hk3 : (k : Int) ≤ (vc : Int) := by omega
        have Hbd : Hid (k + 1 ≤ 16777216) := by show _ ≤ _; omega
        clear hk hlt hle hRB Hz
        have HS9 := hQz (HS0.out.alloc [.int .i64 op, .int .i64 at_, .string ⟨#[]⟩, .int .i64 0, .string ⟨#[]⟩, .string ⟨#[]⟩, .slice none 0 0, .slice none 0 0, .slice none 0 0, .slice none 0 0] 28)
        obtain ⟨b0, b1, b2, b3, b4, b5, b6, b7, b8, b9⟩ := nd_cells HS9.out.bb1
        have HNw : Hid (∀ X, ((wr.alloc (.cells #[.int .i64 op, .int .i64 at_, .string ⟨#[]⟩, .int .i64 0, .string ⟨#[]⟩, .string ⟨#[]⟩, .slice none 0 0, .slice none 0 0, .slice none 0 0, .slice none 0 0] 28)).alloc X).heap[wr.heap.size + 1]? = some X) := fun X => by have := heap_alloc_new (wr.alloc (.cells #[.int .i64 op, .int .i64 at_, .string ⟨#[]⟩, .int .i64 0, .string ⟨#[]⟩, .string ⟨#[]⟩, .slice none 0 0, .slice none 0 0, .slice none 0 0, .slice none 0 0] 28)) X; rwa [World.size_alloc] at this
        go_wp2_with (at_builtin; go_loud (refine wpList_append_own_at _ rfl _ _ 26 rfl 0 28 i0 (.agg #[.int .i64 0, .int .i64 0, .string ⟨#[]⟩, .int .i64 0, .string ⟨#[]⟩, .string ⟨#[]⟩, .slice none 0 0, .slice none 0 0, .slice none 0 0, .slice none 0 0]) 10 168 Tryz.underlying26 hi0 hz0 hz1 hz2 rfl (by decide) (.slice none 0 0) (0) ([]) rfl (World.ownsRow_nil _ _ _ _) ⟨wr.heap.size + 1, 0, none⟩ 1 1 (NV.l ⟨op7, at7, vk7, tx7, nu7, vt7, io7, yo7, no7, ko7, iN7, ic7, yN7, yc7, nN7, nc7, kN7, kc7⟩) rfl rfl (newsL (HNw.out _)) (one_l _) (by have := (Nat.le_refl 0); unfold maxLen; omega) (by have := (Nat.le_refl 0); omega) (Nat.zero_le _) ?_))
        intro v5 w5 hown hgrow hnil hat
        obtain ⟨g2, l2, c2, rfl, hRB2, hS⟩ := HS9.out.appB (ob := []) (n1 := 1) (by omega) (.inl ⟨rfl, rfl⟩) _ hown hgrow (by simpa using hat)
        have HS10 := hQz (hS)
        have HRB2 := hQz hRB2
        clear HNw hown hgrow hnil hat hRB2 hS
        clear k0 b0 k1 b1 k2 b2 k3 b3 k4 b4 k5 b5 k6 b6 k7 b7 k8 b8 k9 b9
        obtain ⟨s0, s1, s2, s3, s4, s5, s6, s7, s8, s9⟩ := nd_cells HS10.out.bb1
        obtain ⟨sf0, sf1, sf2, sf3, sf4, sf5, sf6, sf7, sf8, sf9⟩ := nd_frozen HS10.out.bb1
        obtain ⟨W6, hW6⟩ : ∃ W, w5.setCell ⟨wr.heap.size, 9, none⟩ (.slice (some ⟨g2, 0, none⟩) 1 c2) = W := ⟨_, rfl⟩
        have P6 := nd_set9 HS10.out.bb1 hW6
        have HS11 := hQz (HS10.out.put 1 _ _ [.int .i64 op, .int .i64 at_, .string ⟨#[]⟩, .int .i64 0, .string ⟨#[]⟩, .string ⟨#[]⟩, .slice none 0 0, .slice none 0 0, .slice none 0 0, .slice (some ⟨g2, 0, none⟩) 1 c2] _ rfl P6)
        clear P6
        obtain ⟨x0, x1, x2, x3, x4, x5, x6, x7, x8, x9⟩ := nd_cells HS11.out.bb1
        have hR := HR.out
        rw [unw_fin op at_ [] Bs T _ t7 o7 (fun h => hne h.1)] at hR
        simp only [List.nil_append, List.cons_append] at hR
        replace HR := hQz hR
        clear hR
        go_wp2_with fail
        clear hW6 x0 s0 sf0 x1 s1 sf1 x2 s2 sf2 x3 s3 sf3 x4 s4 sf4 x5 s5 sf5 x6 s6 sf6 x7 s7 sf7 x8 s8 sf8 x9 s9 sf9
        refine (finL HPO.out (op := op) (at_ := at_) Hop.out HS11.out (by have := HK.out; have := HK1.out; have := HM.out; omega) [T] [⟨op7, at7, vk7, tx7, nu7, vt7, io7, yo7, no7, ko7, iN7, ic7, yN7, yc7, nN7, nc7, kN7, kc7⟩] HRB2.out rfl (els1 HS11.out.m0) (by simp)).mono ?_
        rintro e7 w7 ⟨hb, hm⟩
        (try dsimp only at hm)
        have hR := HR.out
        obtain ⟨er, q, hr⟩ | ⟨T8, t8, o8, hr⟩ := pr_cases (finishedP ws nb P (.mk op at_ .empty vtN [] [T]) t7 o7)
        · rw [hr] at hm
          rw [pThen_bad (x := finishedP ws nb P (.mk op at_ .empty vtN [] [T])) hr] at hR
          have hm' : e7 = .panicked (fcs er q) := hm
          subst hm'
          exact ⟨rfl, (HS11.out.boB hb).toBt, by rw [← hR]⟩
        rw [hr] at hm
        rw [pThen_ok (x := finishedP ws nb P (.mk op at_ .empty vtN [] [T])) hr] at hR
        (try dsimp only at hR)
        obtain ⟨⟨v, rfl, hE⟩, hp⟩ := hm
        obtain ⟨d, rfl, hd⟩ := hE
        have HLfi := hQz (mv_finished (nb := nb) HPO.out.mp _ _ HS11.out.px.pat.le _ _ _ _ hr)
        replace HR := hQz hR
        have HS12 := hQz ((HS11.out.stepR hb hp).add hd)
        clear hb hp hr hR hd HRB2
        obtain ⟨op8, at8, vk8, tx8, nu8, vt8, io8, yo8, no8, ko8, iN8, ic8, yN8, yc8, nN8, nc8, kN8, kc8⟩ := d
        unfold NV.v NV.l
        dsimp only
        go_wp2_with fail
        refine (suffixedX HPO.out _ _ _ _ T8 ⟨op8, at8, vk8, tx8, nu8, vt8, io8, yo8, no8, ko8, iN8, ic8, yN8, yc8, nN8, nc8, kN8, kc8⟩ HS12.out.dnW HS12.out.dbW HS12.out.px (by have := HK.out; have := HK1.out; have := HM.out; have := HLfi.out; omega) HS12.out.m0).mono ?_
        rintro e w8 ⟨hb, hm⟩
        (try dsimp only at hm)
        have hR := HR.out
        obtain ⟨er, q, hr⟩ | ⟨T9, t9, o9, hr⟩ := pr_cases (suffixedP ws nb P T8 t8 o8)
        · rw [hr] at hm
          rw [pThen_bad hr] at hR
          obtain rfl : e = .panicked (fcs er q) := hm
          exact ⟨rfl, (HS12.out.bo.trans (Bo.ofBt hb)).toBt, by rw [← hR]⟩
        rw [hr] at hm
        rw [pThen_ok hr] at hR
        (try dsimp only at hR)
        obtain ⟨⟨v, rfl, hE⟩, hp⟩ := hm
        have HL8 := hQz (mv_suffixed (nb := nb) HPO.out.mp T8 _ HS12.out.px.pat.le _ _ _ _ hr)
        have HQ8 := hQz hr
        replace HR := hQz hR
        have HS13 := hQz (HS12.out.step hb hp)
        clear hb hp hr hR
        obtain ⟨d, rfl, hd⟩ := hE
        have HS14 := hQz (HS13.out.add hd)
        clear hd
        obtain ⟨op9, at9, vk9, tx9, nu9, vt9, io9, yo9, no9, ko9, iN9, ic9, yN9, yc9, nN9, nc9, kN9, kc9⟩ := d
        unfold NV.v NV.l
        dsimp only
        obtain ⟨b0, b1, b2, b3, b4, b5, b6, b7, b8, b9⟩ := nd_cells HS14.out.bb1
        obtain ⟨bf0, bf1, bf2, bf3, bf4, bf5, bf6, bf7, bf8, bf9⟩ := nd_frozen HS14.out.bb1
        go_wp2_with fail
        generalize hz9 : ((((((((((w8).setCell ⟨w3.heap.size, 0, none⟩ (.int .i64 op9)).setCell ⟨w3.heap.size, 1, none⟩ (.int .i64 at9)).setCell ⟨w3.heap.size, 2, none⟩ (.string tx9)).setCell ⟨w3.heap.size, 3, none⟩ (.int .i64 vk9)).setCell ⟨w3.heap.size, 4, none⟩ (.string nu9)).setCell ⟨w3.heap.size, 5, none⟩ (.string vt9)).setCell ⟨w3.heap.size, 6, none⟩ (.slice io9 iN9 ic9)).setCell ⟨w3.heap.size, 7, none⟩ (.slice yo9 yN9 yc9)).setCell ⟨w3.heap.size, 8, none⟩ (.slice no9 nN9 nc9)).setCell ⟨w3.heap.size, 9, none⟩ (.slice ko9 kN9 kc9) = W9
        have P9 := nd_set HS14.out.bb1 hz9
        have HS15 := hQz (HS14.out.put 1 _ _ [.int .i64 op9, .int .i64 at9, .string tx9, .int .i64 vk9, .string nu9, .string vt9, .slice io9 iN9 ic9, .slice yo9 yN9 yc9, .slice no9 nN9 nc9, .slice ko9 kN9 kc9] _ rfl P9)
        clear P9 hz9
        go_wp2_with fail
        have HS16 := hQz ((HS15.out.trees ((T9, ⟨op9, at9, vk9, tx9, nu9, vt9, io9, yo9, no9, ko9, iN9, ic9, yN9, yc9, nN9, nc9, kN9, kc9⟩) :: kt) (fun q hq => by rcases List.mem_cons.1 hq with rfl | hq; exact mcS; exact List.mem_cons_of_mem _ (List.mem_cons_of_mem _ (List.mem_cons_of_mem _ hq)))).unbox)
        go_roundg (gk - 1)
        case measure =>
         have := HG.out
         rw [List.length_cons] at this
         omega
        case rel =>
         refine ⟨Bs, es, kb, kt, T9, ⟨op9, at9, vk9, tx9, nu9, vt9, io9, yo9, no9, ko9, iN9, ic9, yN9, yc9, nN9, nc9, kN9, kc9⟩, t9, o9, (k : Int) - 1, rfl, rfl, ?_, ?_, HW.out.pop hw, HS16, ?_, HR⟩
         · show _ = _
           rw [Hk.out]
         · have := HG.out
           rw [List.length_cons] at this
           show _ ≤ _
           omega
         · have h1 := HK.out
           have h2 := HLfi.out
           have h3 := HL8.out
           rw [List.length_cons] at h1
           exact ⟨by omega, by omega⟩
     | @one at_ ka e g1 c1 l1 hl Bs es kb kt hw =>
      have Hl1 := hQz hl
      clear hl
      obtain ⟨g, l, c, hv, hwb, hlt, hle, hRB⟩ := HW.out.top
      injection hv with hv1 _ hv2
      subst hv1 hv2 hwb
      obtain ⟨k, hk⟩ : ∃ k, Bs.length = k := ⟨_, rfl⟩
      have Hk := hQz hk
      obtain rfl : z = (k : Int) := by have := Hz.out; rw [List.length_cons] at this; omega
      rw [kdN_l, hk] at hRB
      rw [hk] at hlt
      obtain ⟨k0, k1, k2, k3, k4, k5, k6, k7, k8, k9⟩ := HS0.out.topc (List.mem_of_getElem? (i := 1) rfl) hRB
      have HRB := hQz hRB
      have Hle := hQz (And.intro hlt hle)
      have hk1 : (0 : Int) ≤ (k : Int) := by omega
      have hk2 : (k : Int) < (N : Int) := by omega
      have hk3 : (k : Int) ≤ (vc : Int) := by omega
      have Hbd : Hid (k + 1 ≤ 16777216) := by show _ ≤ _; omega
      clear hk hlt hle hRB Hz
      have HS9 := hQz (HS0.out.alloc [.int .i64 10, .int .i64 at_, .string ⟨#[]⟩, .int .i64 0, .string ⟨#[]⟩, .string ⟨#[]⟩, .slice none 0 0, .slice none 0 0, .slice none 0 0, .slice (some ⟨g1, 0, none⟩) 1 c1] 28)
      obtain ⟨b0, b1, b2, b3, b4, b5, b6, b7, b8, b9⟩ := nd_cells HS9.out.bb1
      have HNw : Hid (∀ X, ((wr.alloc (.cells #[.int .i64 10, .int .i64 at_, .string ⟨#[]⟩, .int .i64 0, .string ⟨#[]⟩, .string ⟨#[]⟩, .slice none 0 0, .slice none 0 0, .slice none 0 0, .slice (some ⟨g1, 0, none⟩) 1 c1] 28)).alloc X).heap[wr.heap.size + 1]? = some X) := fun X => by have := heap_alloc_new (wr.alloc (.cells #[.int .i64 10, .int .i64 at_, .string ⟨#[]⟩, .int .i64 0, .string ⟨#[]⟩, .string ⟨#[]⟩, .slice none 0 0, .slice none 0 0, .slice none 0 0, .slice (some ⟨g1, 0, none⟩) 1 c1] 28)) X; rwa [World.size_alloc] at this
      have HS10 := hQz (HS9.out.perm (List.perm_append_comm_assoc [_, _, _] [_] _))
      go_wp2_with (at_builtin; go_loud (refine wpList_append_own_at _ rfl _ _ 26 rfl 0 28 i0 (.agg #[.int .i64 0, .int .i64 0, .string ⟨#[]⟩, .int .i64 0, .string ⟨#[]⟩, .string ⟨#[]⟩, .slice none 0 0, .slice none 0 0, .slice none 0 0, .slice none 0 0]) 10 168 Tryz.underlying26 hi0 hz0 hz1 hz2 rfl (by decide) (.slice (some ⟨g1, 0, none⟩) 1 c1) (1) (e.l) rfl (HS10.out.ownB mcS Hl1.out _) ⟨wr.heap.size + 1, 0, none⟩ 1 1 (NV.l ⟨op7, at7, vk7, tx7, nu7, vt7, io7, yo7, no7, ko7, iN7, ic7, yN7, yc7, nN7, nc7, kN7, kc7⟩) rfl rfl (newsL (HNw.out _)) (one_l _) (by have := (Nat.le_refl 0); unfold maxLen; omega) (by have := (Nat.le_refl 0); omega) (Nat.zero_le _) ?_))
      intro v5 w5 hown hgrow hnil hat
      obtain ⟨g2, l2, c2, rfl, hRB2, hS⟩ := HS10.out.appB (ob := [(g1, l1, 28)]) (n1 := 2) (by omega) (.inr ⟨g1, l1, rfl, rfl⟩) _ hown hgrow (by simpa using hat)
      have HS11 := hQz (hS)
      have HRB2 := hQz hRB2
      clear HNw hown hgrow hnil hat hRB2 hS
      clear k0 b0 k1 b1 k2 b2 k3 b3 k4 b4 k5 b5 k6 b6 k7 b7 k8 b8 k9 b9
      obtain ⟨s0, s1, s2, s3, s4, s5, s6, s7, s8, s9⟩ := nd_cells HS11.out.bb1
      obtain ⟨sf0, sf1, sf2, sf3, sf4, sf5, sf6, sf7, sf8, sf9⟩ := nd_frozen HS11.out.bb1
      obtain ⟨W6, hW6⟩ : ∃ W, w5.setCell ⟨wr.heap.size, 9, none⟩ (.slice (some ⟨g2, 0, none⟩) 2 c2) = W := ⟨_, rfl⟩
      have P6 := nd_set9 HS11.out.bb1 hW6
      have HS12 := hQz (HS11.out.put 1 _ _ [.int .i64 10, .int .i64 at_, .string ⟨#[]⟩, .int .i64 0, .string ⟨#[]⟩, .string ⟨#[]⟩, .slice none 0 0, .slice none 0 0, .slice none 0 0, .slice (some ⟨g2, 0, none⟩) 2 c2] _ rfl P6)
      clear P6
      obtain ⟨x0, x1, x2, x3, x4, x5, x6, x7, x8, x9⟩ := nd_cells HS12.out.bb1
      have hR := HR.out
      rw [unw_fin 10 at_ [ka] Bs T _ t7 o7 (fun h => by cases h.2.1)] at hR
      simp only [List.nil_append, List.cons_append] at hR
      replace HR := hQz hR
      clear hR
      go_wp2_with fail
      clear hW6 x0 s0 sf0 x1 s1 sf1 x2 s2 sf2 x3 s3 sf3 x4 s4 sf4 x5 s5 sf5 x6 s6 sf6 x7 s7 sf7 x8 s8 sf8 x9 s9 sf9
      refine (finL HPO.out (op := 10) (at_ := at_) (.inl rfl) HS12.out (by have := HK.out; have := HK1.out; have := HM.out; omega) [ka, T] [e, ⟨op7, at7, vk7, tx7, nu7, vt7, io7, yo7, no7, ko7, iN7, ic7, yN7, yc7, nN7, nc7, kN7, kc7⟩] HRB2.out rfl (els2 (HS12.out.m1) HS12.out.m0) (by simp)).mono ?_
      rintro e7 w7 ⟨hb, hm⟩
      (try dsimp only at hm)
      have hR := HR.out
      obtain ⟨er, q, hr⟩ | ⟨T8, t8, o8, hr⟩ := pr_cases (finishedP ws nb P (.mk 10 at_ .empty vtN [] [ka, T]) t7 o7)
      · rw [hr] at hm
        rw [pThen_bad (x := finishedP ws nb P (.mk 10 at_ .empty vtN [] [ka, T])) hr] at hR
        have hm' : e7 = .panicked (fcs er q) := hm
        subst hm'
        exact ⟨rfl, (HS12.out.boB hb).toBt, by rw [← hR]⟩
      rw [hr] at hm
      rw [pThen_ok (x := finishedP ws nb P (.mk 10 at_ .empty vtN [] [ka, T])) hr] at hR
      (try dsimp only at hR)
      obtain ⟨⟨v, rfl, hE⟩, hp⟩ := hm
      obtain ⟨d, rfl, hd⟩ := hE
      have HLfi := hQz (mv_finished (nb := nb) HPO.out.mp _ _ HS12.out.px.pat.le _ _ _ _ hr)
      replace HR := hQz hR
      have HS13 := hQz ((HS12.out.stepR hb hp).add hd)
      clear hb hp hr hR hd HRB2
      obtain ⟨op8, at8, vk8, tx8, nu8, vt8, io8, yo8, no8, ko8, iN8, ic8, yN8, yc8, nN8, nc8, kN8, kc8⟩ := d
      unfold NV.v NV.l
      dsimp only
      go_wp2_with fail
      refine (suffixedX HPO.out _ _ _ _ T8 ⟨op8, at8, vk8, tx8, nu8, vt8, io8, yo8, no8, ko8, iN8, ic8, yN8, yc8, nN8, nc8, kN8, kc8⟩ HS13.out.dnW HS13.out.dbW HS13.out.px (by have := HK.out; have := HK1.out; have := HM.out; have := HLfi.out; omega) HS13.out.m0).mono ?_
      rintro e w8 ⟨hb, hm⟩
      (try dsimp only at hm)
      have hR := HR.out
      obtain ⟨er, q, hr⟩ | ⟨T9, t9, o9, hr⟩ := pr_cases (suffixedP ws nb P T8 t8 o8)
      · rw [hr] at hm
        rw [pThen_bad hr] at hR
        obtain rfl : e = .panicked (fcs er q) := hm
        exact ⟨rfl, (HS13.out.bo.trans (Bo.ofBt hb)).toBt, by rw [← hR]⟩
      rw [hr] at hm
      rw [pThen_ok hr] at hR
      (try dsimp only at hR)
      obtain ⟨⟨v, rfl, hE⟩, hp⟩ := hm
      have HL8 := hQz (mv_suffixed (nb := nb) HPO.out.mp T8 _ HS13.out.px.pat.le _ _ _ _ hr)
      have HQ8 := hQz hr
      replace HR := hQz hR
      have HS14 := hQz (HS13.out.step hb hp)
      clear hb hp hr hR
      obtain ⟨d, rfl, hd⟩ := hE
      have HS15 := hQz (HS14.out.add hd)
      clear hd
      obtain ⟨op9, at9, vk9, tx9, nu9, vt9, io9, yo9, no9, ko9, iN9, ic9, yN9, yc9, nN9, nc9, kN9, kc9⟩ := d
      unfold NV.v NV.l
      dsimp only
      obtain ⟨b0, b1, b2, b3, b4, b5, b6, b7, b8, b9⟩ := nd_cells HS15.out.bb1
      obtain ⟨bf0, bf1, bf2, bf3, bf4, bf5, bf6, bf7, bf8, bf9⟩ := nd_frozen HS15.out.bb1
      go_wp2_with fail
      generalize hz9 : ((((((((((w8).setCell ⟨w3.heap.size, 0, none⟩ (.int .i64 op9)).setCell ⟨w3.heap.size, 1, none⟩ (.int .i64 at9)).setCell ⟨w3.heap.size, 2, none⟩ (.string tx9)).setCell ⟨w3.heap.size, 3, none⟩ (.int .i64 vk9)).setCell ⟨w3.heap.size, 4, none⟩ (.string nu9)).setCell ⟨w3.heap.size, 5, none⟩ (.string vt9)).setCell ⟨w3.heap.size, 6, none⟩ (.slice io9 iN9 ic9)).setCell ⟨w3.heap.size, 7, none⟩ (.slice yo9 yN9 yc9)).setCell ⟨w3.heap.size, 8, none⟩ (.slice no9 nN9 nc9)).setCell ⟨w3.heap.size, 9, none⟩ (.slice ko9 kN9 kc9) = W9
      have P9 := nd_set HS15.out.bb1 hz9
      have HS16 := hQz (HS15.out.put 1 _ _ [.int .i64 op9, .int .i64 at9, .string tx9, .int .i64 vk9, .string nu9, .string vt9, .slice io9 iN9 ic9, .slice yo9 yN9 yc9, .slice no9 nN9 nc9, .slice ko9 kN9 kc9] _ rfl P9)
      clear P9 hz9
      go_wp2_with fail
      have HS17 := hQz ((HS16.out.trees ((T9, ⟨op9, at9, vk9, tx9, nu9, vt9, io9, yo9, no9, ko9, iN9, ic9, yN9, yc9, nN9, nc9, kN9, kc9⟩) :: kt) (fun q hq => by rcases List.mem_cons.1 hq with rfl | hq; exact mcS; exact List.mem_cons_of_mem _ (List.mem_cons_of_mem _ (List.mem_cons_of_mem _ (List.mem_cons_of_mem _ hq))))).unbox)
      go_roundg (gk - 1)
      case measure =>
       have := HG.out
       rw [List.length_cons] at this
       omega
      case rel =>
       refine ⟨Bs, es, kb, kt, T9, ⟨op9, at9, vk9, tx9, nu9, vt9, io9, yo9, no9, ko9, iN9, ic9, yN9, yc9, nN9, nc9, kN9, kc9⟩, t9, o9, (k : Int) - 1, rfl, rfl, ?_, ?_, HW.out.pop hw, HS17, ?_, HR⟩
       · show _ = _
         rw [Hk.out]
       · have := HG.out
         rw [List.length_cons] at this
         show _ ≤ _
         omega
       · have h1 := HK.out
         have h2 := HLfi.out
         have h3 := HL8.out
         rw [List.length_cons] at h1
         exact ⟨by omega, by omega⟩
end
theorem pThen_at {α β : Type} (x : PM α) (K : α → PM β) (t o : Nat) : pThen x K t o = pThen (fun _ _ => x t o) K t o := rfl
theorem opz_le (ws : List Tok) (t : Nat) : (opZ ws t).2.2.1 ≤ 8 := by
 unfold opZ
 dsimp only
 split
 · cases hf : opTz.find? (fun r => r.1 == (hrP ws t).text) with
   | none => exact Nat.zero_le _
   | some r =>
    have hm := List.mem_of_find?_eq_some hf
    have : ∀ r ∈ opTz, r.2.2.1 ≤ 8 := by decide
    exact this r hm
 · exact Nat.zero_le _
section
variable {Fl : Bool} {D : Nat → Prop} {r0 : Option Nat} {w W : World} {B : Nat} {so : Option Addr} {sc : Nat} {ws : List Tok} {nb t o : Nat} {bx : List (Nat × List Value × TypeId)} {rv : Value} {Ts : List NT} {tr : List (NT × NV)}
theorem SB.norow (h : SB Fl D none w B so sc ws nb t o bx rv Ts tr W) : SB Fl D none w B so sc ws nb t o bx (.slice none 0 0) [] tr W :=
 ⟨h.bo, h.px, h.bxs, h.apart, ⟨[], NRw.nil _ _⟩, (fun g hg => by cases hg), h.r0k, (fun q hq => (h.trs q hq).weak (fun b hb _ => ⟨hb.1, hb.2.1, fun e => by cases e⟩)), h.dn, h.db, h.hB, h.p0, (fun _ g hg => by cases hg)⟩
end
section
variable {B : Nat} {so : Option Addr} {sc : Nat} {ws : List Tok} {nb : Nat} {m : Nat} {P : PM NT} {O : Nat → PM NT}
theorem behindX (h : PO B so sc ws nb (m + 1) P O) (least : Nat) (hl1 : 1 ≤ least) : NodeT B so sc ws nb 108 (fun v => #[.pointer (some ⟨B, 0, none⟩), v, .int .i64 (least : Int)]) m (fun T => behindP ws O least T) := by
 intro D u t o T0 d dn db hx hm hd
 dsimp only
 obtain ⟨R, hR⟩ : ∃ R, behindP ws O least T0 t o = R := ⟨_, rfl⟩
 rw [hR]
 unfold behindP at hR
 replace hR := (then_pOk _ _ _).trans hR
 have HR := hQz hR
 have HPO := hQz h
 have HS00 := hQz (SB.new (Fl := true) (tr := [(T0, d)]) hx dn db (fun q hq => by simp only [List.mem_singleton] at hq; subst hq; exact hd))
 have HX := hQz (And.intro hx.pat.le hx.pat.open_)
 have HM := hQz hm
 have hfl0 := Tryz.fldX0
 have hfl1 := Tryz.fldX1
 have hfl3 := Tryz.fldX3
 clear hR h hx hm dn db hd
 obtain ⟨op0, at0, vk0, tx0, nu0, vt0, io0, yo0, no0, ko0, iN0, ic0, yN0, yc0, nN0, nc0, kN0, kc0⟩ := d
 unfold NV.v NV.l
 dsimp only
 obtain ⟨i0, hi0, hz0, hz1, hz2⟩ := info_parts Tryz.infoN
 go_enter Tryz.func108, Tryz.ntmps108
 go_wp2_with fail
 have HS0 := hQz ((HS00.out.alloc [.int .i64 op0, .int .i64 at0, .string tx0, .int .i64 vk0, .string nu0, .string vt0, .slice io0 iN0 ic0, .slice yo0 yN0 yc0, .slice no0 nN0 nc0, .slice ko0 kN0 kc0] 28).alloc [.int .i64 0, .int .i64 0, .string ⟨#[]⟩, .int .i64 0, .string ⟨#[]⟩, .string ⟨#[]⟩, .slice none 0 0, .slice none 0 0, .slice none 0 0, .slice none 0 0] 28)
 rw [World.size_alloc] at HS0
 go_loopw [7, 8] (fun b7 b8 wr => ∃ (Ns : List NT) (A : NT) (d : NV) (mo t3 o3 f : Nat), b8 = .int .i64 (mo : Int) ∧ Hid (ws.length < t3 + f) ∧ Hid (SB true D none u B so sc ws nb t3 o3 [(u.heap.size + 1, [.int .i64 0, .int .i64 0, .string ⟨#[]⟩, .int .i64 0, .string ⟨#[]⟩, .string ⟨#[]⟩, .slice none 0 0, .slice none 0 0, .slice none 0 0, .slice none 0 0], 28), (u.heap.size, d.l, 28)] b7 Ns [(A, d)] wr) ∧ Hid (Ns.length ≤ t3 ∧ t ≤ t3 ∧ o3 = o ∧ mo ≤ 8) ∧ Hid (pThen (lpP (fun (a : List NT × NT × Nat) t o => if (opZ ws t).2.2.1 < least ∨ a.2.2 < (opZ ws t).2.2.1 then .ok (.inr (withinP a.1 a.2.1)) t o else pThen (O ((opZ ws t).2.2.1 + 1)) (fun n => if (opZ ws t).2.2.2 = 1 then pOk (.inl (a.1 ++ [ndP (opZ ws t).2.1 (hrP ws t).at_ [a.2.1]], n, (opZ ws t).2.2.1)) else pOk (.inl ([], ndP (opZ ws t).2.1 (hrP ws t).at_ [withinP a.1 a.2.1, n], if (opZ ws t).2.2.2 = 2 then (opZ ws t).2.2.1 - 1 else (opZ ws t).2.2.1))) (t + 1) o) f (Ns, A, mo)) pOk t3 o3 = R)) (fun _ _ wr => ws.length + 1 - tkOf B wr)
 case atStart => exact ⟨[], T0, ⟨op0, at0, vk0, tx0, nu0, vt0, io0, yo0, no0, ko0, iN0, ic0, yN0, yc0, nN0, nc0, kN0, kc0⟩, 8, t, o, ws.length + 1, rfl, (by show _ < _; have := HX.out; omega), HS0, ⟨Nat.zero_le _, Nat.le_refl _, rfl, Nat.le_refl _⟩, HR⟩
 case round =>
  clear HR HS0 HS00
  obtain ⟨Ns, A, d, mo, t3, o3, f, rfl, HF, HS0, HK, HR⟩ := hrel
  obtain ⟨op1, at1, vk1, tx1, nu1, vt1, io1, yo1, no1, ko1, iN1, ic1, yN1, yc1, nN1, nc1, kN1, kc1⟩ := d
  unfold NV.l at HS0
  dsimp only at HS0
  obtain ⟨f, rfl⟩ : ∃ f', f = f' + 1 := ⟨f - 1, by have := HF.out; have := HS0.out.px.pat.le; omega⟩
  have HTk := hQz HS0.out.px.tk
  have HOp : Hid (∀ w, PX w B so sc ws nb t3 o3 → Calls Tryz.prog 123 #[.pointer (some ⟨B, 0, none⟩)] w fun e w' => e = .returned (opVz (opZ ws t3)) ∧ Below w.heap.size w w') := fun w hw => opX w hw
  have HOl := hQz (And.intro (opz_le ws t3) (op_lt (ws := ws) (t := t3)))
  have HT : Hid (t3 < ws.length → ∀ w, PX w B so sc ws nb t3 o3 → Calls Tryz.prog 109 #[.pointer (some ⟨B, 0, none⟩)] w fun e w' => e = .returned (tokV (hrP ws t3)) ∧ Bt B w w' ∧ PX w' B so sc ws nb (t3 + 1) o3) := fun h w hw => takeX h w hw
  have hR := HR.out
  rw [lp_step] at hR
  (try dsimp only at hR)
  rw [pThen_at] at hR
  (try dsimp only at hR)
  replace HR := hQz hR
  clear hR
  generalize opZ ws t3 = rr at *
  obtain ⟨txo, opo, bio, gro⟩ := rr
  unfold opVz at HOp
  generalize hrP ws t3 = X at *
  obtain ⟨kd, pa, fi, tx, er⟩ := X
  unfold tokV at HT
  dsimp only at HOp HOl HT HR
  go_wp2_with fail
  refine (HOp.out _ HS0.out.px).mono ?_
  rintro e w1 ⟨rfl, hb⟩
  have HS1 := hQz (HS0.out.keep hb)
  clear hb
  obtain ⟨W2, hW2⟩ : ∃ W, w1.alloc (.cells #[.string ⟨txo.toArray⟩, .int .i64 (opo : Int), .int .i64 (bio : Int), .int .i64 (gro : Int)] 132) = W := ⟨_, rfl⟩
  have HS2 := hQz (HS1.out.alloc [.string ⟨txo.toArray⟩, .int .i64 (opo : Int), .int .i64 (bio : Int), .int .i64 (gro : Int)] 132)
  rw [hW2] at HS2
  obtain ⟨c0, c1, c2, c3⟩ := tb_cells HS2.out.bb0
  by_cases hb1 : bio < least
  · have hi1 : (bio : Int) < (least : Int) := by omega
    have hR := HR.out
    rw [pThen_ok (a := .inr (withinP Ns A)) (t' := t3) (o' := o3) (by (try dsimp only); rw [if_pos (.inl hb1)])] at hR
    (try dsimp only at hR)
    replace HR := hQz hR
    clear hR
    obtain ⟨p0, p1, p2, p3, p4, p5, p6, p7, p8, p9⟩ := nd_cells HS2.out.bb2
    obtain ⟨ds, hrw, hfl⟩ := HS2.out.waits
    have HWt := hQz (And.intro hrw hfl)
    clear hrw hfl
    go_wp2_with fail
    refine (withinX _ (u7) (Ns) ds A ⟨op1, at1, vk1, tx1, nu1, vt1, io1, yo1, no1, ko1, iN1, ic1, yN1, yc1, nN1, nc1, kN1, kc1⟩ _ HS2.out.dnW HWt.out.1 HWt.out.2 (by have := HK.out; have := HS0.out.px.pat.le; have := HS0.out.px.pat.few; omega) HS2.out.m0).mono ?_
    rintro e w3 ⟨d, rfl, hb, hd⟩
    have HS3 := hQz ((HS2.out.keep hb).add (hd.weak (fun b hb _ => hb)))
    clear hb hd
    obtain ⟨op5, at5, vk5, tx5, nu5, vt5, io5, yo5, no5, ko5, iN5, ic5, yN5, yc5, nN5, nc5, kN5, kc5⟩ := d
    unfold NV.v NV.l
    dsimp only
    clear HWt
    obtain ⟨r0, r1, r2, r3, r4, r5, r6, r7, r8, r9⟩ := nd_cells HS3.out.bb1
    obtain ⟨rf0, rf1, rf2, rf3, rf4, rf5, rf6, rf7, rf8, rf9⟩ := nd_frozen HS3.out.bb1
    go_wp2_with fail
    generalize hzZ : ((((((((((w3).setCell ⟨u.heap.size + 1, 0, none⟩ (.int .i64 op5)).setCell ⟨u.heap.size + 1, 1, none⟩ (.int .i64 at5)).setCell ⟨u.heap.size + 1, 2, none⟩ (.string tx5)).setCell ⟨u.heap.size + 1, 3, none⟩ (.int .i64 vk5)).setCell ⟨u.heap.size + 1, 4, none⟩ (.string nu5)).setCell ⟨u.heap.size + 1, 5, none⟩ (.string vt5)).setCell ⟨u.heap.size + 1, 6, none⟩ (.slice io5 iN5 ic5)).setCell ⟨u.heap.size + 1, 7, none⟩ (.slice yo5 yN5 yc5)).setCell ⟨u.heap.size + 1, 8, none⟩ (.slice no5 nN5 nc5)).setCell ⟨u.heap.size + 1, 9, none⟩ (.slice ko5 kN5 kc5) = WZ
    have PZ := nd_set HS3.out.bb1 hzZ
    obtain ⟨m0, m1, m2, m3, m4, m5, m6, m7, m8, m9⟩ := nd_cells PZ.new
    have HZ := HS3.out.put 1 _ _ [.int .i64 op5, .int .i64 at5, .string tx5, .int .i64 vk5, .string nu5, .string vt5, .slice io5 iN5 ic5, .slice yo5 yN5 yc5, .slice no5 nN5 nc5, .slice ko5 kN5 kc5] _ rfl PZ
    refine bodyPost_ret (v := .agg #[.int .i64 op5, .int .i64 at5, .string tx5, .int .i64 vk5, .string nu5, .string vt5, .slice io5 iN5 ic5, .slice yo5 yN5 yc5, .slice no5 nN5 nc5, .slice ko5 kN5 kc5]) (by simp [results, Tryz.results108, go_sem, m0, m1, m2, m3, m4, m5, m6, m7, m8, m9]) rfl ?_
    have hR := HR.out
    refine ⟨HZ.bo.toBt, ?_⟩
    rw [← hR]
    exact ⟨⟨_, rfl, ⟨op5, at5, vk5, tx5, nu5, vt5, io5, yo5, no5, ko5, iN5, ic5, yN5, yc5, nN5, nc5, kN5, kc5⟩, rfl, HZ.t0⟩, HZ.px⟩
  have hi1 : ¬ (bio : Int) < (least : Int) := by omega
  by_cases hb2 : mo < bio
  · have hi2 : (mo : Int) < (bio : Int) := by omega
    have hi3 : (bio : Int) > (mo : Int) := by omega
    have hR := HR.out
    rw [pThen_ok (a := .inr (withinP Ns A)) (t' := t3) (o' := o3) (by (try dsimp only); rw [if_pos (.inr hb2)])] at hR
    (try dsimp only at hR)
    replace HR := hQz hR
    clear hR
    obtain ⟨p0, p1, p2, p3, p4, p5, p6, p7, p8, p9⟩ := nd_cells HS2.out.bb2
    obtain ⟨ds, hrw, hfl⟩ := HS2.out.waits
    have HWt := hQz (And.intro hrw hfl)
    clear hrw hfl
    go_wp2_with fail
    refine (withinX _ (u7) (Ns) ds A ⟨op1, at1, vk1, tx1, nu1, vt1, io1, yo1, no1, ko1, iN1, ic1, yN1, yc1, nN1, nc1, kN1, kc1⟩ _ HS2.out.dnW HWt.out.1 HWt.out.2 (by have := HK.out; have := HS0.out.px.pat.le; have := HS0.out.px.pat.few; omega) HS2.out.m0).mono ?_
    rintro e w3 ⟨d, rfl, hb, hd⟩
    have HS3 := hQz ((HS2.out.keep hb).add (hd.weak (fun b hb _ => hb)))
    clear hb hd
    obtain ⟨op5, at5, vk5, tx5, nu5, vt5, io5, yo5, no5, ko5, iN5, ic5, yN5, yc5, nN5, nc5, kN5, kc5⟩ := d
    unfold NV.v NV.l
    dsimp only
    clear HWt
    obtain ⟨r0, r1, r2, r3, r4, r5, r6, r7, r8, r9⟩ := nd_cells HS3.out.bb1
    obtain ⟨rf0, rf1, rf2, rf3, rf4, rf5, rf6, rf7, rf8, rf9⟩ := nd_frozen HS3.out.bb1
    go_wp2_with fail
    generalize hzZ : ((((((((((w3).setCell ⟨u.heap.size + 1, 0, none⟩ (.int .i64 op5)).setCell ⟨u.heap.size + 1, 1, none⟩ (.int .i64 at5)).setCell ⟨u.heap.size + 1, 2, none⟩ (.string tx5)).setCell ⟨u.heap.size + 1, 3, none⟩ (.int .i64 vk5)).setCell ⟨u.heap.size + 1, 4, none⟩ (.string nu5)).setCell ⟨u.heap.size + 1, 5, none⟩ (.string vt5)).setCell ⟨u.heap.size + 1, 6, none⟩ (.slice io5 iN5 ic5)).setCell ⟨u.heap.size + 1, 7, none⟩ (.slice yo5 yN5 yc5)).setCell ⟨u.heap.size + 1, 8, none⟩ (.slice no5 nN5 nc5)).setCell ⟨u.heap.size + 1, 9, none⟩ (.slice ko5 kN5 kc5) = WZ
    have PZ := nd_set HS3.out.bb1 hzZ
    obtain ⟨m0, m1, m2, m3, m4, m5, m6, m7, m8, m9⟩ := nd_cells PZ.new
    have HZ := HS3.out.put 1 _ _ [.int .i64 op5, .int .i64 at5, .string tx5, .int .i64 vk5, .string nu5, .string vt5, .slice io5 iN5 ic5, .slice yo5 yN5 yc5, .slice no5 nN5 nc5, .slice ko5 kN5 kc5] _ rfl PZ
    refine bodyPost_ret (v := .agg #[.int .i64 op5, .int .i64 at5, .string tx5, .int .i64 vk5, .string nu5, .string vt5, .slice io5 iN5 ic5, .slice yo5 yN5 yc5, .slice no5 nN5 nc5, .slice ko5 kN5 kc5]) (by simp [results, Tryz.results108, go_sem, m0, m1, m2, m3, m4, m5, m6, m7, m8, m9]) rfl ?_
    have hR := HR.out
    refine ⟨HZ.bo.toBt, ?_⟩
    rw [← hR]
    exact ⟨⟨_, rfl, ⟨op5, at5, vk5, tx5, nu5, vt5, io5, yo5, no5, ko5, iN5, ic5, yN5, yc5, nN5, nc5, kN5, kc5⟩, rfl, HZ.t0⟩, HZ.px⟩
  have hi2 : ¬ (mo : Int) < (bio : Int) := by omega
  have hi3 : ¬ (bio : Int) > (mo : Int) := by omega
  have hbz : bio ≠ 0 := by omega
  have Hlt := hQz (HOl.out.2 hbz)
  have HB8 := hQz (And.intro hbz HOl.out.1)
  have HOpd : Hid (∀ (D : Nat → Prop) (W : World) (t o : Nat), (∀ b, W.heap.size ≤ b → D b) → (∀ b, D b → b ≠ B) → PX W B so sc ws nb t o → m + 1 ≤ t → Calls Tryz.prog 124 #[.pointer (some ⟨B, 0, none⟩), .int .i64 ((bio : Int) + 1)] W fun e w' => PxR B so sc ws nb W (NdE D) (O (bio + 1) t o) e w') := fun D W t o d1 d2 hx hm => by
   have h := HPO.out.opd (bio + 1) (by omega) (by have := HB8.out.2; omega) D W t o d1 d2 hx hm
   rwa [show ((bio + 1 : Nat) : Int) = (bio : Int) + 1 by omega] at h
  have hR := HR.out
  rw [pThen_congr (y := fun _ _ => pThen (O (bio + 1)) (fun n => if gro = 1 then pOk (.inl (Ns ++ [ndP opo pa [A]], n, bio)) else pOk (.inl ([], ndP opo pa [withinP Ns A, n], if gro = 2 then bio - 1 else bio))) (t3 + 1) o3) (by (try dsimp only); rw [if_neg (by omega)])] at hR
  rw [show ∀ (x : PM ((List NT × NT × Nat) ⊕ NT)) K, pThen (fun _ _ => x (t3 + 1) o3) K t3 o3 = pThen x K (t3 + 1) o3 from fun x K => rfl, pThen_assoc] at hR
  replace HR := hQz hR
  clear hR
  clear hb1 hb2 hbz
  have hbi : (bio : Int) ≤ 8 := by have := HB8.out.2; omega
  have hbj : (0 : Int) ≤ (bio : Int) := by omega
  go_wp2_with fail
  clear hi1 hi2 hi3 c0 c1 c2 c3 hW2
  have HS3 := hQz (HS2.out.drew)
  obtain ⟨c0, c1, c2, c3⟩ := tb_cells HS3.out.bb0
  clear c0 c2 c3
  refine wp_region_K 9 (S := (fun u1 => u1.cell? ⟨w1.heap.size, 1, none⟩ = some (.int .i64 (opo : Int)))) (by kernel_rfl) (by exact c1) (fun hHeld => ?_)
  clear c1
  refine wpAnyK_take (i := 0) (oi := _) (v := .pointer (some ⟨w1.heap.size, 1, none⟩)) rfl (by kernel_rfl) (by kernel_rfl) (by kernel_rfl) (by kernel_rfl) (fun _ _ _ h => h) (Or.inl ⟨by rfl, ?_⟩) (by assumption) ?_
  · intro w hSw
    go_simp
    try (intro hq; exfalso; omega)
  try simp only [Act.put, qsA, qsB, qsC]
  refine wpAnyK_take (i := 1) (oi := _) (v := .int .i64 (opo : Int)) rfl (by kernel_rfl) (by kernel_rfl) (by kernel_rfl) (by kernel_rfl) (fun _ _ _ h => h) (Or.inl ⟨by rfl, ?_⟩) (by assumption) ?_
  · intro w hSw
    go_simp
    try (intro hq; exfalso; omega)
  try simp only [Act.put, qsA, qsB, qsC]
  refine wpAnyK_take (i := 2) (oi := _) (v := .pointer (some ⟨B, 0, none⟩)) rfl (by kernel_rfl) (by kernel_rfl) (by kernel_rfl) (by kernel_rfl) (fun _ _ _ h => h) (Or.inl ⟨by rfl, ?_⟩) (by assumption) ?_
  · intro w hSw
    go_simp
    try (intro hq; exfalso; omega)
  try simp only [Act.put, qsA, qsB, qsC]
  refine wpAnyK_take (i := 3) (oi := _) (v := .pointer (some ⟨B, 0, none⟩)) rfl (by kernel_rfl) (by kernel_rfl) (by kernel_rfl) (by kernel_rfl) (fun _ _ _ h => h) (Or.inl ⟨by rfl, ?_⟩) (by assumption) ?_
  · intro w hSw
    go_simp
    try (intro hq; exfalso; omega)
  try simp only [Act.put, qsA, qsB, qsC]
  refine wpAnyK_take (i := 4) (oi := _) (v := .pointer (some ⟨B, 0, none⟩)) rfl (by kernel_rfl) (by kernel_rfl) (by kernel_rfl) (by kernel_rfl) (fun _ _ _ h => h) (Or.inl ⟨by rfl, ?_⟩) (by assumption) ?_
  · intro w hSw
    go_simp
    try (intro hq; exfalso; omega)
  try simp only [Act.put, qsA, qsB, qsC]
  refine wpAnyK_two (i := 5) (j := 8) (oi := _) (oj := _) (by kernel_rfl) rfl rfl (fun K2 hK2 => ?_) (fun K2 hK2 => ?_)
  · go_simp
    go_at_call 109
    refine (HT.out Hlt.out _ HS3.out.px).mono ?_
    rintro e w3 ⟨rfl, hb, hp⟩
    have HS4 := hQz (HS3.out.step hb hp)
    clear hb hp
    obtain ⟨c0, c1, c2, c3⟩ := tb_cells HS4.out.bb0
    clear c0 c2 c3
    go_wp2_with fail
    refine hK2.out _ _ (fun _ => c1) (fun hHeld => ?_)
    replace hHeld := hHeld (by decide)
    clear hK2 K2
    try simp only [Act.put, qsA, qsB, qsC]
    clear c1
    refine wpAnyK_take (i := 6) (oi := _) (v := .int .i64 (pa : Int)) rfl (by kernel_rfl) (by kernel_rfl) (by kernel_rfl) (by kernel_rfl) (fun _ _ _ h => h) (Or.inl ⟨by rfl, ?_⟩) (by assumption) ?_
    · intro w hSw
      go_simp
      try (intro hq; exfalso; omega)
    try simp only [Act.put, qsA, qsB, qsC]
    refine wpAnyK_take (i := 7) (oi := _) (v := .agg #[.int .i64 (opo : Int), .int .i64 (pa : Int), .string ⟨#[]⟩, .int .i64 0, .string ⟨#[]⟩, .string ⟨#[]⟩, .slice none 0 0, .slice none 0 0, .slice none 0 0, .slice none 0 0]) rfl (by kernel_rfl) (by kernel_rfl) (by kernel_rfl) (by kernel_rfl) (fun _ _ _ h => h) (Or.inl ⟨by rfl, ?_⟩) (by assumption) ?_
    · intro w hSw
      go_simp
      try (intro hq; exfalso; omega)
    try simp only [Act.put, qsA, qsB, qsC]
    refine wpAnyK_one (i := 8) (o := _) (by kernel_rfl) rfl (fun K2 hK2 => ?_)
    go_simp
    have HS5 := hQz (HS4.out.alloc [.int .i64 0, .int .i64 0, .string ⟨#[]⟩, .int .i64 0, .string ⟨#[]⟩, .string ⟨#[]⟩, .slice none 0 0, .slice none 0 0, .slice none 0 0, .slice none 0 0] 28)
    obtain ⟨c0, c1, c2, c3⟩ := tb_cells HS5.out.bb1
    clear c0 c2 c3
    go_wp2_with fail
    refine hK2.out _ _ (fun _ => c1) (fun hHeld => ?_)
    replace hHeld := hHeld (by decide)
    clear hK2 K2
    try simp only [Act.put, qsA, qsB, qsC]
    clear c1
    refine wpAnyK_one (i := 9) (o := _) (by kernel_rfl) rfl (fun K2 hK2 => ?_)
    go_simp
    have HS6 := hQz (HS4.out.alloc [.int .i64 (opo : Int), .int .i64 (pa : Int), .string ⟨#[]⟩, .int .i64 0, .string ⟨#[]⟩, .string ⟨#[]⟩, .slice none 0 0, .slice none 0 0, .slice none 0 0, .slice none 0 0] 28)
    generalize hz4 : (w3.alloc (.cells #[.int .i64 (opo : Int), .int .i64 (pa : Int), .string ⟨#[]⟩, .int .i64 0, .string ⟨#[]⟩, .string ⟨#[]⟩, .slice none 0 0, .slice none 0 0, .slice none 0 0, .slice none 0 0] 28)) = W4 at *
    clear hz4
    go_wp2_with fail
    refine hK2.out _ _ (fun hne => absurd rfl hne) (fun _ => ?_)
    clear hK2 K2
    try simp only [Act.put, qsA, qsB, qsC]
    refine wpAnyK_done (by kernel_rfl) ?_ _
    clear hHeld
    obtain ⟨c0, c1, c2, c3⟩ := tb_cells HS6.out.bb1
    go_wp2_with fail
    clear c0 c1 c2 c3
    refine (HOpd.out _ _ _ _ HS6.out.dnW HS6.out.dbW HS6.out.px (by have := HK.out; have := HM.out; omega)).mono ?_
    rintro e w5 ⟨hb, hm⟩
    (try dsimp only at hm)
    have hR := HR.out
    obtain ⟨er, q, hr⟩ | ⟨T5, t5, o5, hr⟩ := pr_cases (O (bio + 1) (t3 + 1) o3)
    · rw [hr] at hm
      rw [pThen_bad hr] at hR
      obtain rfl : e = .panicked (fcs er q) := hm
      exact ⟨rfl, (HS6.out.bo.trans (Bo.ofBt hb)).toBt, by rw [← hR]⟩
    rw [hr] at hm
    rw [pThen_ok hr] at hR
    (try dsimp only at hR)
    obtain ⟨⟨v, rfl, hE⟩, hp⟩ := hm
    have HL5 := hQz (HPO.out.mo (bio + 1) (by omega) _ HS6.out.px.pat.le _ _ _ _ hr)
    have HO5 := hQz (HPO.out.bo (bio + 1) _ _ _ _ _ HS6.out.px.pat.open_ hr)
    have HQ5 := hQz hr
    replace HR := hQz hR
    have HS7 := hQz (HS6.out.step hb hp)
    clear hb hp hr hR
    obtain ⟨d, rfl, hd⟩ := hE
    have HS8 := hQz (HS7.out.add hd)
    clear hd
    obtain ⟨op5, at5, vk5, tx5, nu5, vt5, io5, yo5, no5, ko5, iN5, ic5, yN5, yc5, nN5, nc5, kN5, kc5⟩ := d
    unfold NV.v NV.l
    dsimp only
    obtain ⟨W6, hW6⟩ : ∃ W, w5.alloc (.cells #[.int .i64 op5, .int .i64 at5, .string tx5, .int .i64 vk5, .string nu5, .string vt5, .slice io5 iN5 ic5, .slice yo5 yN5 yc5, .slice no5 nN5 nc5, .slice ko5 kN5 kc5] 28) = W := ⟨_, rfl⟩
    have HS9 := hQz (HS8.out.alloc [.int .i64 op5, .int .i64 at5, .string tx5, .int .i64 vk5, .string nu5, .string vt5, .slice io5 iN5 ic5, .slice yo5 yN5 yc5, .slice no5 nN5 nc5, .slice ko5 kN5 kc5] 28)
    rw [hW6] at HS9
    obtain ⟨c0, c1, c2, c3⟩ := tb_cells HS9.out.bb2
    by_cases hg : gro = 1
    · have qg : ((gro : Int) == 1) = true := by rw [hg]; rfl
      have HG1 := hQz hg
      have hR := HR.out
      rw [if_pos hg, pThen_ok (x := pOk _) rfl] at hR
      (try dsimp only at hR)
      replace HR := hQz hR
      clear hR
      clear hg
      obtain ⟨p0, p1, p2, p3, p4, p5, p6, p7, p8, p9⟩ := nd_cells HS9.out.bb4
      obtain ⟨W7, hW7⟩ : ∃ W, W6.alloc (.cells #[.int .i64 op1, .int .i64 at1, .string tx1, .int .i64 vk1, .string nu1, .string vt1, .slice io1 iN1 ic1, .slice yo1 yN1 yc1, .slice no1 nN1 nc1, .slice ko1 kN1 kc1] 28) = W := ⟨_, rfl⟩
      have HS10 := hQz (HS9.out.alloc [.int .i64 op1, .int .i64 at1, .string tx1, .int .i64 vk1, .string nu1, .string vt1, .slice io1 iN1 ic1, .slice yo1 yN1 yc1, .slice no1 nN1 nc1, .slice ko1 kN1 kc1] 28)
      rw [hW7] at HS10
      obtain ⟨s0, s1, s2, s3, s4, s5, s6, s7, s8, s9⟩ := nd_cells HS10.out.bb2
      obtain ⟨sf0, sf1, sf2, sf3, sf4, sf5, sf6, sf7, sf8, sf9⟩ := nd_frozen HS10.out.bb2
      obtain ⟨W8, hW8⟩ : ∃ W, W7.setCell ⟨w3.heap.size, 9, none⟩ (.slice (some ⟨W6.heap.size, 0, none⟩) 1 1) = W := ⟨_, rfl⟩
      have P8 := nd_set9 HS10.out.bb2 hW8
      have HS11 := hQz (HS10.out.put 2 _ _ [.int .i64 (opo : Int), .int .i64 (pa : Int), .string ⟨#[]⟩, .int .i64 0, .string ⟨#[]⟩, .string ⟨#[]⟩, .slice none 0 0, .slice none 0 0, .slice none 0 0, .slice (some ⟨W6.heap.size, 0, none⟩) 1 1] _ rfl P8)
      clear P8
      go_wp2_with fail
      clear c0 c1 c2 c3 hW6 hW7 hW8 s0 s1 s2 s3 s4 s5 s6 s7 s8 s9 sf0 sf1 sf2 sf3 sf4 sf5 sf6 sf7 sf8 sf9 p0 p1 p2 p3 p4 p5 p6 p7 p8 p9
      have HS12 := hQz (HS11.out.mkrow (T := ndP opo pa [A]) (d := ⟨(opo : Int), (pa : Int), 0, ⟨#[]⟩, ⟨#[]⟩, ⟨#[]⟩, none, none, none, some ⟨W6.heap.size, 0, none⟩, 0, 0, 0, 0, 0, 0, 1, 1⟩) (fun ht hg hw => NdI.lit (Ts := [A]) (ds := [⟨op1, at1, vk1, tx1, nu1, vt1, io1, yo1, no1, ko1, iN1, ic1, yN1, yc1, nN1, nc1, kN1, kc1⟩]) (opo : Int) (pa : Int) .empty size0 rfl (by simp) hw hg (els1 (ht (A, _) (List.mem_cons_of_mem _ mcS)))))
      have HS13 := hQz (HS12.out.drew)
      obtain ⟨x0, x1, x2, x3, x4, x5, x6, x7, x8, x9⟩ := nd_cells HS13.out.bb1
      obtain ⟨y0, y1, y2, y3, y4, y5, y6, y7, y8, y9⟩ := nd_cells HS13.out.bb0
      refine wp_region_K 6 (S := (fun u1 => u1.cell? ⟨w3.heap.size, 0, none⟩ = some (.int .i64 (opo : Int)) ∧ u1.cell? ⟨w3.heap.size, 1, none⟩ = some (.int .i64 (pa : Int)) ∧ u1.cell? ⟨w3.heap.size, 2, none⟩ = some (.string ⟨#[]⟩) ∧ u1.cell? ⟨w3.heap.size, 3, none⟩ = some (.int .i64 0) ∧ u1.cell? ⟨w3.heap.size, 4, none⟩ = some (.string ⟨#[]⟩) ∧ u1.cell? ⟨w3.heap.size, 5, none⟩ = some (.string ⟨#[]⟩) ∧ u1.cell? ⟨w3.heap.size, 6, none⟩ = some (.slice none 0 0) ∧ u1.cell? ⟨w3.heap.size, 7, none⟩ = some (.slice none 0 0) ∧ u1.cell? ⟨w3.heap.size, 8, none⟩ = some (.slice none 0 0) ∧ u1.cell? ⟨w3.heap.size, 9, none⟩ = some (.slice (some ⟨W6.heap.size, 0, none⟩) 1 1) ∧ u1.cell? ⟨w5.heap.size, 0, none⟩ = some (.int .i64 op5) ∧ u1.cell? ⟨w5.heap.size, 1, none⟩ = some (.int .i64 at5) ∧ u1.cell? ⟨w5.heap.size, 2, none⟩ = some (.string tx5) ∧ u1.cell? ⟨w5.heap.size, 3, none⟩ = some (.int .i64 vk5) ∧ u1.cell? ⟨w5.heap.size, 4, none⟩ = some (.string nu5) ∧ u1.cell? ⟨w5.heap.size, 5, none⟩ = some (.string vt5) ∧ u1.cell? ⟨w5.heap.size, 6, none⟩ = some (.slice io5 iN5 ic5) ∧ u1.cell? ⟨w5.heap.size, 7, none⟩ = some (.slice yo5 yN5 yc5) ∧ u1.cell? ⟨w5.heap.size, 8, none⟩ = some (.slice no5 nN5 nc5) ∧ u1.cell? ⟨w5.heap.size, 9, none⟩ = some (.slice ko5 kN5 kc5))) (by kernel_rfl) (by exact ⟨x0, x1, x2, x3, x4, x5, x6, x7, x8, x9, y0, y1, y2, y3, y4, y5, y6, y7, y8, y9⟩) (fun hHeld => ?_)
      clear x0 y0 x1 y1 x2 y2 x3 y3 x4 y4 x5 y5 x6 y6 x7 y7 x8 y8 x9 y9
      obtain ⟨vo, vc, hv7⟩ := HS13.out.rowV
      subst hv7
      refine wpAnyK_take (i := 0) (oi := _) (v := .slice vo Ns.length vc) rfl (by kernel_rfl) (by kernel_rfl) (by kernel_rfl) (by kernel_rfl) (fun _ _ _ h => h) (Or.inl ⟨by rfl, ?_⟩) (by assumption) ?_
      · intro w hSw
        go_simp
        try (intro hq; exfalso; omega)
      try simp only [Act.put, qsA, qsB, qsC]
      refine wpAnyK_take (i := 1) (oi := _) (v := .agg #[.int .i64 (opo : Int), .int .i64 (pa : Int), .string ⟨#[]⟩, .int .i64 0, .string ⟨#[]⟩, .string ⟨#[]⟩, .slice none 0 0, .slice none 0 0, .slice none 0 0, .slice (some ⟨W6.heap.size, 0, none⟩) 1 1]) rfl (by kernel_rfl) (by kernel_rfl) (by kernel_rfl) (by kernel_rfl) (fun _ _ _ h => h) (Or.inl ⟨by rfl, ?_⟩) (by assumption) ?_
      · intro w hSw
        obtain ⟨hx0, hx1, hx2, hx3, hx4, hx5, hx6, hx7, hx8, hx9, hy0, hy1, hy2, hy3, hy4, hy5, hy6, hy7, hy8, hy9⟩ := hSw
        go_simp
        try (intro hq; exfalso; omega)
      try simp only [Act.put, qsA, qsB, qsC]
      refine wpAnyK_take (i := 4) (oi := _) (v := .agg #[.int .i64 op5, .int .i64 at5, .string tx5, .int .i64 vk5, .string nu5, .string vt5, .slice io5 iN5 ic5, .slice yo5 yN5 yc5, .slice no5 nN5 nc5, .slice ko5 kN5 kc5]) rfl (by kernel_rfl) (by kernel_rfl) (by kernel_rfl) (by kernel_rfl) (fun _ _ _ h => h) (Or.inl ⟨by rfl, ?_⟩) (by assumption) ?_
      · intro w hSw
        obtain ⟨hx0, hx1, hx2, hx3, hx4, hx5, hx6, hx7, hx8, hx9, hy0, hy1, hy2, hy3, hy4, hy5, hy6, hy7, hy8, hy9⟩ := hSw
        go_simp
        try (intro hq; exfalso; omega)
      try simp only [Act.put, qsA, qsB, qsC]
      have HA := hQz (HS13.out.keep (below1 W8.drew (.cells #[.int .i64 (opo : Int), .int .i64 (pa : Int), .string ⟨#[]⟩, .int .i64 0, .string ⟨#[]⟩, .string ⟨#[]⟩, .slice none 0 0, .slice none 0 0, .slice none 0 0, .slice (some ⟨W6.heap.size, 0, none⟩) 1 1] 28)))
      obtain ⟨x0, x1, x2, x3, x4, x5, x6, x7, x8, x9⟩ := nd_cells HA.out.bb1
      obtain ⟨y0, y1, y2, y3, y4, y5, y6, y7, y8, y9⟩ := nd_cells HA.out.bb0
      refine wpAnyK_one (i := 2) (o := _) (by kernel_rfl) rfl (fun K2 hK2 => ?_)
      go_simp
      go_wp2_with fail
      refine hK2.out _ _ (fun _ => ⟨x0, x1, x2, x3, x4, x5, x6, x7, x8, x9, y0, y1, y2, y3, y4, y5, y6, y7, y8, y9⟩) (fun hHeld => ?_)
      replace hHeld := hHeld (by decide)
      clear hK2 K2
      try simp only [Act.put, qsA, qsB, qsC]
      clear x0 y0 x1 y1 x2 y2 x3 y3 x4 y4 x5 y5 x6 y6 x7 y7 x8 y8 x9 y9
      clear HA
      obtain ⟨ds, hrw⟩ := HS13.out.row
      have HRW := hQz hrw
      clear hrw
      refine wpAnyK_one (i := 3) (o := _) (by kernel_rfl) rfl (fun K2 hK2 => ?_)
      refine step_append_lies _ (by rfl) _ _ _ (by rfl) 0 28 i0 (.agg #[.int .i64 0, .int .i64 0, .string ⟨#[]⟩, .int .i64 0, .string ⟨#[]⟩, .string ⟨#[]⟩, .slice none 0 0, .slice none 0 0, .slice none 0 0, .slice none 0 0]) 10 168 Tryz.underlying26 hi0 hz0 hz1 hz2 rfl (by omega) (.slice vo Ns.length vc) Ns.length (ds.flatMap NV.l) (by rfl) (HS13.out.ownA HRW.out _) ⟨W8.drew.heap.size, 0, none⟩ 1 1 (NV.l ⟨(opo : Int), (pa : Int), 0, ⟨#[]⟩, ⟨#[]⟩, ⟨#[]⟩, none, none, none, some ⟨W6.heap.size, 0, none⟩, 0, 0, 0, 0, 0, 0, 1, 1⟩) (by rfl) (by rfl) (newsL (heap_alloc_new W8.drew _)) (one_l _) (by omega) (by have : Ns.length + 1 ≤ 50331648 := (by have := HK.out; have := HS0.out.px.pat.le; have := HS0.out.px.pat.few; omega); unfold maxLen; omega) (by have : Ns.length + 1 ≤ 50331648 := (by have := HK.out; have := HS0.out.px.pat.le; have := HS0.out.px.pat.few; omega); omega) (Nat.zero_le _) _ rfl ?_
      intro g' c' w9 hown hgrow hat hlt
      have HS14 := hQz ((HS13.out.app HRW.out (Us := [ndP opo pa [A]]) (es := [⟨(opo : Int), (pa : Int), 0, ⟨#[]⟩, ⟨#[]⟩, ⟨#[]⟩, none, none, none, some ⟨W6.heap.size, 0, none⟩, 0, 0, 0, 0, 0, 0, 1, 1⟩]) rfl (els1 HS13.out.m0) (fun _ i d hi => by cases i with | zero => cases hi; exact ⟨rfl, by show 1 ≤ 1000; decide⟩ | succ i => cases hi) _ (v' := .slice (some ⟨g', 0, none⟩) (Ns.length + 1) c') (by simpa using hown) hgrow (hat.elim (fun e => .inl e.symm) (fun e => .inr (by rw [e]; simp [Value.ownBlock])))).drop)
      clear hown hgrow hat hlt HRW
      obtain ⟨x0, x1, x2, x3, x4, x5, x6, x7, x8, x9⟩ := nd_cells HS14.out.bb1
      obtain ⟨y0, y1, y2, y3, y4, y5, y6, y7, y8, y9⟩ := nd_cells HS14.out.bb0
      refine hK2.out _ _ (fun _ => ⟨x0, x1, x2, x3, x4, x5, x6, x7, x8, x9, y0, y1, y2, y3, y4, y5, y6, y7, y8, y9⟩) (fun hHeld => ?_)
      replace hHeld := hHeld (by decide)
      clear hK2 K2
      try simp only [Act.put, qsA, qsB, qsC]
      clear x0 y0 x1 y1 x2 y2 x3 y3 x4 y4 x5 y5 x6 y6 x7 y7 x8 y8 x9 y9
      refine wpAnyK_take (i := 5) (oi := _) (v := .slice (some ⟨g', 0, none⟩) (Ns.length + 1) c') rfl (by kernel_rfl) (by kernel_rfl) (by kernel_rfl) (by kernel_rfl) (fun _ _ _ h => h) (Or.inl ⟨by rfl, ?_⟩) (by assumption) ?_
      · intro w hSw
        go_simp
        try (intro hq; exfalso; omega)
      try simp only [Act.put, qsA, qsB, qsC]
      obtain ⟨p0, p1, p2, p3, p4, p5, p6, p7, p8, p9⟩ := nd_cells HS14.out.bb4
      obtain ⟨pf0, pf1, pf2, pf3, pf4, pf5, pf6, pf7, pf8, pf9⟩ := nd_frozen HS14.out.bb4
      refine wpAnyK_one (i := 6) (o := _) (by kernel_rfl) rfl (fun K2 hK2 => ?_)
      go_simp
      generalize hz10 : ((((((((((w9).setCell ⟨u.heap.size, 0, none⟩ (.int .i64 op5)).setCell ⟨u.heap.size, 1, none⟩ (.int .i64 at5)).setCell ⟨u.heap.size, 2, none⟩ (.string tx5)).setCell ⟨u.heap.size, 3, none⟩ (.int .i64 vk5)).setCell ⟨u.heap.size, 4, none⟩ (.string nu5)).setCell ⟨u.heap.size, 5, none⟩ (.string vt5)).setCell ⟨u.heap.size, 6, none⟩ (.slice io5 iN5 ic5)).setCell ⟨u.heap.size, 7, none⟩ (.slice yo5 yN5 yc5)).setCell ⟨u.heap.size, 8, none⟩ (.slice no5 nN5 nc5)).setCell ⟨u.heap.size, 9, none⟩ (.slice ko5 kN5 kc5) = W10
      have P10 := nd_set HS14.out.bb4 hz10
      have HS15 := hQz (HS14.out.put 4 _ _ [.int .i64 op5, .int .i64 at5, .string tx5, .int .i64 vk5, .string nu5, .string vt5, .slice io5 iN5 ic5, .slice yo5 yN5 yc5, .slice no5 nN5 nc5, .slice ko5 kN5 kc5] _ rfl P10)
      clear P10 hz10
      go_wp2_with fail
      refine hK2.out _ _ (fun hne => absurd rfl hne) (fun _ => ?_)
      clear hK2 K2
      try simp only [Act.put, qsA, qsB, qsC]
      refine wpAnyK_done (by kernel_rfl) ?_ _
      clear hHeld p0 pf0 p1 pf1 p2 pf2 p3 pf3 p4 pf4 p5 pf5 p6 pf6 p7 pf7 p8 pf8 p9 pf9
      obtain ⟨c0, c1, c2, c3⟩ := tb_cells HS15.out.bb2
      go_wp2_with fail
      clear c0 c1 c2 c3
      refine (mostX (txo, opo, bio, gro) (Nat.pos_of_ne_zero HB8.out.1) HB8.out.2 _).mono ?_
      rintro e w11 ⟨rfl, hb⟩
      have HS16 := hQz (HS15.out.keep hb)
      clear hb
      go_wp2_with fail
      have HS17 := hQz (HS16.out.unbox.unbox.unbox.only)
      go_roundw
      case rel =>
       refine ⟨Ns ++ [ndP opo pa [A]], T5, ⟨op5, at5, vk5, tx5, nu5, vt5, io5, yo5, no5, ko5, iN5, ic5, yN5, yc5, nN5, nc5, kN5, kc5⟩, bio, t5, o5, f, by first | rfl | (have := HG1.out; rw [if_neg (by omega)]; rfl) | (have := HG1.out; rw [if_neg (by omega)]), ?_, HS17, ?_, HR⟩
       · have h1 := HF.out
         have h2 := HL5.out
         show _ < _
         omega
       · have h1 := HK.out
         have h2 := HL5.out
         have h3 := HO5.out
         have h4 := HB8.out
         refine ⟨?_, by omega, by omega, ?_⟩
         · simp only [List.length_append, List.length_cons, List.length_nil]; omega
         · first | omega | (split <;> omega)
      case measure =>
       rw [HTk.out, HS17.out.px.tk]
       have h2 := HL5.out
       have h3 := Hlt.out
       omega
    · have qg : ((gro : Int) == 1) = false := by rw [bqZ]; omega
      have hR := HR.out
      rw [if_neg hg, pThen_ok (x := pOk _) rfl] at hR
      (try dsimp only at hR)
      replace HR := hQz hR
      clear hR
      clear hg
      go_wp2_with fail
      clear c0 c1 c2 c3 hW6
      have HS10 := hQz (HS9.out.drew)
      obtain ⟨x0, x1, x2, x3, x4, x5, x6, x7, x8, x9⟩ := nd_cells HS10.out.bb4
      obtain ⟨y0, y1, y2, y3, y4, y5, y6, y7, y8, y9⟩ := nd_cells HS10.out.bb0
      refine wp_region_K 6 (S := (fun u1 => u1.cell? ⟨u.heap.size, 0, none⟩ = some (.int .i64 op1) ∧ u1.cell? ⟨u.heap.size, 1, none⟩ = some (.int .i64 at1) ∧ u1.cell? ⟨u.heap.size, 2, none⟩ = some (.string tx1) ∧ u1.cell? ⟨u.heap.size, 3, none⟩ = some (.int .i64 vk1) ∧ u1.cell? ⟨u.heap.size, 4, none⟩ = some (.string nu1) ∧ u1.cell? ⟨u.heap.size, 5, none⟩ = some (.string vt1) ∧ u1.cell? ⟨u.heap.size, 6, none⟩ = some (.slice io1 iN1 ic1) ∧ u1.cell? ⟨u.heap.size, 7, none⟩ = some (.slice yo1 yN1 yc1) ∧ u1.cell? ⟨u.heap.size, 8, none⟩ = some (.slice no1 nN1 nc1) ∧ u1.cell? ⟨u.heap.size, 9, none⟩ = some (.slice ko1 kN1 kc1) ∧ u1.cell? ⟨w5.heap.size, 0, none⟩ = some (.int .i64 op5) ∧ u1.cell? ⟨w5.heap.size, 1, none⟩ = some (.int .i64 at5) ∧ u1.cell? ⟨w5.heap.size, 2, none⟩ = some (.string tx5) ∧ u1.cell? ⟨w5.heap.size, 3, none⟩ = some (.int .i64 vk5) ∧ u1.cell? ⟨w5.heap.size, 4, none⟩ = some (.string nu5) ∧ u1.cell? ⟨w5.heap.size, 5, none⟩ = some (.string vt5) ∧ u1.cell? ⟨w5.heap.size, 6, none⟩ = some (.slice io5 iN5 ic5) ∧ u1.cell? ⟨w5.heap.size, 7, none⟩ = some (.slice yo5 yN5 yc5) ∧ u1.cell? ⟨w5.heap.size, 8, none⟩ = some (.slice no5 nN5 nc5) ∧ u1.cell? ⟨w5.heap.size, 9, none⟩ = some (.slice ko5 kN5 kc5))) (by kernel_rfl) (by exact ⟨x0, x1, x2, x3, x4, x5, x6, x7, x8, x9, y0, y1, y2, y3, y4, y5, y6, y7, y8, y9⟩) (fun hHeld => ?_)
      clear x0 y0 x1 y1 x2 y2 x3 y3 x4 y4 x5 y5 x6 y6 x7 y7 x8 y8 x9 y9
      obtain ⟨ds, hrw, hfl⟩ := HS10.out.waits
      have HWt := hQz (And.intro hrw hfl)
      clear hrw hfl
      refine wpAnyK_take (i := 0) (oi := _) (v := u7) rfl (by kernel_rfl) (by kernel_rfl) (by kernel_rfl) (by kernel_rfl) (fun _ _ _ h => h) (Or.inl ⟨by rfl, ?_⟩) (by assumption) ?_
      · intro w hSw
        go_simp
        try (intro hq; exfalso; omega)
      try simp only [Act.put, qsA, qsB, qsC]
      refine wpAnyK_take (i := 1) (oi := _) (v := .agg #[.int .i64 op1, .int .i64 at1, .string tx1, .int .i64 vk1, .string nu1, .string vt1, .slice io1 iN1 ic1, .slice yo1 yN1 yc1, .slice no1 nN1 nc1, .slice ko1 kN1 kc1]) rfl (by kernel_rfl) (by kernel_rfl) (by kernel_rfl) (by kernel_rfl) (fun _ _ _ h => h) (Or.inl ⟨by rfl, ?_⟩) (by assumption) ?_
      · intro w hSw
        obtain ⟨hx0, hx1, hx2, hx3, hx4, hx5, hx6, hx7, hx8, hx9, hy0, hy1, hy2, hy3, hy4, hy5, hy6, hy7, hy8, hy9⟩ := hSw
        go_simp
        try (intro hq; exfalso; omega)
      try simp only [Act.put, qsA, qsB, qsC]
      refine wpAnyK_take (i := 3) (oi := _) (v := .agg #[.int .i64 op5, .int .i64 at5, .string tx5, .int .i64 vk5, .string nu5, .string vt5, .slice io5 iN5 ic5, .slice yo5 yN5 yc5, .slice no5 nN5 nc5, .slice ko5 kN5 kc5]) rfl (by kernel_rfl) (by kernel_rfl) (by kernel_rfl) (by kernel_rfl) (fun _ _ _ h => h) (Or.inl ⟨by rfl, ?_⟩) (by assumption) ?_
      · intro w hSw
        obtain ⟨hx0, hx1, hx2, hx3, hx4, hx5, hx6, hx7, hx8, hx9, hy0, hy1, hy2, hy3, hy4, hy5, hy6, hy7, hy8, hy9⟩ := hSw
        go_simp
        try (intro hq; exfalso; omega)
      try simp only [Act.put, qsA, qsB, qsC]
      refine wpAnyK_one (i := 2) (o := _) (by kernel_rfl) rfl (fun K2 hK2 => ?_)
      go_simp
      go_at_call 79
      refine (withinX _ u7 Ns ds A ⟨op1, at1, vk1, tx1, nu1, vt1, io1, yo1, no1, ko1, iN1, ic1, yN1, yc1, nN1, nc1, kN1, kc1⟩ _ HS10.out.dnW HWt.out.1 HWt.out.2 (by have := HK.out; have := HS0.out.px.pat.le; have := HS0.out.px.pat.few; omega) HS10.out.m1).mono ?_
      rintro e w7 ⟨d, rfl, hb, hd⟩
      have HS11 := hQz ((HS10.out.keep hb).add (hd.weak (fun b hb _ => hb)))
      clear hb hd
      obtain ⟨op6, at6, vk6, tx6, nu6, vt6, io6, yo6, no6, ko6, iN6, ic6, yN6, yc6, nN6, nc6, kN6, kc6⟩ := d
      unfold NV.v NV.l
      dsimp only
      obtain ⟨x0, x1, x2, x3, x4, x5, x6, x7, x8, x9⟩ := nd_cells HS11.out.bb4
      obtain ⟨y0, y1, y2, y3, y4, y5, y6, y7, y8, y9⟩ := nd_cells HS11.out.bb0
      go_wp2_with fail
      refine hK2.out _ _ (fun _ => ⟨x0, x1, x2, x3, x4, x5, x6, x7, x8, x9, y0, y1, y2, y3, y4, y5, y6, y7, y8, y9⟩) (fun hHeld => ?_)
      replace hHeld := hHeld (by decide)
      clear hK2 K2
      try simp only [Act.put, qsA, qsB, qsC]
      clear x0 y0 x1 y1 x2 y2 x3 y3 x4 y4 x5 y5 x6 y6 x7 y7 x8 y8 x9 y9
      clear HWt
      obtain ⟨W8, hW8⟩ : ∃ W, w7.alloc (.cells #[.int .i64 op6, .int .i64 at6, .string tx6, .int .i64 vk6, .string nu6, .string vt6, .slice io6 iN6 ic6, .slice yo6 yN6 yc6, .slice no6 nN6 nc6, .slice ko6 kN6 kc6, .int .i64 op5, .int .i64 at5, .string tx5, .int .i64 vk5, .string nu5, .string vt5, .slice io5 iN5 ic5, .slice yo5 yN5 yc5, .slice no5 nN5 nc5, .slice ko5 kN5 kc5] 28) = W := ⟨_, rfl⟩
      have HS12 := hQz (HS11.out.alloc [.int .i64 op6, .int .i64 at6, .string tx6, .int .i64 vk6, .string nu6, .string vt6, .slice io6 iN6 ic6, .slice yo6 yN6 yc6, .slice no6 nN6 nc6, .slice ko6 kN6 kc6, .int .i64 op5, .int .i64 at5, .string tx5, .int .i64 vk5, .string nu5, .string vt5, .slice io5 iN5 ic5, .slice yo5 yN5 yc5, .slice no5 nN5 nc5, .slice ko5 kN5 kc5] 28)
      rw [hW8] at HS12
      obtain ⟨x0, x1, x2, x3, x4, x5, x6, x7, x8, x9⟩ := nd_cells HS12.out.bb5
      obtain ⟨y0, y1, y2, y3, y4, y5, y6, y7, y8, y9⟩ := nd_cells HS12.out.bb1
      refine wpAnyK_one (i := 4) (o := _) (by kernel_rfl) rfl (fun K2 hK2 => ?_)
      go_simp
      go_wp2_with fail
      refine hK2.out _ _ (fun _ => ⟨x0, x1, x2, x3, x4, x5, x6, x7, x8, x9, y0, y1, y2, y3, y4, y5, y6, y7, y8, y9⟩) (fun hHeld => ?_)
      replace hHeld := hHeld (by decide)
      clear hK2 K2
      try simp only [Act.put, qsA, qsB, qsC]
      clear x0 y0 x1 y1 x2 y2 x3 y3 x4 y4 x5 y5 x6 y6 x7 y7 x8 y8 x9 y9
      clear hW8
      refine wpAnyK_take (i := 5) (oi := _) (v := .pointer (some ⟨w3.heap.size, 9, none⟩)) rfl (by kernel_rfl) (by kernel_rfl) (by kernel_rfl) (by kernel_rfl) (fun _ _ _ h => h) (Or.inl ⟨by rfl, ?_⟩) (by assumption) ?_
      · intro w hSw
        go_simp
        try (intro hq; exfalso; omega)
      try simp only [Act.put, qsA, qsB, qsC]
      obtain ⟨s0, s1, s2, s3, s4, s5, s6, s7, s8, s9⟩ := nd_cells HS12.out.bb2
      obtain ⟨sf0, sf1, sf2, sf3, sf4, sf5, sf6, sf7, sf8, sf9⟩ := nd_frozen HS12.out.bb2
      obtain ⟨W9, hW9⟩ : ∃ W, W8.setCell ⟨w3.heap.size, 9, none⟩ (.slice (some ⟨w7.heap.size, 0, none⟩) 2 2) = W := ⟨_, rfl⟩
      have P9 := nd_set9 HS12.out.bb2 hW9
      have HS13 := hQz (HS12.out.put 2 _ _ [.int .i64 (opo : Int), .int .i64 (pa : Int), .string ⟨#[]⟩, .int .i64 0, .string ⟨#[]⟩, .string ⟨#[]⟩, .slice none 0 0, .slice none 0 0, .slice none 0 0, .slice (some ⟨w7.heap.size, 0, none⟩) 2 2] _ rfl P9)
      clear P9
      refine wpAnyK_one (i := 6) (o := _) (by kernel_rfl) rfl (fun K2 hK2 => ?_)
      go_simp
      go_wp2_with fail
      refine hK2.out _ _ (fun hne => absurd rfl hne) (fun _ => ?_)
      clear hK2 K2
      try simp only [Act.put, qsA, qsB, qsC]
      refine wpAnyK_done (by kernel_rfl) ?_ _
      clear hHeld hW9 s0 s1 s2 s3 s4 s5 s6 s7 s8 s9 sf0 sf1 sf2 sf3 sf4 sf5 sf6 sf7 sf8 sf9
      have HS14 := hQz ((HS13.out.mkrow (T := ndP opo pa [withinP Ns A, T5]) (d := ⟨(opo : Int), (pa : Int), 0, ⟨#[]⟩, ⟨#[]⟩, ⟨#[]⟩, none, none, none, some ⟨w7.heap.size, 0, none⟩, 0, 0, 0, 0, 0, 0, 2, 2⟩) (fun ht hg hw => NdI.lit (Ts := [withinP Ns A, T5]) (ds := [⟨op6, at6, vk6, tx6, nu6, vt6, io6, yo6, no6, ko6, iN6, ic6, yN6, yc6, nN6, nc6, kN6, kc6⟩, ⟨op5, at5, vk5, tx5, nu5, vt5, io5, yo5, no5, ko5, iN5, ic5, yN5, yc5, nN5, nc5, kN5, kc5⟩]) (opo : Int) (pa : Int) .empty size0 rfl (by simp) hw hg (els2 (ht (_, _) mcS) (ht (T5, _) (List.mem_cons_of_mem _ mcS))))).norow)
      go_wp2_with fail
      have HS15 := hQz (HS14.out.drew)
      obtain ⟨x0, x1, x2, x3, x4, x5, x6, x7, x8, x9⟩ := nd_cells HS15.out.bb1
      refine wp_region_K 2 (S := (fun u1 => u1.cell? ⟨w3.heap.size, 0, none⟩ = some (.int .i64 (opo : Int)) ∧ u1.cell? ⟨w3.heap.size, 1, none⟩ = some (.int .i64 (pa : Int)) ∧ u1.cell? ⟨w3.heap.size, 2, none⟩ = some (.string ⟨#[]⟩) ∧ u1.cell? ⟨w3.heap.size, 3, none⟩ = some (.int .i64 0) ∧ u1.cell? ⟨w3.heap.size, 4, none⟩ = some (.string ⟨#[]⟩) ∧ u1.cell? ⟨w3.heap.size, 5, none⟩ = some (.string ⟨#[]⟩) ∧ u1.cell? ⟨w3.heap.size, 6, none⟩ = some (.slice none 0 0) ∧ u1.cell? ⟨w3.heap.size, 7, none⟩ = some (.slice none 0 0) ∧ u1.cell? ⟨w3.heap.size, 8, none⟩ = some (.slice none 0 0) ∧ u1.cell? ⟨w3.heap.size, 9, none⟩ = some (.slice (some ⟨w7.heap.size, 0, none⟩) 2 2))) (by kernel_rfl) (by exact ⟨x0, x1, x2, x3, x4, x5, x6, x7, x8, x9⟩) (fun hHeld => ?_)
      clear x0 x1 x2 x3 x4 x5 x6 x7 x8 x9
      refine wpAnyK_take (i := 0) (oi := _) (v := .agg #[.int .i64 (opo : Int), .int .i64 (pa : Int), .string ⟨#[]⟩, .int .i64 0, .string ⟨#[]⟩, .string ⟨#[]⟩, .slice none 0 0, .slice none 0 0, .slice none 0 0, .slice (some ⟨w7.heap.size, 0, none⟩) 2 2]) rfl (by kernel_rfl) (by kernel_rfl) (by kernel_rfl) (by kernel_rfl) (fun _ _ _ h => h) (Or.inl ⟨by rfl, ?_⟩) (by assumption) ?_
      · intro w hSw
        obtain ⟨hx0, hx1, hx2, hx3, hx4, hx5, hx6, hx7, hx8, hx9⟩ := hSw
        go_simp
        try (intro hq; exfalso; omega)
      try simp only [Act.put, qsA, qsB, qsC]
      refine wpAnyK_take (i := 1) (oi := _) (v := .slice none 0 0) rfl (by kernel_rfl) (by kernel_rfl) (by kernel_rfl) (by kernel_rfl) (fun _ _ _ h => h) (Or.inl ⟨by rfl, ?_⟩) (by assumption) ?_
      · intro w hSw
        go_simp
        try (intro hq; exfalso; omega)
      try simp only [Act.put, qsA, qsB, qsC]
      generalize hzd : W9.drew = V9 at *
      clear hzd
      obtain ⟨p0, p1, p2, p3, p4, p5, p6, p7, p8, p9⟩ := nd_cells HS15.out.bb4
      obtain ⟨pf0, pf1, pf2, pf3, pf4, pf5, pf6, pf7, pf8, pf9⟩ := nd_frozen HS15.out.bb4
      refine wpAnyK_one (i := 2) (o := _) (by kernel_rfl) rfl (fun K2 hK2 => ?_)
      go_simp
      generalize hz10 : ((((((((((V9).setCell ⟨u.heap.size, 0, none⟩ (.int .i64 (opo : Int))).setCell ⟨u.heap.size, 1, none⟩ (.int .i64 (pa : Int))).setCell ⟨u.heap.size, 2, none⟩ (.string ⟨#[]⟩)).setCell ⟨u.heap.size, 3, none⟩ (.int .i64 0)).setCell ⟨u.heap.size, 4, none⟩ (.string ⟨#[]⟩)).setCell ⟨u.heap.size, 5, none⟩ (.string ⟨#[]⟩)).setCell ⟨u.heap.size, 6, none⟩ (.slice none 0 0)).setCell ⟨u.heap.size, 7, none⟩ (.slice none 0 0)).setCell ⟨u.heap.size, 8, none⟩ (.slice none 0 0)).setCell ⟨u.heap.size, 9, none⟩ (.slice (some ⟨w7.heap.size, 0, none⟩) 2 2) = W10
      have P10 := nd_set HS15.out.bb4 hz10
      have HS16 := hQz (HS15.out.put 4 _ _ [.int .i64 (opo : Int), .int .i64 (pa : Int), .string ⟨#[]⟩, .int .i64 0, .string ⟨#[]⟩, .string ⟨#[]⟩, .slice none 0 0, .slice none 0 0, .slice none 0 0, .slice (some ⟨w7.heap.size, 0, none⟩) 2 2] _ rfl P10)
      clear P10 hz10
      go_wp2_with fail
      refine hK2.out _ _ (fun hne => absurd rfl hne) (fun _ => ?_)
      clear hK2 K2
      try simp only [Act.put, qsA, qsB, qsC]
      refine wpAnyK_done (by kernel_rfl) ?_ _
      clear hHeld p0 pf0 p1 pf1 p2 pf2 p3 pf3 p4 pf4 p5 pf5 p6 pf6 p7 pf7 p8 pf8 p9 pf9
      obtain ⟨c0, c1, c2, c3⟩ := tb_cells HS16.out.bb2
      go_wp2_with fail
      clear c0 c1 c2 c3
      refine (mostX (txo, opo, bio, gro) (Nat.pos_of_ne_zero HB8.out.1) HB8.out.2 _).mono ?_
      rintro e w11 ⟨rfl, hb⟩
      have HS17 := hQz (HS16.out.keep hb)
      clear hb
      go_wp2_with fail
      have HS18 := hQz (HS17.out.unbox.unbox.unbox.only)
      go_roundw
      case rel =>
       refine ⟨[], ndP opo pa [withinP Ns A, T5], ⟨(opo : Int), (pa : Int), 0, ⟨#[]⟩, ⟨#[]⟩, ⟨#[]⟩, none, none, none, some ⟨w7.heap.size, 0, none⟩, 0, 0, 0, 0, 0, 0, 2, 2⟩, if gro = 2 then bio - 1 else bio, t5, o5, f, by first | rfl | (have := HG1.out; rw [if_neg (by omega)]; rfl) | (have := HG1.out; rw [if_neg (by omega)]), ?_, HS18, ?_, HR⟩
       · have h1 := HF.out
         have h2 := HL5.out
         show _ < _
         omega
       · have h1 := HK.out
         have h2 := HL5.out
         have h3 := HO5.out
         have h4 := HB8.out
         refine ⟨?_, by omega, by omega, ?_⟩
         · simp only [List.length_append, List.length_cons, List.length_nil]; omega
         · first | omega | (split <;> omega)
      case measure =>
       rw [HTk.out, HS18.out.px.tk]
       have h2 := HL5.out
       have h3 := Hlt.out
       omega
  · go_simp
    have HS4 := hQz (HS3.out.alloc [.int .i64 0, .int .i64 0, .string ⟨#[]⟩, .int .i64 0, .string ⟨#[]⟩, .string ⟨#[]⟩, .slice none 0 0, .slice none 0 0, .slice none 0 0, .slice none 0 0] 28)
    rw [show W2.drew.heap.size = W2.heap.size from rfl] at HS4
    obtain ⟨c0, c1, c2, c3⟩ := tb_cells HS4.out.bb1
    clear c0 c2 c3
    go_wp2_with fail
    refine hK2.out _ _ (fun _ => c1) (fun hHeld => ?_)
    replace hHeld := hHeld (by decide)
    clear hK2 K2
    try simp only [Act.put, qsA, qsB, qsC]
    clear c1
    refine wpAnyK_one (i := 5) (o := _) (by kernel_rfl) rfl (fun K2 hK2 => ?_)
    go_simp
    go_at_call 109
    refine (HT.out Hlt.out _ HS4.out.px).mono ?_
    rintro e w3 ⟨rfl, hb, hp⟩
    have HS5 := hQz (HS4.out.step hb hp)
    clear hb hp
    obtain ⟨c0, c1, c2, c3⟩ := tb_cells HS5.out.bb1
    clear c0 c2 c3
    go_wp2_with fail
    refine hK2.out _ _ (fun _ => c1) (fun hHeld => ?_)
    replace hHeld := hHeld (by decide)
    clear hK2 K2
    try simp only [Act.put, qsA, qsB, qsC]
    clear c1
    refine wpAnyK_take (i := 6) (oi := _) (v := .int .i64 (pa : Int)) rfl (by kernel_rfl) (by kernel_rfl) (by kernel_rfl) (by kernel_rfl) (fun _ _ _ h => h) (Or.inl ⟨by rfl, ?_⟩) (by assumption) ?_
    · intro w hSw
      go_simp
      try (intro hq; exfalso; omega)
    try simp only [Act.put, qsA, qsB, qsC]
    refine wpAnyK_take (i := 7) (oi := _) (v := .agg #[.int .i64 (opo : Int), .int .i64 (pa : Int), .string ⟨#[]⟩, .int .i64 0, .string ⟨#[]⟩, .string ⟨#[]⟩, .slice none 0 0, .slice none 0 0, .slice none 0 0, .slice none 0 0]) rfl (by kernel_rfl) (by kernel_rfl) (by kernel_rfl) (by kernel_rfl) (fun _ _ _ h => h) (Or.inl ⟨by rfl, ?_⟩) (by assumption) ?_
    · intro w hSw
      go_simp
      try (intro hq; exfalso; omega)
    try simp only [Act.put, qsA, qsB, qsC]
    obtain ⟨p0, p1, p2, p3, p4, p5, p6, p7, p8, p9⟩ := nd_cells HS5.out.bb0
    obtain ⟨pf0, pf1, pf2, pf3, pf4, pf5, pf6, pf7, pf8, pf9⟩ := nd_frozen HS5.out.bb0
    refine wpAnyK_one (i := 9) (o := _) (by kernel_rfl) rfl (fun K2 hK2 => ?_)
    go_simp
    generalize hz4 : ((((((((((w3).setCell ⟨W2.heap.size, 0, none⟩ (.int .i64 (opo : Int))).setCell ⟨W2.heap.size, 1, none⟩ (.int .i64 (pa : Int))).setCell ⟨W2.heap.size, 2, none⟩ (.string ⟨#[]⟩)).setCell ⟨W2.heap.size, 3, none⟩ (.int .i64 0)).setCell ⟨W2.heap.size, 4, none⟩ (.string ⟨#[]⟩)).setCell ⟨W2.heap.size, 5, none⟩ (.string ⟨#[]⟩)).setCell ⟨W2.heap.size, 6, none⟩ (.slice none 0 0)).setCell ⟨W2.heap.size, 7, none⟩ (.slice none 0 0)).setCell ⟨W2.heap.size, 8, none⟩ (.slice none 0 0)).setCell ⟨W2.heap.size, 9, none⟩ (.slice none 0 0) = W4
    have P4 := nd_set HS5.out.bb0 hz4
    have HS6 := hQz (HS5.out.put 0 _ _ [.int .i64 (opo : Int), .int .i64 (pa : Int), .string ⟨#[]⟩, .int .i64 0, .string ⟨#[]⟩, .string ⟨#[]⟩, .slice none 0 0, .slice none 0 0, .slice none 0 0, .slice none 0 0] _ rfl P4)
    clear P4 hz4
    go_wp2_with fail
    refine hK2.out _ _ (fun hne => absurd rfl hne) (fun _ => ?_)
    clear hK2 K2
    try simp only [Act.put, qsA, qsB, qsC]
    refine wpAnyK_done (by kernel_rfl) ?_ _
    clear hHeld p0 pf0 p1 pf1 p2 pf2 p3 pf3 p4 pf4 p5 pf5 p6 pf6 p7 pf7 p8 pf8 p9 pf9
    obtain ⟨c0, c1, c2, c3⟩ := tb_cells HS6.out.bb1
    go_wp2_with fail
    clear c0 c1 c2 c3
    refine (HOpd.out _ _ _ _ HS6.out.dnW HS6.out.dbW HS6.out.px (by have := HK.out; have := HM.out; omega)).mono ?_
    rintro e w5 ⟨hb, hm⟩
    (try dsimp only at hm)
    have hR := HR.out
    obtain ⟨er, q, hr⟩ | ⟨T5, t5, o5, hr⟩ := pr_cases (O (bio + 1) (t3 + 1) o3)
    · rw [hr] at hm
      rw [pThen_bad hr] at hR
      obtain rfl : e = .panicked (fcs er q) := hm
      exact ⟨rfl, (HS6.out.bo.trans (Bo.ofBt hb)).toBt, by rw [← hR]⟩
    rw [hr] at hm
    rw [pThen_ok hr] at hR
    (try dsimp only at hR)
    obtain ⟨⟨v, rfl, hE⟩, hp⟩ := hm
    have HL5 := hQz (HPO.out.mo (bio + 1) (by omega) _ HS6.out.px.pat.le _ _ _ _ hr)
    have HO5 := hQz (HPO.out.bo (bio + 1) _ _ _ _ _ HS6.out.px.pat.open_ hr)
    have HQ5 := hQz hr
    replace HR := hQz hR
    have HS7 := hQz (HS6.out.step hb hp)
    clear hb hp hr hR
    obtain ⟨d, rfl, hd⟩ := hE
    have HS8 := hQz (HS7.out.add hd)
    clear hd
    obtain ⟨op5, at5, vk5, tx5, nu5, vt5, io5, yo5, no5, ko5, iN5, ic5, yN5, yc5, nN5, nc5, kN5, kc5⟩ := d
    unfold NV.v NV.l
    dsimp only
    obtain ⟨W6, hW6⟩ : ∃ W, w5.alloc (.cells #[.int .i64 op5, .int .i64 at5, .string tx5, .int .i64 vk5, .string nu5, .string vt5, .slice io5 iN5 ic5, .slice yo5 yN5 yc5, .slice no5 nN5 nc5, .slice ko5 kN5 kc5] 28) = W := ⟨_, rfl⟩
    have HS9 := hQz (HS8.out.alloc [.int .i64 op5, .int .i64 at5, .string tx5, .int .i64 vk5, .string nu5, .string vt5, .slice io5 iN5 ic5, .slice yo5 yN5 yc5, .slice no5 nN5 nc5, .slice ko5 kN5 kc5] 28)
    rw [hW6] at HS9
    obtain ⟨c0, c1, c2, c3⟩ := tb_cells HS9.out.bb2
    by_cases hg : gro = 1
    · have qg : ((gro : Int) == 1) = true := by rw [hg]; rfl
      have HG1 := hQz hg
      have hR := HR.out
      rw [if_pos hg, pThen_ok (x := pOk _) rfl] at hR
      (try dsimp only at hR)
      replace HR := hQz hR
      clear hR
      clear hg
      obtain ⟨p0, p1, p2, p3, p4, p5, p6, p7, p8, p9⟩ := nd_cells HS9.out.bb4
      obtain ⟨W7, hW7⟩ : ∃ W, W6.alloc (.cells #[.int .i64 op1, .int .i64 at1, .string tx1, .int .i64 vk1, .string nu1, .string vt1, .slice io1 iN1 ic1, .slice yo1 yN1 yc1, .slice no1 nN1 nc1, .slice ko1 kN1 kc1] 28) = W := ⟨_, rfl⟩
      have HS10 := hQz (HS9.out.alloc [.int .i64 op1, .int .i64 at1, .string tx1, .int .i64 vk1, .string nu1, .string vt1, .slice io1 iN1 ic1, .slice yo1 yN1 yc1, .slice no1 nN1 nc1, .slice ko1 kN1 kc1] 28)
      rw [hW7] at HS10
      obtain ⟨s0, s1, s2, s3, s4, s5, s6, s7, s8, s9⟩ := nd_cells HS10.out.bb2
      obtain ⟨sf0, sf1, sf2, sf3, sf4, sf5, sf6, sf7, sf8, sf9⟩ := nd_frozen HS10.out.bb2
      obtain ⟨W8, hW8⟩ : ∃ W, W7.setCell ⟨W2.heap.size, 9, none⟩ (.slice (some ⟨W6.heap.size, 0, none⟩) 1 1) = W := ⟨_, rfl⟩
      have P8 := nd_set9 HS10.out.bb2 hW8
      have HS11 := hQz (HS10.out.put 2 _ _ [.int .i64 (opo : Int), .int .i64 (pa : Int), .string ⟨#[]⟩, .int .i64 0, .string ⟨#[]⟩, .string ⟨#[]⟩, .slice none 0 0, .slice none 0 0, .slice none 0 0, .slice (some ⟨W6.heap.size, 0, none⟩) 1 1] _ rfl P8)
      clear P8
      go_wp2_with fail
      clear c0 c1 c2 c3 hW6 hW7 hW8 s0 s1 s2 s3 s4 s5 s6 s7 s8 s9 sf0 sf1 sf2 sf3 sf4 sf5 sf6 sf7 sf8 sf9 p0 p1 p2 p3 p4 p5 p6 p7 p8 p9
      have HS12 := hQz (HS11.out.mkrow (T := ndP opo pa [A]) (d := ⟨(opo : Int), (pa : Int), 0, ⟨#[]⟩, ⟨#[]⟩, ⟨#[]⟩, none, none, none, some ⟨W6.heap.size, 0, none⟩, 0, 0, 0, 0, 0, 0, 1, 1⟩) (fun ht hg hw => NdI.lit (Ts := [A]) (ds := [⟨op1, at1, vk1, tx1, nu1, vt1, io1, yo1, no1, ko1, iN1, ic1, yN1, yc1, nN1, nc1, kN1, kc1⟩]) (opo : Int) (pa : Int) .empty size0 rfl (by simp) hw hg (els1 (ht (A, _) (List.mem_cons_of_mem _ mcS)))))
      have HS13 := hQz (HS12.out.drew)
      obtain ⟨x0, x1, x2, x3, x4, x5, x6, x7, x8, x9⟩ := nd_cells HS13.out.bb1
      obtain ⟨y0, y1, y2, y3, y4, y5, y6, y7, y8, y9⟩ := nd_cells HS13.out.bb0
      refine wp_region_K 6 (S := (fun u1 => u1.cell? ⟨W2.heap.size, 0, none⟩ = some (.int .i64 (opo : Int)) ∧ u1.cell? ⟨W2.heap.size, 1, none⟩ = some (.int .i64 (pa : Int)) ∧ u1.cell? ⟨W2.heap.size, 2, none⟩ = some (.string ⟨#[]⟩) ∧ u1.cell? ⟨W2.heap.size, 3, none⟩ = some (.int .i64 0) ∧ u1.cell? ⟨W2.heap.size, 4, none⟩ = some (.string ⟨#[]⟩) ∧ u1.cell? ⟨W2.heap.size, 5, none⟩ = some (.string ⟨#[]⟩) ∧ u1.cell? ⟨W2.heap.size, 6, none⟩ = some (.slice none 0 0) ∧ u1.cell? ⟨W2.heap.size, 7, none⟩ = some (.slice none 0 0) ∧ u1.cell? ⟨W2.heap.size, 8, none⟩ = some (.slice none 0 0) ∧ u1.cell? ⟨W2.heap.size, 9, none⟩ = some (.slice (some ⟨W6.heap.size, 0, none⟩) 1 1) ∧ u1.cell? ⟨w5.heap.size, 0, none⟩ = some (.int .i64 op5) ∧ u1.cell? ⟨w5.heap.size, 1, none⟩ = some (.int .i64 at5) ∧ u1.cell? ⟨w5.heap.size, 2, none⟩ = some (.string tx5) ∧ u1.cell? ⟨w5.heap.size, 3, none⟩ = some (.int .i64 vk5) ∧ u1.cell? ⟨w5.heap.size, 4, none⟩ = some (.string nu5) ∧ u1.cell? ⟨w5.heap.size, 5, none⟩ = some (.string vt5) ∧ u1.cell? ⟨w5.heap.size, 6, none⟩ = some (.slice io5 iN5 ic5) ∧ u1.cell? ⟨w5.heap.size, 7, none⟩ = some (.slice yo5 yN5 yc5) ∧ u1.cell? ⟨w5.heap.size, 8, none⟩ = some (.slice no5 nN5 nc5) ∧ u1.cell? ⟨w5.heap.size, 9, none⟩ = some (.slice ko5 kN5 kc5))) (by kernel_rfl) (by exact ⟨x0, x1, x2, x3, x4, x5, x6, x7, x8, x9, y0, y1, y2, y3, y4, y5, y6, y7, y8, y9⟩) (fun hHeld => ?_)
      clear x0 y0 x1 y1 x2 y2 x3 y3 x4 y4 x5 y5 x6 y6 x7 y7 x8 y8 x9 y9
      obtain ⟨vo, vc, hv7⟩ := HS13.out.rowV
      subst hv7
      refine wpAnyK_take (i := 0) (oi := _) (v := .slice vo Ns.length vc) rfl (by kernel_rfl) (by kernel_rfl) (by kernel_rfl) (by kernel_rfl) (fun _ _ _ h => h) (Or.inl ⟨by rfl, ?_⟩) (by assumption) ?_
      · intro w hSw
        go_simp
        try (intro hq; exfalso; omega)
      try simp only [Act.put, qsA, qsB, qsC]
      refine wpAnyK_take (i := 1) (oi := _) (v := .agg #[.int .i64 (opo : Int), .int .i64 (pa : Int), .string ⟨#[]⟩, .int .i64 0, .string ⟨#[]⟩, .string ⟨#[]⟩, .slice none 0 0, .slice none 0 0, .slice none 0 0, .slice (some ⟨W6.heap.size, 0, none⟩) 1 1]) rfl (by kernel_rfl) (by kernel_rfl) (by kernel_rfl) (by kernel_rfl) (fun _ _ _ h => h) (Or.inl ⟨by rfl, ?_⟩) (by assumption) ?_
      · intro w hSw
        obtain ⟨hx0, hx1, hx2, hx3, hx4, hx5, hx6, hx7, hx8, hx9, hy0, hy1, hy2, hy3, hy4, hy5, hy6, hy7, hy8, hy9⟩ := hSw
        go_simp
        try (intro hq; exfalso; omega)
      try simp only [Act.put, qsA, qsB, qsC]
      refine wpAnyK_take (i := 4) (oi := _) (v := .agg #[.int .i64 op5, .int .i64 at5, .string tx5, .int .i64 vk5, .string nu5, .string vt5, .slice io5 iN5 ic5, .slice yo5 yN5 yc5, .slice no5 nN5 nc5, .slice ko5 kN5 kc5]) rfl (by kernel_rfl) (by kernel_rfl) (by kernel_rfl) (by kernel_rfl) (fun _ _ _ h => h) (Or.inl ⟨by rfl, ?_⟩) (by assumption) ?_
      · intro w hSw
        obtain ⟨hx0, hx1, hx2, hx3, hx4, hx5, hx6, hx7, hx8, hx9, hy0, hy1, hy2, hy3, hy4, hy5, hy6, hy7, hy8, hy9⟩ := hSw
        go_simp
        try (intro hq; exfalso; omega)
      try simp only [Act.put, qsA, qsB, qsC]
      have HA := hQz (HS13.out.keep (below1 W8.drew (.cells #[.int .i64 (opo : Int), .int .i64 (pa : Int), .string ⟨#[]⟩, .int .i64 0, .string ⟨#[]⟩, .string ⟨#[]⟩, .slice none 0 0, .slice none 0 0, .slice none 0 0, .slice (some ⟨W6.heap.size, 0, none⟩) 1 1] 28)))
      obtain ⟨x0, x1, x2, x3, x4, x5, x6, x7, x8, x9⟩ := nd_cells HA.out.bb1
      obtain ⟨y0, y1, y2, y3, y4, y5, y6, y7, y8, y9⟩ := nd_cells HA.out.bb0
      refine wpAnyK_one (i := 2) (o := _) (by kernel_rfl) rfl (fun K2 hK2 => ?_)
      go_simp
      go_wp2_with fail
      refine hK2.out _ _ (fun _ => ⟨x0, x1, x2, x3, x4, x5, x6, x7, x8, x9, y0, y1, y2, y3, y4, y5, y6, y7, y8, y9⟩) (fun hHeld => ?_)
      replace hHeld := hHeld (by decide)
      clear hK2 K2
      try simp only [Act.put, qsA, qsB, qsC]
      clear x0 y0 x1 y1 x2 y2 x3 y3 x4 y4 x5 y5 x6 y6 x7 y7 x8 y8 x9 y9
      clear HA
      obtain ⟨ds, hrw⟩ := HS13.out.row
      have HRW := hQz hrw
      clear hrw
      refine wpAnyK_one (i := 3) (o := _) (by kernel_rfl) rfl (fun K2 hK2 => ?_)
      refine step_append_lies _ (by rfl) _ _ _ (by rfl) 0 28 i0 (.agg #[.int .i64 0, .int .i64 0, .string ⟨#[]⟩, .int .i64 0, .string ⟨#[]⟩, .string ⟨#[]⟩, .slice none 0 0, .slice none 0 0, .slice none 0 0, .slice none 0 0]) 10 168 Tryz.underlying26 hi0 hz0 hz1 hz2 rfl (by omega) (.slice vo Ns.length vc) Ns.length (ds.flatMap NV.l) (by rfl) (HS13.out.ownA HRW.out _) ⟨W8.drew.heap.size, 0, none⟩ 1 1 (NV.l ⟨(opo : Int), (pa : Int), 0, ⟨#[]⟩, ⟨#[]⟩, ⟨#[]⟩, none, none, none, some ⟨W6.heap.size, 0, none⟩, 0, 0, 0, 0, 0, 0, 1, 1⟩) (by rfl) (by rfl) (newsL (heap_alloc_new W8.drew _)) (one_l _) (by omega) (by have : Ns.length + 1 ≤ 50331648 := (by have := HK.out; have := HS0.out.px.pat.le; have := HS0.out.px.pat.few; omega); unfold maxLen; omega) (by have : Ns.length + 1 ≤ 50331648 := (by have := HK.out; have := HS0.out.px.pat.le; have := HS0.out.px.pat.few; omega); omega) (Nat.zero_le _) _ rfl ?_
      intro g' c' w9 hown hgrow hat hlt
      have HS14 := hQz ((HS13.out.app HRW.out (Us := [ndP opo pa [A]]) (es := [⟨(opo : Int), (pa : Int), 0, ⟨#[]⟩, ⟨#[]⟩, ⟨#[]⟩, none, none, none, some ⟨W6.heap.size, 0, none⟩, 0, 0, 0, 0, 0, 0, 1, 1⟩]) rfl (els1 HS13.out.m0) (fun _ i d hi => by cases i with | zero => cases hi; exact ⟨rfl, by show 1 ≤ 1000; decide⟩ | succ i => cases hi) _ (v' := .slice (some ⟨g', 0, none⟩) (Ns.length + 1) c') (by simpa using hown) hgrow (hat.elim (fun e => .inl e.symm) (fun e => .inr (by rw [e]; simp [Value.ownBlock])))).drop)
      clear hown hgrow hat hlt HRW
      obtain ⟨x0, x1, x2, x3, x4, x5, x6, x7, x8, x9⟩ := nd_cells HS14.out.bb1
      obtain ⟨y0, y1, y2, y3, y4, y5, y6, y7, y8, y9⟩ := nd_cells HS14.out.bb0
      refine hK2.out _ _ (fun _ => ⟨x0, x1, x2, x3, x4, x5, x6, x7, x8, x9, y0, y1, y2, y3, y4, y5, y6, y7, y8, y9⟩) (fun hHeld => ?_)
      replace hHeld := hHeld (by decide)
      clear hK2 K2
      try simp only [Act.put, qsA, qsB, qsC]
      clear x0 y0 x1 y1 x2 y2 x3 y3 x4 y4 x5 y5 x6 y6 x7 y7 x8 y8 x9 y9
      refine wpAnyK_take (i := 5) (oi := _) (v := .slice (some ⟨g', 0, none⟩) (Ns.length + 1) c') rfl (by kernel_rfl) (by kernel_rfl) (by kernel_rfl) (by kernel_rfl) (fun _ _ _ h => h) (Or.inl ⟨by rfl, ?_⟩) (by assumption) ?_
      · intro w hSw
        go_simp
        try (intro hq; exfalso; omega)
      try simp only [Act.put, qsA, qsB, qsC]
      obtain ⟨p0, p1, p2, p3, p4, p5, p6, p7, p8, p9⟩ := nd_cells HS14.out.bb4
      obtain ⟨pf0, pf1, pf2, pf3, pf4, pf5, pf6, pf7, pf8, pf9⟩ := nd_frozen HS14.out.bb4
      refine wpAnyK_one (i := 6) (o := _) (by kernel_rfl) rfl (fun K2 hK2 => ?_)
      go_simp
      generalize hz10 : ((((((((((w9).setCell ⟨u.heap.size, 0, none⟩ (.int .i64 op5)).setCell ⟨u.heap.size, 1, none⟩ (.int .i64 at5)).setCell ⟨u.heap.size, 2, none⟩ (.string tx5)).setCell ⟨u.heap.size, 3, none⟩ (.int .i64 vk5)).setCell ⟨u.heap.size, 4, none⟩ (.string nu5)).setCell ⟨u.heap.size, 5, none⟩ (.string vt5)).setCell ⟨u.heap.size, 6, none⟩ (.slice io5 iN5 ic5)).setCell ⟨u.heap.size, 7, none⟩ (.slice yo5 yN5 yc5)).setCell ⟨u.heap.size, 8, none⟩ (.slice no5 nN5 nc5)).setCell ⟨u.heap.size, 9, none⟩ (.slice ko5 kN5 kc5) = W10
      have P10 := nd_set HS14.out.bb4 hz10
      have HS15 := hQz (HS14.out.put 4 _ _ [.int .i64 op5, .int .i64 at5, .string tx5, .int .i64 vk5, .string nu5, .string vt5, .slice io5 iN5 ic5, .slice yo5 yN5 yc5, .slice no5 nN5 nc5, .slice ko5 kN5 kc5] _ rfl P10)
      clear P10 hz10
      go_wp2_with fail
      refine hK2.out _ _ (fun hne => absurd rfl hne) (fun _ => ?_)
      clear hK2 K2
      try simp only [Act.put, qsA, qsB, qsC]
      refine wpAnyK_done (by kernel_rfl) ?_ _
      clear hHeld p0 pf0 p1 pf1 p2 pf2 p3 pf3 p4 pf4 p5 pf5 p6 pf6 p7 pf7 p8 pf8 p9 pf9
      obtain ⟨c0, c1, c2, c3⟩ := tb_cells HS15.out.bb2
      go_wp2_with fail
      clear c0 c1 c2 c3
      refine (mostX (txo, opo, bio, gro) (Nat.pos_of_ne_zero HB8.out.1) HB8.out.2 _).mono ?_
      rintro e w11 ⟨rfl, hb⟩
      have HS16 := hQz (HS15.out.keep hb)
      clear hb
      go_wp2_with fail
      have HS17 := hQz (HS16.out.unbox.unbox.unbox.only)
      go_roundw
      case rel =>
       refine ⟨Ns ++ [ndP opo pa [A]], T5, ⟨op5, at5, vk5, tx5, nu5, vt5, io5, yo5, no5, ko5, iN5, ic5, yN5, yc5, nN5, nc5, kN5, kc5⟩, bio, t5, o5, f, by first | rfl | (have := HG1.out; rw [if_neg (by omega)]; rfl) | (have := HG1.out; rw [if_neg (by omega)]), ?_, HS17, ?_, HR⟩
       · have h1 := HF.out
         have h2 := HL5.out
         show _ < _
         omega
       · have h1 := HK.out
         have h2 := HL5.out
         have h3 := HO5.out
         have h4 := HB8.out
         refine ⟨?_, by omega, by omega, ?_⟩
         · simp only [List.length_append, List.length_cons, List.length_nil]; omega
         · first | omega | (split <;> omega)
      case measure =>
       rw [HTk.out, HS17.out.px.tk]
       have h2 := HL5.out
       have h3 := Hlt.out
       omega
    · have qg : ((gro : Int) == 1) = false := by rw [bqZ]; omega
      have hR := HR.out
      rw [if_neg hg, pThen_ok (x := pOk _) rfl] at hR
      (try dsimp only at hR)
      replace HR := hQz hR
      clear hR
      clear hg
      go_wp2_with fail
      clear c0 c1 c2 c3 hW6
      have HS10 := hQz (HS9.out.drew)
      obtain ⟨x0, x1, x2, x3, x4, x5, x6, x7, x8, x9⟩ := nd_cells HS10.out.bb4
      obtain ⟨y0, y1, y2, y3, y4, y5, y6, y7, y8, y9⟩ := nd_cells HS10.out.bb0
      refine wp_region_K 6 (S := (fun u1 => u1.cell? ⟨u.heap.size, 0, none⟩ = some (.int .i64 op1) ∧ u1.cell? ⟨u.heap.size, 1, none⟩ = some (.int .i64 at1) ∧ u1.cell? ⟨u.heap.size, 2, none⟩ = some (.string tx1) ∧ u1.cell? ⟨u.heap.size, 3, none⟩ = some (.int .i64 vk1) ∧ u1.cell? ⟨u.heap.size, 4, none⟩ = some (.string nu1) ∧ u1.cell? ⟨u.heap.size, 5, none⟩ = some (.string vt1) ∧ u1.cell? ⟨u.heap.size, 6, none⟩ = some (.slice io1 iN1 ic1) ∧ u1.cell? ⟨u.heap.size, 7, none⟩ = some (.slice yo1 yN1 yc1) ∧ u1.cell? ⟨u.heap.size, 8, none⟩ = some (.slice no1 nN1 nc1) ∧ u1.cell? ⟨u.heap.size, 9, none⟩ = some (.slice ko1 kN1 kc1) ∧ u1.cell? ⟨w5.heap.size, 0, none⟩ = some (.int .i64 op5) ∧ u1.cell? ⟨w5.heap.size, 1, none⟩ = some (.int .i64 at5) ∧ u1.cell? ⟨w5.heap.size, 2, none⟩ = some (.string tx5) ∧ u1.cell? ⟨w5.heap.size, 3, none⟩ = some (.int .i64 vk5) ∧ u1.cell? ⟨w5.heap.size, 4, none⟩ = some (.string nu5) ∧ u1.cell? ⟨w5.heap.size, 5, none⟩ = some (.string vt5) ∧ u1.cell? ⟨w5.heap.size, 6, none⟩ = some (.slice io5 iN5 ic5) ∧ u1.cell? ⟨w5.heap.size, 7, none⟩ = some (.slice yo5 yN5 yc5) ∧ u1.cell? ⟨w5.heap.size, 8, none⟩ = some (.slice no5 nN5 nc5) ∧ u1.cell? ⟨w5.heap.size, 9, none⟩ = some (.slice ko5 kN5 kc5))) (by kernel_rfl) (by exact ⟨x0, x1, x2, x3, x4, x5, x6, x7, x8, x9, y0, y1, y2, y3, y4, y5, y6, y7, y8, y9⟩) (fun hHeld => ?_)
      clear x0 y0 x1 y1 x2 y2 x3 y3 x4 y4 x5 y5 x6 y6 x7 y7 x8 y8 x9 y9
      obtain ⟨ds, hrw, hfl⟩ := HS10.out.waits
      have HWt := hQz (And.intro hrw hfl)
      clear hrw hfl
      refine wpAnyK_take (i := 0) (oi := _) (v := u7) rfl (by kernel_rfl) (by kernel_rfl) (by kernel_rfl) (by kernel_rfl) (fun _ _ _ h => h) (Or.inl ⟨by rfl, ?_⟩) (by assumption) ?_
      · intro w hSw
        go_simp
        try (intro hq; exfalso; omega)
      try simp only [Act.put, qsA, qsB, qsC]
      refine wpAnyK_take (i := 1) (oi := _) (v := .agg #[.int .i64 op1, .int .i64 at1, .string tx1, .int .i64 vk1, .string nu1, .string vt1, .slice io1 iN1 ic1, .slice yo1 yN1 yc1, .slice no1 nN1 nc1, .slice ko1 kN1 kc1]) rfl (by kernel_rfl) (by kernel_rfl) (by kernel_rfl) (by kernel_rfl) (fun _ _ _ h => h) (Or.inl ⟨by rfl, ?_⟩) (by assumption) ?_
      · intro w hSw
        obtain ⟨hx0, hx1, hx2, hx3, hx4, hx5, hx6, hx7, hx8, hx9, hy0, hy1, hy2, hy3, hy4, hy5, hy6, hy7, hy8, hy9⟩ := hSw
        go_simp
        try (intro hq; exfalso; omega)
      try simp only [Act.put, qsA, qsB, qsC]
      refine wpAnyK_take (i := 3) (oi := _) (v := .agg #[.int .i64 op5, .int .i64 at5, .string tx5, .int .i64 vk5, .string nu5, .string vt5, .slice io5 iN5 ic5, .slice yo5 yN5 yc5, .slice no5 nN5 nc5, .slice ko5 kN5 kc5]) rfl (by kernel_rfl) (by kernel_rfl) (by kernel_rfl) (by kernel_rfl) (fun _ _ _ h => h) (Or.inl ⟨by rfl, ?_⟩) (by assumption) ?_
      · intro w hSw
        obtain ⟨hx0, hx1, hx2, hx3, hx4, hx5, hx6, hx7, hx8, hx9, hy0, hy1, hy2, hy3, hy4, hy5, hy6, hy7, hy8, hy9⟩ := hSw
        go_simp
        try (intro hq; exfalso; omega)
      try simp only [Act.put, qsA, qsB, qsC]
      refine wpAnyK_one (i := 2) (o := _) (by kernel_rfl) rfl (fun K2 hK2 => ?_)
      go_simp
      go_at_call 79
      refine (withinX _ u7 Ns ds A ⟨op1, at1, vk1, tx1, nu1, vt1, io1, yo1, no1, ko1, iN1, ic1, yN1, yc1, nN1, nc1, kN1, kc1⟩ _ HS10.out.dnW HWt.out.1 HWt.out.2 (by have := HK.out; have := HS0.out.px.pat.le; have := HS0.out.px.pat.few; omega) HS10.out.m1).mono ?_
      rintro e w7 ⟨d, rfl, hb, hd⟩
      have HS11 := hQz ((HS10.out.keep hb).add (hd.weak (fun b hb _ => hb)))
      clear hb hd
      obtain ⟨op6, at6, vk6, tx6, nu6, vt6, io6, yo6, no6, ko6, iN6, ic6, yN6, yc6, nN6, nc6, kN6, kc6⟩ := d
      unfold NV.v NV.l
      dsimp only
      obtain ⟨x0, x1, x2, x3, x4, x5, x6, x7, x8, x9⟩ := nd_cells HS11.out.bb4
      obtain ⟨y0, y1, y2, y3, y4, y5, y6, y7, y8, y9⟩ := nd_cells HS11.out.bb0
      go_wp2_with fail
      refine hK2.out _ _ (fun _ => ⟨x0, x1, x2, x3, x4, x5, x6, x7, x8, x9, y0, y1, y2, y3, y4, y5, y6, y7, y8, y9⟩) (fun hHeld => ?_)
      replace hHeld := hHeld (by decide)
      clear hK2 K2
      try simp only [Act.put, qsA, qsB, qsC]
      clear x0 y0 x1 y1 x2 y2 x3 y3 x4 y4 x5 y5 x6 y6 x7 y7 x8 y8 x9 y9
      clear HWt
      obtain ⟨W8, hW8⟩ : ∃ W, w7.alloc (.cells #[.int .i64 op6, .int .i64 at6, .string tx6, .int .i64 vk6, .string nu6, .string vt6, .slice io6 iN6 ic6, .slice yo6 yN6 yc6, .slice no6 nN6 nc6, .slice ko6 kN6 kc6, .int .i64 op5, .int .i64 at5, .string tx5, .int .i64 vk5, .string nu5, .string vt5, .slice io5 iN5 ic5, .slice yo5 yN5 yc5, .slice no5 nN5 nc5, .slice ko5 kN5 kc5] 28) = W := ⟨_, rfl⟩
      have HS12 := hQz (HS11.out.alloc [.int .i64 op6, .int .i64 at6, .string tx6, .int .i64 vk6, .string nu6, .string vt6, .slice io6 iN6 ic6, .slice yo6 yN6 yc6, .slice no6 nN6 nc6, .slice ko6 kN6 kc6, .int .i64 op5, .int .i64 at5, .string tx5, .int .i64 vk5, .string nu5, .string vt5, .slice io5 iN5 ic5, .slice yo5 yN5 yc5, .slice no5 nN5 nc5, .slice ko5 kN5 kc5] 28)
      rw [hW8] at HS12
      obtain ⟨x0, x1, x2, x3, x4, x5, x6, x7, x8, x9⟩ := nd_cells HS12.out.bb5
      obtain ⟨y0, y1, y2, y3, y4, y5, y6, y7, y8, y9⟩ := nd_cells HS12.out.bb1
      refine wpAnyK_one (i := 4) (o := _) (by kernel_rfl) rfl (fun K2 hK2 => ?_)
      go_simp
      go_wp2_with fail
      refine hK2.out _ _ (fun _ => ⟨x0, x1, x2, x3, x4, x5, x6, x7, x8, x9, y0, y1, y2, y3, y4, y5, y6, y7, y8, y9⟩) (fun hHeld => ?_)
      replace hHeld := hHeld (by decide)
      clear hK2 K2
      try simp only [Act.put, qsA, qsB, qsC]
      clear x0 y0 x1 y1 x2 y2 x3 y3 x4 y4 x5 y5 x6 y6 x7 y7 x8 y8 x9 y9
      clear hW8
      refine wpAnyK_take (i := 5) (oi := _) (v := .pointer (some ⟨W2.heap.size, 9, none⟩)) rfl (by kernel_rfl) (by kernel_rfl) (by kernel_rfl) (by kernel_rfl) (fun _ _ _ h => h) (Or.inl ⟨by rfl, ?_⟩) (by assumption) ?_
      · intro w hSw
        go_simp
        try (intro hq; exfalso; omega)
      try simp only [Act.put, qsA, qsB, qsC]
      obtain ⟨s0, s1, s2, s3, s4, s5, s6, s7, s8, s9⟩ := nd_cells HS12.out.bb2
      obtain ⟨sf0, sf1, sf2, sf3, sf4, sf5, sf6, sf7, sf8, sf9⟩ := nd_frozen HS12.out.bb2
      obtain ⟨W9, hW9⟩ : ∃ W, W8.setCell ⟨W2.heap.size, 9, none⟩ (.slice (some ⟨w7.heap.size, 0, none⟩) 2 2) = W := ⟨_, rfl⟩
      have P9 := nd_set9 HS12.out.bb2 hW9
      have HS13 := hQz (HS12.out.put 2 _ _ [.int .i64 (opo : Int), .int .i64 (pa : Int), .string ⟨#[]⟩, .int .i64 0, .string ⟨#[]⟩, .string ⟨#[]⟩, .slice none 0 0, .slice none 0 0, .slice none 0 0, .slice (some ⟨w7.heap.size, 0, none⟩) 2 2] _ rfl P9)
      clear P9
      refine wpAnyK_one (i := 6) (o := _) (by kernel_rfl) rfl (fun K2 hK2 => ?_)
      go_simp
      go_wp2_with fail
      refine hK2.out _ _ (fun hne => absurd rfl hne) (fun _ => ?_)
      clear hK2 K2
      try simp only [Act.put, qsA, qsB, qsC]
      refine wpAnyK_done (by kernel_rfl) ?_ _
      clear hHeld hW9 s0 s1 s2 s3 s4 s5 s6 s7 s8 s9 sf0 sf1 sf2 sf3 sf4 sf5 sf6 sf7 sf8 sf9
      have HS14 := hQz ((HS13.out.mkrow (T := ndP opo pa [withinP Ns A, T5]) (d := ⟨(opo : Int), (pa : Int), 0, ⟨#[]⟩, ⟨#[]⟩, ⟨#[]⟩, none, none, none, some ⟨w7.heap.size, 0, none⟩, 0, 0, 0, 0, 0, 0, 2, 2⟩) (fun ht hg hw => NdI.lit (Ts := [withinP Ns A, T5]) (ds := [⟨op6, at6, vk6, tx6, nu6, vt6, io6, yo6, no6, ko6, iN6, ic6, yN6, yc6, nN6, nc6, kN6, kc6⟩, ⟨op5, at5, vk5, tx5, nu5, vt5, io5, yo5, no5, ko5, iN5, ic5, yN5, yc5, nN5, nc5, kN5, kc5⟩]) (opo : Int) (pa : Int) .empty size0 rfl (by simp) hw hg (els2 (ht (_, _) mcS) (ht (T5, _) (List.mem_cons_of_mem _ mcS))))).norow)
      go_wp2_with fail
      have HS15 := hQz (HS14.out.drew)
      obtain ⟨x0, x1, x2, x3, x4, x5, x6, x7, x8, x9⟩ := nd_cells HS15.out.bb1
      refine wp_region_K 2 (S := (fun u1 => u1.cell? ⟨W2.heap.size, 0, none⟩ = some (.int .i64 (opo : Int)) ∧ u1.cell? ⟨W2.heap.size, 1, none⟩ = some (.int .i64 (pa : Int)) ∧ u1.cell? ⟨W2.heap.size, 2, none⟩ = some (.string ⟨#[]⟩) ∧ u1.cell? ⟨W2.heap.size, 3, none⟩ = some (.int .i64 0) ∧ u1.cell? ⟨W2.heap.size, 4, none⟩ = some (.string ⟨#[]⟩) ∧ u1.cell? ⟨W2.heap.size, 5, none⟩ = some (.string ⟨#[]⟩) ∧ u1.cell? ⟨W2.heap.size, 6, none⟩ = some (.slice none 0 0) ∧ u1.cell? ⟨W2.heap.size, 7, none⟩ = some (.slice none 0 0) ∧ u1.cell? ⟨W2.heap.size, 8, none⟩ = some (.slice none 0 0) ∧ u1.cell? ⟨W2.heap.size, 9, none⟩ = some (.slice (some ⟨w7.heap.size, 0, none⟩) 2 2))) (by kernel_rfl) (by exact ⟨x0, x1, x2, x3, x4, x5, x6, x7, x8, x9⟩) (fun hHeld => ?_)
      clear x0 x1 x2 x3 x4 x5 x6 x7 x8 x9
      refine wpAnyK_take (i := 0) (oi := _) (v := .agg #[.int .i64 (opo : Int), .int .i64 (pa : Int), .string ⟨#[]⟩, .int .i64 0, .string ⟨#[]⟩, .string ⟨#[]⟩, .slice none 0 0, .slice none 0 0, .slice none 0 0, .slice (some ⟨w7.heap.size, 0, none⟩) 2 2]) rfl (by kernel_rfl) (by kernel_rfl) (by kernel_rfl) (by kernel_rfl) (fun _ _ _ h => h) (Or.inl ⟨by rfl, ?_⟩) (by assumption) ?_
      · intro w hSw
        obtain ⟨hx0, hx1, hx2, hx3, hx4, hx5, hx6, hx7, hx8, hx9⟩ := hSw
        go_simp
        try (intro hq; exfalso; omega)
      try simp only [Act.put, qsA, qsB, qsC]
      refine wpAnyK_take (i := 1) (oi := _) (v := .slice none 0 0) rfl (by kernel_rfl) (by kernel_rfl) (by kernel_rfl) (by kernel_rfl) (fun _ _ _ h => h) (Or.inl ⟨by rfl, ?_⟩) (by assumption) ?_
      · intro w hSw
        go_simp
        try (intro hq; exfalso; omega)
      try simp only [Act.put, qsA, qsB, qsC]
      generalize hzd : W9.drew = V9 at *
      clear hzd
      obtain ⟨p0, p1, p2, p3, p4, p5, p6, p7, p8, p9⟩ := nd_cells HS15.out.bb4
      obtain ⟨pf0, pf1, pf2, pf3, pf4, pf5, pf6, pf7, pf8, pf9⟩ := nd_frozen HS15.out.bb4
      refine wpAnyK_one (i := 2) (o := _) (by kernel_rfl) rfl (fun K2 hK2 => ?_)
      go_simp
      generalize hz10 : ((((((((((V9).setCell ⟨u.heap.size, 0, none⟩ (.int .i64 (opo : Int))).setCell ⟨u.heap.size, 1, none⟩ (.int .i64 (pa : Int))).setCell ⟨u.heap.size, 2, none⟩ (.string ⟨#[]⟩)).setCell ⟨u.heap.size, 3, none⟩ (.int .i64 0)).setCell ⟨u.heap.size, 4, none⟩ (.string ⟨#[]⟩)).setCell ⟨u.heap.size, 5, none⟩ (.string ⟨#[]⟩)).setCell ⟨u.heap.size, 6, none⟩ (.slice none 0 0)).setCell ⟨u.heap.size, 7, none⟩ (.slice none 0 0)).setCell ⟨u.heap.size, 8, none⟩ (.slice none 0 0)).setCell ⟨u.heap.size, 9, none⟩ (.slice (some ⟨w7.heap.size, 0, none⟩) 2 2) = W10
      have P10 := nd_set HS15.out.bb4 hz10
      have HS16 := hQz (HS15.out.put 4 _ _ [.int .i64 (opo : Int), .int .i64 (pa : Int), .string ⟨#[]⟩, .int .i64 0, .string ⟨#[]⟩, .string ⟨#[]⟩, .slice none 0 0, .slice none 0 0, .slice none 0 0, .slice (some ⟨w7.heap.size, 0, none⟩) 2 2] _ rfl P10)
      clear P10 hz10
      go_wp2_with fail
      refine hK2.out _ _ (fun hne => absurd rfl hne) (fun _ => ?_)
      clear hK2 K2
      try simp only [Act.put, qsA, qsB, qsC]
      refine wpAnyK_done (by kernel_rfl) ?_ _
      clear hHeld p0 pf0 p1 pf1 p2 pf2 p3 pf3 p4 pf4 p5 pf5 p6 pf6 p7 pf7 p8 pf8 p9 pf9
      obtain ⟨c0, c1, c2, c3⟩ := tb_cells HS16.out.bb2
      go_wp2_with fail
      clear c0 c1 c2 c3
      refine (mostX (txo, opo, bio, gro) (Nat.pos_of_ne_zero HB8.out.1) HB8.out.2 _).mono ?_
      rintro e w11 ⟨rfl, hb⟩
      have HS17 := hQz (HS16.out.keep hb)
      clear hb
      go_wp2_with fail
      have HS18 := hQz (HS17.out.unbox.unbox.unbox.only)
      go_roundw
      case rel =>
       refine ⟨[], ndP opo pa [withinP Ns A, T5], ⟨(opo : Int), (pa : Int), 0, ⟨#[]⟩, ⟨#[]⟩, ⟨#[]⟩, none, none, none, some ⟨w7.heap.size, 0, none⟩, 0, 0, 0, 0, 0, 0, 2, 2⟩, if gro = 2 then bio - 1 else bio, t5, o5, f, by first | rfl | (have := HG1.out; rw [if_neg (by omega)]; rfl) | (have := HG1.out; rw [if_neg (by omega)]), ?_, HS18, ?_, HR⟩
       · have h1 := HF.out
         have h2 := HL5.out
         show _ < _
         omega
       · have h1 := HK.out
         have h2 := HL5.out
         have h3 := HO5.out
         have h4 := HB8.out
         refine ⟨?_, by omega, by omega, ?_⟩
         · simp only [List.length_append, List.length_cons, List.length_nil]; omega
         · first | omega | (split <;> omega)
      case measure =>
       rw [HTk.out, HS18.out.px.tk]
       have h2 := HL5.out
       have h3 := Hlt.out
       omega
end
end Go.Proofs.YtajnaiddcobkiaaGreatDoor
