import Derived.Test.YtajnaiddcobkiaaGreatDoorM36
import Derived.Test.YtajnaiddcobkiaaGreatDoorM37
namespace Go.Proofs.YtajnaiddcobkiaaGreatDoor
open Go.RowKit Go.Shelf
set_option linter.unusedVariables false
set_option linter.unusedSimpArgs false
attribute [local go_sem] Oper.semAt_some
set_option maxRecDepth 100000
set_option maxHeartbeats 12800000
section
variable (ws : List Tok) (nb : Nat)
def labelP : PM NT := pThen (pTake ws) (fun x => pThen (pBe ws nb 3) fun y => pThen (pMust ws nb [124]) fun _ => pOk (txP 34 x.at_ y.text []))
def bindingP (n : NT) : PM NT := pThen (pTake ws) (fun x => pThen (pBe ws nb 3) fun y => pThen (pMust ws nb [124]) fun _ => pOk (txP 29 x.at_ y.text [n]))
end
def LkE (D : Nat → Prop) (r : NT × Bool) (w' : World) (v : Value) : Prop := ∃ d : NV, v = .tuple #[d.v, .bool r.2] ∧ NdI D w' r.1 d ∧ (r.2 = true → d.kc = d.kN ∧ d.kN ≤ 1000)
def LinkC (B : Nat) (so : Option Addr) (sc : Nat) (ws : List Tok) (nb : Nat) (m : Nat) (x : PM (NT × Bool)) : Prop := ∀ (D : Nat → Prop) (u : World) (t o : Nat), (∀ b, u.heap.size ≤ b → D b) → (∀ b, D b → b ≠ B) → PX u B so sc ws nb t o → m ≤ t → Calls Tryz.prog 78 #[.pointer (some ⟨B, 0, none⟩)] u fun e w' => PxR B so sc ws nb u (LkE D) (x t o) e w'
section
variable {B : Nat} {so : Option Addr} {sc : Nat} {ws : List Tok} {nb : Nat} {m : Nat} {P : PM NT} {O : Nat → PM NT}
theorem labelX (h : PO B so sc ws nb (m + 1) P O) : ∀ (D : Nat → Prop) (u : World) (t o : Nat), (∀ b, u.heap.size ≤ b → D b) → (∀ b, D b → b ≠ B) → PX u B so sc ws nb t o → m ≤ t → t < ws.length → Calls Tryz.prog 105 #[.pointer (some ⟨B, 0, none⟩)] u fun e w' => PxR B so sc ws nb u (NdF D) (labelP ws nb t o) e w' := by
 intro D u t o dn db hx hm ht
 obtain ⟨R, hR⟩ : ∃ R, labelP ws nb t o = R := ⟨_, rfl⟩
 rw [hR]
 unfold labelP at hR
 have HR := hQz hR
 have HPO := hQz h
 have HS0 := hQz (SB.new (Fl := false) (tr := []) hx dn db (fun q hq => by simp at hq))
 have HX := hQz (And.intro hx.pat.le hx.pat.open_)
 have HM := hQz hm
 have hfl0 := Tryz.fldX0
 have hfl1 := Tryz.fldX1
 have hfl3 := Tryz.fldX3
 clear hR h hx hm dn db
 have Htx := hQz HPO.out.tx
 have Hlt := hQz ht
 clear ht
 go_enter Tryz.func105, Tryz.ntmps105
 go_wp2_with fail
 have HS1 := hQz (HS0.out.alloc [.int .i64 0, .int .i64 0, .string ⟨#[]⟩, .int .i64 0, .string ⟨#[]⟩, .string ⟨#[]⟩, .slice none 0 0, .slice none 0 0, .slice none 0 0, .slice none 0 0] 28)
 refine (takeX Hlt.out _ HS1.out.px).mono ?_
 rintro e w1 ⟨rfl, hb, hp⟩
 have HS2 := hQz (HS1.out.step hb hp)
 clear hb hp
 have hR := HR.out
 rw [pThen_ok (x := pTake ws) rfl] at hR
 (try dsimp only at hR)
 replace HR := hQz hR
 clear hR
 generalize hrP ws t = X at *
 obtain ⟨kd, pa, fi, tx, er⟩ := X
 unfold tokV
 dsimp only at HR ⊢
 go_wp2_with fail
 refine (beX 3 (by decide) _ HS2.out.px).mono ?_
 rintro e w2 ⟨hb, hm⟩
 (try dsimp only at hm)
 have hR := HR.out
 obtain ⟨er, q, hr⟩ | ⟨x2, t2, o2, hr⟩ := pr_cases (pBe ws nb 3 (t + 1) o)
 · rw [hr] at hm
   rw [pThen_bad hr] at hR
   obtain rfl : e = .panicked (fcs er q) := hm
   exact ⟨rfl, (HS2.out.bo.trans (Bo.ofBt hb)).toBt, by rw [← hR]⟩
 rw [hr] at hm
 rw [pThen_ok hr] at hR
 (try dsimp only at hR)
 obtain ⟨⟨v, rfl, hE⟩, hp⟩ := hm
 have HL2 := hQz (mv_be (nb := nb) (k := 3) (by decide) _ HS2.out.px.pat.le _ _ _ _ hr)
 have HO2 := hQz (bl_be (nb := nb) 3 _ _ _ _ _ HS2.out.px.pat.open_ hr)
 have HQ2 := hQz hr
 replace HR := hQz hR
 have HS3 := hQz (HS2.out.step hb hp)
 clear hb hp hr hR
 unfold TkE at hE
 subst hE
 have HT2 : Hid (x2.text.length ≤ 140737488355000) := by rw [show x2 = _ from be_eq HQ2.out]; exact Htx.out _
 obtain ⟨kd2, pa2, fi2, tx2, er2⟩ := x2
 unfold tokV
 dsimp only at HT2 HR ⊢
 go_wp2_with fail
 refine (mustX [124] _ HS3.out.px).mono ?_
 rintro e w3 ⟨hb, hm⟩
 (try dsimp only at hm)
 have hR := HR.out
 obtain ⟨er, q, hr⟩ | ⟨x3, t3, o3, hr⟩ := pr_cases (pMust ws nb [124] t2 o2)
 · rw [hr] at hm
   rw [pThen_bad hr] at hR
   obtain rfl : e = .panicked (fcs er q) := hm
   exact ⟨rfl, (HS3.out.bo.trans (Bo.ofBt hb)).toBt, by rw [← hR]⟩
 rw [hr] at hm
 rw [pThen_ok hr] at hR
 (try dsimp only at hR)
 obtain ⟨⟨v, rfl, hE⟩, hp⟩ := hm
 have HL3 := hQz (mv_must (nb := nb) [124] _ HS3.out.px.pat.le _ _ _ _ hr)
 have HO3 := hQz (bl_must (nb := nb) [124] _ _ _ _ _ HS3.out.px.pat.open_ hr)
 have HQ3 := hQz hr
 replace HR := hQz hR
 have HS4 := hQz (HS3.out.step hb hp)
 clear hb hp hr hR
 unfold TkE at hE
 subst hE
 obtain ⟨kd3, pa3, fi3, tx3, er3⟩ := x3
 unfold tokV
 (try dsimp only at HR)
 dsimp only
 obtain ⟨r0, r1, r2, r3, r4, r5, r6, r7, r8, r9⟩ := nd_cells HS4.out.bb0
 obtain ⟨rf0, rf1, rf2, rf3, rf4, rf5, rf6, rf7, rf8, rf9⟩ := nd_frozen HS4.out.bb0
 go_wp2_with fail
 generalize hzZ : ((((((((((w3).setCell ⟨u.heap.size, 0, none⟩ (.int .i64 34)).setCell ⟨u.heap.size, 1, none⟩ (.int .i64 (pa : Int))).setCell ⟨u.heap.size, 2, none⟩ (.string ⟨tx2.toArray⟩)).setCell ⟨u.heap.size, 3, none⟩ (.int .i64 0)).setCell ⟨u.heap.size, 4, none⟩ (.string ⟨#[]⟩)).setCell ⟨u.heap.size, 5, none⟩ (.string ⟨#[]⟩)).setCell ⟨u.heap.size, 6, none⟩ (.slice none 0 0)).setCell ⟨u.heap.size, 7, none⟩ (.slice none 0 0)).setCell ⟨u.heap.size, 8, none⟩ (.slice none 0 0)).setCell ⟨u.heap.size, 9, none⟩ (.slice none 0 0) = WZ
 have PZ := nd_set HS4.out.bb0 hzZ
 obtain ⟨m0, m1, m2, m3, m4, m5, m6, m7, m8, m9⟩ := nd_cells PZ.new
 have HZ := HS4.out.put 0 _ _ [.int .i64 34, .int .i64 (pa : Int), .string ⟨tx2.toArray⟩, .int .i64 0, .string ⟨#[]⟩, .string ⟨#[]⟩, .slice none 0 0, .slice none 0 0, .slice none 0 0, .slice none 0 0] _ rfl PZ
 refine bodyPost_ret (v := .agg #[.int .i64 34, .int .i64 (pa : Int), .string ⟨tx2.toArray⟩, .int .i64 0, .string ⟨#[]⟩, .string ⟨#[]⟩, .slice none 0 0, .slice none 0 0, .slice none 0 0, .slice none 0 0]) (by simp [results, Tryz.results105, go_sem, m0, m1, m2, m3, m4, m5, m6, m7, m8, m9]) rfl ?_
 have hR := HR.out
 refine ⟨HZ.bo.toBt, ?_⟩
 rw [← hR]
 exact ⟨⟨_, rfl, ⟨34, (pa : Int), 0, ⟨tx2.toArray⟩, ⟨#[]⟩, ⟨#[]⟩, none, none, none, none, 0, 0, 0, 0, 0, 0, 0, 0⟩, rfl, NdI.leaf D _ 34 (pa : Int) ⟨tx2.toArray⟩ (by have := HT2.out; show tx2.length ≤ _; omega), rfl, Nat.zero_le _⟩, HZ.px⟩
theorem bindingX (h : PO B so sc ws nb (m + 1) P O) : ∀ (D : Nat → Prop) (u : World) (t o : Nat) (T0 : NT) (d : NV), (∀ b, u.heap.size ≤ b → D b) → (∀ b, D b → b ≠ B) → PX u B so sc ws nb t o → m ≤ t → NdI D u T0 d → t < ws.length → Calls Tryz.prog 107 #[.pointer (some ⟨B, 0, none⟩), d.v] u fun e w' => PxR B so sc ws nb u (NdF D) (bindingP ws nb T0 t o) e w' := by
 intro D u t o T0 d dn db hx hm hd ht
 obtain ⟨R, hR⟩ : ∃ R, bindingP ws nb T0 t o = R := ⟨_, rfl⟩
 rw [hR]
 unfold bindingP at hR
 have HR := hQz hR
 have HPO := hQz h
 have HS00 := hQz (SB.new (Fl := false) (tr := [(T0, d)]) hx dn db (fun q hq => by simp only [List.mem_singleton] at hq; subst hq; exact hd))
 have HX := hQz (And.intro hx.pat.le hx.pat.open_)
 have HM := hQz hm
 have hfl0 := Tryz.fldX0
 have hfl1 := Tryz.fldX1
 have hfl3 := Tryz.fldX3
 clear hR h hx hm dn db hd
 obtain ⟨op0, at0, vk0, tx0, nu0, vt0, io0, yo0, no0, ko0, iN0, ic0, yN0, yc0, nN0, nc0, kN0, kc0⟩ := d
 unfold NV.v NV.l
 dsimp only
 have Htx := hQz HPO.out.tx
 have Hlt := hQz ht
 clear ht
 go_enter Tryz.func107, Tryz.ntmps107
 go_wp2_with fail
 have HS0 := hQz ((HS00.out.alloc [.int .i64 op0, .int .i64 at0, .string tx0, .int .i64 vk0, .string nu0, .string vt0, .slice io0 iN0 ic0, .slice yo0 yN0 yc0, .slice no0 nN0 nc0, .slice ko0 kN0 kc0] 28).alloc [.int .i64 0, .int .i64 0, .string ⟨#[]⟩, .int .i64 0, .string ⟨#[]⟩, .string ⟨#[]⟩, .slice none 0 0, .slice none 0 0, .slice none 0 0, .slice none 0 0] 28)
 rw [World.size_alloc] at HS0
 refine (takeX Hlt.out _ HS0.out.px).mono ?_
 rintro e w1 ⟨rfl, hb, hp⟩
 have HS1 := hQz (HS0.out.step hb hp)
 clear hb hp
 have hR := HR.out
 rw [pThen_ok (x := pTake ws) rfl] at hR
 (try dsimp only at hR)
 replace HR := hQz hR
 clear hR
 generalize hrP ws t = X at *
 obtain ⟨kd, pa, fi, tx, er⟩ := X
 unfold tokV
 dsimp only at HR ⊢
 go_wp2_with fail
 refine (beX 3 (by decide) _ HS1.out.px).mono ?_
 rintro e w2 ⟨hb, hm⟩
 (try dsimp only at hm)
 have hR := HR.out
 obtain ⟨er, q, hr⟩ | ⟨x2, t2, o2, hr⟩ := pr_cases (pBe ws nb 3 (t + 1) o)
 · rw [hr] at hm
   rw [pThen_bad hr] at hR
   obtain rfl : e = .panicked (fcs er q) := hm
   exact ⟨rfl, (HS1.out.bo.trans (Bo.ofBt hb)).toBt, by rw [← hR]⟩
 rw [hr] at hm
 rw [pThen_ok hr] at hR
 (try dsimp only at hR)
 obtain ⟨⟨v, rfl, hE⟩, hp⟩ := hm
 have HL2 := hQz (mv_be (nb := nb) (k := 3) (by decide) _ HS1.out.px.pat.le _ _ _ _ hr)
 have HO2 := hQz (bl_be (nb := nb) 3 _ _ _ _ _ HS1.out.px.pat.open_ hr)
 have HQ2 := hQz hr
 replace HR := hQz hR
 have HS2 := hQz (HS1.out.step hb hp)
 clear hb hp hr hR
 unfold TkE at hE
 subst hE
 have HT2 : Hid (x2.text.length ≤ 140737488355000) := by rw [show x2 = _ from be_eq HQ2.out]; exact Htx.out _
 obtain ⟨kd2, pa2, fi2, tx2, er2⟩ := x2
 unfold tokV
 dsimp only at HT2 HR ⊢
 go_wp2_with fail
 refine (mustX [124] _ HS2.out.px).mono ?_
 rintro e w3 ⟨hb, hm⟩
 (try dsimp only at hm)
 have hR := HR.out
 obtain ⟨er, q, hr⟩ | ⟨x3, t3, o3, hr⟩ := pr_cases (pMust ws nb [124] t2 o2)
 · rw [hr] at hm
   rw [pThen_bad hr] at hR
   obtain rfl : e = .panicked (fcs er q) := hm
   exact ⟨rfl, (HS2.out.bo.trans (Bo.ofBt hb)).toBt, by rw [← hR]⟩
 rw [hr] at hm
 rw [pThen_ok hr] at hR
 (try dsimp only at hR)
 obtain ⟨⟨v, rfl, hE⟩, hp⟩ := hm
 have HL3 := hQz (mv_must (nb := nb) [124] _ HS2.out.px.pat.le _ _ _ _ hr)
 have HO3 := hQz (bl_must (nb := nb) [124] _ _ _ _ _ HS2.out.px.pat.open_ hr)
 have HQ3 := hQz hr
 replace HR := hQz hR
 have HS3 := hQz (HS2.out.step hb hp)
 clear hb hp hr hR
 unfold TkE at hE
 subst hE
 obtain ⟨kd3, pa3, fi3, tx3, er3⟩ := x3
 unfold tokV
 (try dsimp only at HR)
 dsimp only
 obtain ⟨a0, a1, a2, a3, a4, a5, a6, a7, a8, a9⟩ := nd_cells HS3.out.bb1
 obtain ⟨W4, hW4⟩ : ∃ W, w3.alloc (.cells #[.int .i64 op0, .int .i64 at0, .string tx0, .int .i64 vk0, .string nu0, .string vt0, .slice io0 iN0 ic0, .slice yo0 yN0 yc0, .slice no0 nN0 nc0, .slice ko0 kN0 kc0] 28) = W := ⟨_, rfl⟩
 have HS4 := hQz (HS3.out.alloc [.int .i64 op0, .int .i64 at0, .string tx0, .int .i64 vk0, .string nu0, .string vt0, .slice io0 iN0 ic0, .slice yo0 yN0 yc0, .slice no0 nN0 nc0, .slice ko0 kN0 kc0] 28)
 rw [hW4] at HS4
 obtain ⟨a0, a1, a2, a3, a4, a5, a6, a7, a8, a9⟩ := nd_cells HS4.out.bb2
 obtain ⟨r0, r1, r2, r3, r4, r5, r6, r7, r8, r9⟩ := nd_cells HS4.out.bb1
 obtain ⟨rf0, rf1, rf2, rf3, rf4, rf5, rf6, rf7, rf8, rf9⟩ := nd_frozen HS4.out.bb1
 go_wp2_with fail
 generalize hzZ : ((((((((((W4).setCell ⟨u.heap.size + 1, 0, none⟩ (.int .i64 29)).setCell ⟨u.heap.size + 1, 1, none⟩ (.int .i64 (pa : Int))).setCell ⟨u.heap.size + 1, 2, none⟩ (.string ⟨tx2.toArray⟩)).setCell ⟨u.heap.size + 1, 3, none⟩ (.int .i64 0)).setCell ⟨u.heap.size + 1, 4, none⟩ (.string ⟨#[]⟩)).setCell ⟨u.heap.size + 1, 5, none⟩ (.string ⟨#[]⟩)).setCell ⟨u.heap.size + 1, 6, none⟩ (.slice none 0 0)).setCell ⟨u.heap.size + 1, 7, none⟩ (.slice none 0 0)).setCell ⟨u.heap.size + 1, 8, none⟩ (.slice none 0 0)).setCell ⟨u.heap.size + 1, 9, none⟩ (.slice (some ⟨w3.heap.size, 0, none⟩) 1 1) = WZ
 have PZ := nd_set HS4.out.bb1 hzZ
 obtain ⟨m0, m1, m2, m3, m4, m5, m6, m7, m8, m9⟩ := nd_cells PZ.new
 have HZ := HS4.out.put 1 _ _ [.int .i64 29, .int .i64 (pa : Int), .string ⟨tx2.toArray⟩, .int .i64 0, .string ⟨#[]⟩, .string ⟨#[]⟩, .slice none 0 0, .slice none 0 0, .slice none 0 0, .slice (some ⟨w3.heap.size, 0, none⟩) 1 1] _ rfl PZ
 refine bodyPost_ret (v := .agg #[.int .i64 29, .int .i64 (pa : Int), .string ⟨tx2.toArray⟩, .int .i64 0, .string ⟨#[]⟩, .string ⟨#[]⟩, .slice none 0 0, .slice none 0 0, .slice none 0 0, .slice (some ⟨w3.heap.size, 0, none⟩) 1 1]) (by simp [results, Tryz.results107, go_sem, m0, m1, m2, m3, m4, m5, m6, m7, m8, m9]) rfl ?_
 have hR := HR.out
 refine ⟨HZ.bo.toBt, ?_⟩
 rw [← hR]
 exact ⟨⟨_, rfl, ⟨29, (pa : Int), 0, ⟨tx2.toArray⟩, ⟨#[]⟩, ⟨#[]⟩, none, none, none, some ⟨w3.heap.size, 0, none⟩, 0, 0, 0, 0, 0, 0, 1, 1⟩, rfl, NdI.lit (Ts := [T0]) (ds := [⟨op0, at0, vk0, tx0, nu0, vt0, io0, yo0, no0, ko0, iN0, ic0, yN0, yc0, nN0, nc0, kN0, kc0⟩]) 29 (pa : Int) ⟨tx2.toArray⟩ (by have := HT2.out; show tx2.length ≤ _; omega) rfl (by simp) HZ.bb0 (HZ.dn _ (HZ.bxs _ (List.mem_of_getElem? (i := 0) rfl)).1) (els1 HZ.t0), rfl, (by show 1 ≤ 1000; decide)⟩, HZ.px⟩
theorem unaryX (h : PO B so sc ws nb (m + 1) P O) (hp : NodeC B so sc ws nb 122 m (postP ws nb P O)) : NodeC B so sc ws nb 106 m (unaryP ws nb P O) := by
 intro D u t o dn db hx hm
 obtain ⟨R, hR⟩ : ∃ R, unaryP ws nb P O t o = R := ⟨_, rfl⟩
 rw [hR]
 unfold unaryP at hR
 have HR := hQz hR
 have HPO := hQz h
 have HS0 := hQz (SB.new (Fl := true) (tr := []) hx dn db (fun q hq => by simp at hq))
 have HX := hQz (And.intro hx.pat.le hx.pat.open_)
 have HM := hQz hm
 have hfl0 := Tryz.fldX0
 have hfl1 := Tryz.fldX1
 have hfl3 := Tryz.fldX3
 clear hR h hx hm dn db
 obtain ⟨i0, hi0, hz0, hz1, hz2⟩ := info_parts Tryz.infoN
 have HPp := hQz hp
 clear hp
 go_enter Tryz.func106, Tryz.ntmps106
 go_wp2_with fail
 have HS1 := hQz (HS0.out.alloc [.int .i64 0, .int .i64 0, .string ⟨#[]⟩, .int .i64 0, .string ⟨#[]⟩, .string ⟨#[]⟩, .slice none 0 0, .slice none 0 0, .slice none 0 0, .slice none 0 0] 28)
 go_loopw [3] (fun b3 wr => ∃ (Ns : List NT) (t3 o3 f : Nat), Hid (ws.length < t3 + f) ∧ Hid (SB true D none u B so sc ws nb t3 o3 [(u.heap.size, [.int .i64 0, .int .i64 0, .string ⟨#[]⟩, .int .i64 0, .string ⟨#[]⟩, .string ⟨#[]⟩, .slice none 0 0, .slice none 0 0, .slice none 0 0, .slice none 0 0], 28)] b3 Ns [] wr) ∧ Hid (Ns.length ≤ t3 ∧ t ≤ t3 ∧ o3 = o) ∧ Hid (pThen (lpP (fun (a : List NT) t o => if syP ws t [45] then .ok (.inl (a ++ [ndP 11 (hrP ws t).at_ []])) (t + 1) o else .ok (.inr a) t o) f Ns) (fun ss => pThen (postP ws nb P O) fun n => pOk (withinP ss n)) t3 o3 = R)) (fun _ wr => ws.length + 1 - tkOf B wr)
 case atStart => exact ⟨[], t, o, ws.length + 1, (by show _ < _; have := HX.out; omega), HS1, ⟨Nat.zero_le _, Nat.le_refl _, rfl⟩, HR⟩
 case round =>
  clear HR HS0
  obtain ⟨Ns, t3, o3, f, HF, HS0, HK, HR⟩ := hrel
  obtain ⟨f, rfl⟩ : ∃ f', f = f' + 1 := ⟨f - 1, by have := HF.out; have := HS0.out.px.pat.le; omega⟩
  have HTk := hQz HS0.out.px.tk
  have hR := HR.out
  rw [lp_step] at hR
  replace HR := hQz hR
  clear hR
  obtain ⟨c, hc⟩ : ∃ c, syP ws t3 [45] = c := ⟨_, rfl⟩
  cases c with
  | true =>
   have hR := HR.out
   rw [pThen_ok (a := .inl (Ns ++ [ndP 11 (hrP ws t3).at_ []])) (t' := t3 + 1) (o' := o3) (by (try dsimp only); rw [if_pos hc])] at hR
   (try dsimp only at hR)
   replace HR := hQz hR
   clear hR
   go_wp2_with fail
   refine (saysX [45] hc _ HS0.out.px).mono ?_
   rintro e w1 ⟨rfl, hb⟩
   have HS2 := hQz (HS0.out.keep hb)
   clear hb
   go_wp2_with fail
   refine (takeX (sy_lt hc) _ HS2.out.px).mono ?_
   rintro e w2 ⟨rfl, hb, hp⟩
   have HS3 := hQz (HS2.out.step hb hp)
   clear hb hp
   have hl4 := hQz (sy_lt hc)
   generalize hrP ws t3 = X at *
   obtain ⟨kd, pa, fi, tx, er⟩ := X
   unfold tokV
   dsimp only at HR ⊢
   have HS4 := hQz (HS3.out.add (NdI.leaf _ _ 11 (pa : Int) .empty size0))
   obtain ⟨ds, hrw⟩ := HS4.out.row
   have HRW := hQz hrw
   clear hrw
   go_wp2_with (at_builtin; go_loud (refine wpList_append_own_at _ rfl _ _ 26 rfl 0 28 i0 (.agg #[.int .i64 0, .int .i64 0, .string ⟨#[]⟩, .int .i64 0, .string ⟨#[]⟩, .string ⟨#[]⟩, .slice none 0 0, .slice none 0 0, .slice none 0 0, .slice none 0 0]) 10 168 Tryz.underlying26 hi0 hz0 hz1 hz2 rfl (by decide) (u3) (Ns).length (ds.flatMap NV.l) rfl (HS4.out.ownA HRW.out _) ⟨w2.heap.size, 0, none⟩ 1 1 (NV.l ⟨11, (pa : Int), 0, ⟨#[]⟩, ⟨#[]⟩, ⟨#[]⟩, none, none, none, none, 0, 0, 0, 0, 0, 0, 0, 0⟩) rfl rfl (newsL (heap_alloc_new w2 _)) (one_l _) (by have := (by have := HK.out; have := HS0.out.px.pat.le; have := HS0.out.px.pat.few; omega : Ns.length + 1 ≤ 50331648); unfold maxLen; omega) (by have := (by have := HK.out; have := HS0.out.px.pat.le; have := HS0.out.px.pat.few; omega : Ns.length + 1 ≤ 50331648); omega) (Nat.zero_le _) ?_))
   intro v6 w3 hown hgrow hnil hat
   have HS5 := hQz ((HS4.out.app HRW.out (Us := [ndP 11 pa []]) (es := [⟨11, (pa : Int), 0, ⟨#[]⟩, ⟨#[]⟩, ⟨#[]⟩, none, none, none, none, 0, 0, 0, 0, 0, 0, 0, 0⟩]) rfl (els1 HS4.out.m0) (fun _ i d hi => by cases i with | zero => cases hi; exact ⟨rfl, Nat.zero_le _⟩ | succ i => cases hi) _ (by simpa using hown) hgrow hat).drop)
   clear hown hgrow hnil hat HRW
   go_wp2_with fail
   go_roundw
   case rel =>
    refine ⟨Ns ++ [ndP 11 pa []], t3 + 1, o3, f, ?_, HS5, ?_, HR⟩
    · have h1 := HF.out
      show _ < _
      omega
    · have h1 := HK.out
      have h6 : (Ns ++ [ndP 11 pa []]).length = Ns.length + 1 := by simp
      exact ⟨by omega, by omega, by omega⟩
   case measure =>
    rw [HTk.out, HS5.out.px.tk]
    have h2 := hl4.out
    omega
  | false =>
   have hR := HR.out
   rw [pThen_ok (a := .inr Ns) (t' := t3) (o' := o3) (by (try dsimp only); rw [if_neg (by rw [hc]; decide)])] at hR
   (try dsimp only at hR)
   replace HR := hQz hR
   clear hR
   go_wp2_with fail
   refine (saysX [45] hc _ HS0.out.px).mono ?_
   rintro e w1 ⟨rfl, hb⟩
   have HS2 := hQz (HS0.out.keep hb)
   clear hb
   go_wp2_with fail
   refine (HPp.out _ _ _ _ HS2.out.dnW HS2.out.dbW HS2.out.px (by have := HK.out; have := HM.out; omega)).mono ?_
   rintro e w2 ⟨hb, hm⟩
   (try dsimp only at hm)
   have hR := HR.out
   obtain ⟨er, q, hr⟩ | ⟨T4, t4, o4, hr⟩ := pr_cases (postP ws nb P O t3 o3)
   · rw [hr] at hm
     rw [pThen_bad hr] at hR
     obtain rfl : e = .panicked (fcs er q) := hm
     exact ⟨rfl, (HS2.out.bo.trans (Bo.ofBt hb)).toBt, by rw [← hR]⟩
   rw [hr] at hm
   rw [pThen_ok hr] at hR
   (try dsimp only at hR)
   obtain ⟨⟨v, rfl, hE⟩, hp⟩ := hm
   have HQ2 := hQz hr
   replace HR := hQz hR
   have HS3 := hQz (HS2.out.step hb hp)
   clear hb hp hr hR
   obtain ⟨d, rfl, hd⟩ := hE
   have HS4 := hQz (HS3.out.add hd)
   clear hd
   obtain ⟨op4, at4, vk4, tx4, nu4, vt4, io4, yo4, no4, ko4, iN4, ic4, yN4, yc4, nN4, nc4, kN4, kc4⟩ := d
   unfold NV.v NV.l
   dsimp only
   obtain ⟨ds, hrw, hfl⟩ := HS4.out.waits
   have HWt := hQz (And.intro hrw hfl)
   clear hrw hfl
   go_wp2_with fail
   refine (withinX _ (u3) (Ns) ds T4 ⟨op4, at4, vk4, tx4, nu4, vt4, io4, yo4, no4, ko4, iN4, ic4, yN4, yc4, nN4, nc4, kN4, kc4⟩ _ HS4.out.dnW HWt.out.1 HWt.out.2 (by have := HK.out; have := HS0.out.px.pat.le; have := HS0.out.px.pat.few; omega) HS4.out.m0).mono ?_
   rintro e w3 ⟨d, rfl, hb, hd⟩
   have HS5 := hQz ((HS4.out.keep hb).add (hd.weak (fun b hb _ => hb)))
   clear hb hd
   obtain ⟨op5, at5, vk5, tx5, nu5, vt5, io5, yo5, no5, ko5, iN5, ic5, yN5, yc5, nN5, nc5, kN5, kc5⟩ := d
   unfold NV.v NV.l
   dsimp only
   clear HWt
   obtain ⟨r0, r1, r2, r3, r4, r5, r6, r7, r8, r9⟩ := nd_cells HS5.out.bb0
   obtain ⟨rf0, rf1, rf2, rf3, rf4, rf5, rf6, rf7, rf8, rf9⟩ := nd_frozen HS5.out.bb0
   go_wp2_with fail
   generalize hzZ : ((((((((((w3).setCell ⟨u.heap.size, 0, none⟩ (.int .i64 op5)).setCell ⟨u.heap.size, 1, none⟩ (.int .i64 at5)).setCell ⟨u.heap.size, 2, none⟩ (.string tx5)).setCell ⟨u.heap.size, 3, none⟩ (.int .i64 vk5)).setCell ⟨u.heap.size, 4, none⟩ (.string nu5)).setCell ⟨u.heap.size, 5, none⟩ (.string vt5)).setCell ⟨u.heap.size, 6, none⟩ (.slice io5 iN5 ic5)).setCell ⟨u.heap.size, 7, none⟩ (.slice yo5 yN5 yc5)).setCell ⟨u.heap.size, 8, none⟩ (.slice no5 nN5 nc5)).setCell ⟨u.heap.size, 9, none⟩ (.slice ko5 kN5 kc5) = WZ
   have PZ := nd_set HS5.out.bb0 hzZ
   obtain ⟨m0, m1, m2, m3, m4, m5, m6, m7, m8, m9⟩ := nd_cells PZ.new
   have HZ := HS5.out.put 0 _ _ [.int .i64 op5, .int .i64 at5, .string tx5, .int .i64 vk5, .string nu5, .string vt5, .slice io5 iN5 ic5, .slice yo5 yN5 yc5, .slice no5 nN5 nc5, .slice ko5 kN5 kc5] _ rfl PZ
   refine bodyPost_ret (v := .agg #[.int .i64 op5, .int .i64 at5, .string tx5, .int .i64 vk5, .string nu5, .string vt5, .slice io5 iN5 ic5, .slice yo5 yN5 yc5, .slice no5 nN5 nc5, .slice ko5 kN5 kc5]) (by simp [results, Tryz.results106, go_sem, m0, m1, m2, m3, m4, m5, m6, m7, m8, m9]) rfl ?_
   have hR := HR.out
   refine ⟨HZ.bo.toBt, ?_⟩
   rw [← hR]
   exact ⟨⟨_, rfl, ⟨op5, at5, vk5, tx5, nu5, vt5, io5, yo5, no5, ko5, iN5, ic5, yN5, yc5, nN5, nc5, kN5, kc5⟩, rfl, HZ.t0⟩, HZ.px⟩
theorem pipeX (h : PO B so sc ws nb (m + 1) P O) (hl : LinkC B so sc ws nb m (linkP ws nb P O)) : NodeC B so sc ws nb 52 m (pipeP ws nb P O) := by
 intro D u t o dn db hx hm
 obtain ⟨R, hR⟩ : ∃ R, pipeP ws nb P O t o = R := ⟨_, rfl⟩
 rw [hR]
 unfold pipeP at hR
 replace hR := (then_pOk _ _ _).trans hR
 have HR := hQz hR
 have HPO := hQz h
 have HS0 := hQz (SB.new (Fl := true) (tr := []) hx dn db (fun q hq => by simp at hq))
 have HX := hQz (And.intro hx.pat.le hx.pat.open_)
 have HM := hQz hm
 have hfl0 := Tryz.fldX0
 have hfl1 := Tryz.fldX1
 have hfl3 := Tryz.fldX3
 clear hR h hx hm dn db
 obtain ⟨i0, hi0, hz0, hz1, hz2⟩ := info_parts Tryz.infoN
 have HLk := hQz hl
 clear hl
 go_enter Tryz.func52, Tryz.ntmps52
 go_wp2_with fail
 have HS1 := hQz (HS0.out.alloc [.int .i64 0, .int .i64 0, .string ⟨#[]⟩, .int .i64 0, .string ⟨#[]⟩, .string ⟨#[]⟩, .slice none 0 0, .slice none 0 0, .slice none 0 0, .slice none 0 0] 28)
 go_loopw [3] (fun b3 wr => ∃ (Ns : List NT) (t3 o3 f : Nat), Hid (ws.length < t3 + f) ∧ Hid (SB true D none u B so sc ws nb t3 o3 [(u.heap.size, [.int .i64 0, .int .i64 0, .string ⟨#[]⟩, .int .i64 0, .string ⟨#[]⟩, .string ⟨#[]⟩, .slice none 0 0, .slice none 0 0, .slice none 0 0, .slice none 0 0], 28)] b3 Ns [] wr) ∧ Hid (Ns.length ≤ t3 ∧ t ≤ t3 ∧ o3 = o) ∧ Hid (pThen (lpP (fun (a : List NT) => pThen (linkP ws nb P O) fun r => if r.2 then pOk (.inl (a ++ [r.1])) else pOk (.inr (withinP a r.1))) f Ns) pOk t3 o3 = R)) (fun _ wr => ws.length + 1 - tkOf B wr)
 case atStart => exact ⟨[], t, o, ws.length + 1, (by show _ < _; have := HX.out; omega), HS1, ⟨Nat.zero_le _, Nat.le_refl _, rfl⟩, HR⟩
 case round =>
  clear HR HS0
  obtain ⟨Ns, t3, o3, f, HF, HS0, HK, HR⟩ := hrel
  obtain ⟨f, rfl⟩ : ∃ f', f = f' + 1 := ⟨f - 1, by have := HF.out; have := HS0.out.px.pat.le; omega⟩
  have HTk := hQz HS0.out.px.tk
  have hR := HR.out
  rw [lp_step, pThen_assoc] at hR
  replace HR := hQz hR
  clear hR
  go_wp2_with fail
  refine (HLk.out _ _ _ _ HS0.out.dnW HS0.out.dbW HS0.out.px (by have := HK.out; have := HM.out; omega)).mono ?_
  rintro e w1 ⟨hb, hm⟩
  (try dsimp only at hm)
  have hR := HR.out
  obtain ⟨er, q, hr⟩ | ⟨r4, t4, o4, hr⟩ := pr_cases (linkP ws nb P O t3 o3)
  · rw [hr] at hm
    rw [pThen_bad hr] at hR
    obtain rfl : e = .panicked (fcs er q) := hm
    exact ⟨rfl, (HS0.out.bo.trans (Bo.ofBt hb)).toBt, by rw [← hR]⟩
  rw [hr] at hm
  rw [pThen_ok hr] at hR
  (try dsimp only at hR)
  obtain ⟨⟨v, rfl, hE⟩, hp⟩ := hm
  have HL1 := hQz (mv_link (nb := nb) HPO.out.mp HPO.out.mo _ HS0.out.px.pat.le _ _ _ _ hr)
  have HO1 := hQz (bl_link (nb := nb) HPO.out.bp HPO.out.bo _ _ _ _ _ HS0.out.px.pat.open_ hr)
  have HQ1 := hQz hr
  replace HR := hQz hR
  have HS2 := hQz (HS0.out.step hb hp)
  clear hb hp hr hR
  obtain ⟨d, rfl, hd, hf⟩ := hE
  obtain ⟨T4, b4⟩ := r4
  dsimp only at hd hf HR ⊢
  have HF4 := hQz hf
  have HS3 := hQz (HS2.out.add hd)
  clear hd hf
  obtain ⟨op4, at4, vk4, tx4, nu4, vt4, io4, yo4, no4, ko4, iN4, ic4, yN4, yc4, nN4, nc4, kN4, kc4⟩ := d
  unfold NV.v NV.l
  dsimp only at HF4 ⊢
  obtain ⟨W2, hW2⟩ : ∃ W, w1.alloc (.cells #[.int .i64 op4, .int .i64 at4, .string tx4, .int .i64 vk4, .string nu4, .string vt4, .slice io4 iN4 ic4, .slice yo4 yN4 yc4, .slice no4 nN4 nc4, .slice ko4 kN4 kc4] 28) = W := ⟨_, rfl⟩
  have HS4 := hQz (HS3.out.alloc [.int .i64 op4, .int .i64 at4, .string tx4, .int .i64 vk4, .string nu4, .string vt4, .slice io4 iN4 ic4, .slice yo4 yN4 yc4, .slice no4 nN4 nc4, .slice ko4 kN4 kc4] 28)
  rw [hW2] at HS4
  cases b4 with
  | true =>
   have hR := HR.out
   rw [if_pos rfl, pThen_ok (x := pOk _) rfl] at hR
   (try dsimp only at hR)
   replace HR := hQz hR
   clear hR
   obtain ⟨c0, c1, c2, c3, c4, c5, c6, c7, c8, c9⟩ := nd_cells HS4.out.bb0
   have cA : (∀ x, (W2.alloc x).cell? ⟨w1.heap.size, 0, none⟩ = some (.int .i64 op4)) ∧ (∀ x, (W2.alloc x).cell? ⟨w1.heap.size, 1, none⟩ = some (.int .i64 at4)) ∧ (∀ x, (W2.alloc x).cell? ⟨w1.heap.size, 2, none⟩ = some (.string tx4)) ∧ (∀ x, (W2.alloc x).cell? ⟨w1.heap.size, 3, none⟩ = some (.int .i64 vk4)) ∧ (∀ x, (W2.alloc x).cell? ⟨w1.heap.size, 4, none⟩ = some (.string nu4)) ∧ (∀ x, (W2.alloc x).cell? ⟨w1.heap.size, 5, none⟩ = some (.string vt4)) ∧ (∀ x, (W2.alloc x).cell? ⟨w1.heap.size, 6, none⟩ = some (.slice io4 iN4 ic4)) ∧ (∀ x, (W2.alloc x).cell? ⟨w1.heap.size, 7, none⟩ = some (.slice yo4 yN4 yc4)) ∧ (∀ x, (W2.alloc x).cell? ⟨w1.heap.size, 8, none⟩ = some (.slice no4 nN4 nc4)) ∧ (∀ x, (W2.alloc x).cell? ⟨w1.heap.size, 9, none⟩ = some (.slice ko4 kN4 kc4)) := ⟨fun x => (nd_cells ((Below.heap_alloc _ _ _ (HS4.out.bxs _ (List.mem_of_getElem? (i := 0) rfl)).2.1).trans HS4.out.bb0)).1, fun x => (nd_cells ((Below.heap_alloc _ _ _ (HS4.out.bxs _ (List.mem_of_getElem? (i := 0) rfl)).2.1).trans HS4.out.bb0)).2.1, fun x => (nd_cells ((Below.heap_alloc _ _ _ (HS4.out.bxs _ (List.mem_of_getElem? (i := 0) rfl)).2.1).trans HS4.out.bb0)).2.2.1, fun x => (nd_cells ((Below.heap_alloc _ _ _ (HS4.out.bxs _ (List.mem_of_getElem? (i := 0) rfl)).2.1).trans HS4.out.bb0)).2.2.2.1, fun x => (nd_cells ((Below.heap_alloc _ _ _ (HS4.out.bxs _ (List.mem_of_getElem? (i := 0) rfl)).2.1).trans HS4.out.bb0)).2.2.2.2.1, fun x => (nd_cells ((Below.heap_alloc _ _ _ (HS4.out.bxs _ (List.mem_of_getElem? (i := 0) rfl)).2.1).trans HS4.out.bb0)).2.2.2.2.2.1, fun x => (nd_cells ((Below.heap_alloc _ _ _ (HS4.out.bxs _ (List.mem_of_getElem? (i := 0) rfl)).2.1).trans HS4.out.bb0)).2.2.2.2.2.2.1, fun x => (nd_cells ((Below.heap_alloc _ _ _ (HS4.out.bxs _ (List.mem_of_getElem? (i := 0) rfl)).2.1).trans HS4.out.bb0)).2.2.2.2.2.2.2.1, fun x => (nd_cells ((Below.heap_alloc _ _ _ (HS4.out.bxs _ (List.mem_of_getElem? (i := 0) rfl)).2.1).trans HS4.out.bb0)).2.2.2.2.2.2.2.2.1, fun x => (nd_cells ((Below.heap_alloc _ _ _ (HS4.out.bxs _ (List.mem_of_getElem? (i := 0) rfl)).2.1).trans HS4.out.bb0)).2.2.2.2.2.2.2.2.2⟩
   obtain ⟨e0, e1, e2, e3, e4, e5, e6, e7, e8, e9⟩ := cA
   obtain ⟨ds, hrw⟩ := HS4.out.row
   have HRW := hQz hrw
   clear hrw
   go_wp2_with (at_builtin; go_loud (refine wpList_append_own_at _ rfl _ _ 26 rfl 0 28 i0 (.agg #[.int .i64 0, .int .i64 0, .string ⟨#[]⟩, .int .i64 0, .string ⟨#[]⟩, .string ⟨#[]⟩, .slice none 0 0, .slice none 0 0, .slice none 0 0, .slice none 0 0]) 10 168 Tryz.underlying26 hi0 hz0 hz1 hz2 rfl (by decide) (u3) (Ns).length (ds.flatMap NV.l) rfl (HS4.out.ownA HRW.out _) ⟨W2.heap.size, 0, none⟩ 1 1 (NV.l ⟨op4, at4, vk4, tx4, nu4, vt4, io4, yo4, no4, ko4, iN4, ic4, yN4, yc4, nN4, nc4, kN4, kc4⟩) rfl rfl (newsL (heap_alloc_new W2 _)) (one_l _) (by have := (by have := HK.out; have := HS0.out.px.pat.le; have := HS0.out.px.pat.few; omega : Ns.length + 1 ≤ 50331648); unfold maxLen; omega) (by have := (by have := HK.out; have := HS0.out.px.pat.le; have := HS0.out.px.pat.few; omega : Ns.length + 1 ≤ 50331648); omega) (Nat.zero_le _) ?_))
   intro v6 w3 hown hgrow hnil hat
   have HS5 := hQz ((HS4.out.app HRW.out (Us := [T4]) (es := [⟨op4, at4, vk4, tx4, nu4, vt4, io4, yo4, no4, ko4, iN4, ic4, yN4, yc4, nN4, nc4, kN4, kc4⟩]) rfl (els1 HS4.out.m0) (fun _ i d hi => by cases i with | zero => cases hi; exact HF4.out (by first | rfl | trivial) | succ i => cases hi) _ (by simpa using hown) hgrow hat).drop)
   clear hown hgrow hnil hat HRW
   go_wp2_with fail
   have HS6 := hQz (HS5.out.unbox)
   go_roundw
   case rel =>
    refine ⟨Ns ++ [T4], t4, o4, f, ?_, HS6, ?_, HR⟩
    · have h1 := HF.out
      have h2 := HL1.out
      show _ < _
      omega
    · have h1 := HK.out
      have h2 := HL1.out
      have h3 := HO1.out
      have h6 : (Ns ++ [T4]).length = Ns.length + 1 := by simp
      exact ⟨by omega, by omega, by omega⟩
   case measure =>
    rw [HTk.out, HS6.out.px.tk]
    have h2 := HL1.out
    have h3 := HS0.out.px.pat.le
    omega
  | false =>
   have hR := HR.out
   rw [if_neg (by decide), pThen_ok (x := pOk _) rfl] at hR
   (try dsimp only at hR)
   replace HR := hQz hR
   clear hR
   obtain ⟨c0, c1, c2, c3, c4, c5, c6, c7, c8, c9⟩ := nd_cells HS4.out.bb0
   obtain ⟨ds, hrw, hfl⟩ := HS4.out.waits
   have HWt := hQz (And.intro hrw hfl)
   clear hrw hfl
   go_wp2_with fail
   refine (withinX _ (u3) (Ns) ds T4 ⟨op4, at4, vk4, tx4, nu4, vt4, io4, yo4, no4, ko4, iN4, ic4, yN4, yc4, nN4, nc4, kN4, kc4⟩ _ HS4.out.dnW HWt.out.1 HWt.out.2 (by have := HK.out; have := HS0.out.px.pat.le; have := HS0.out.px.pat.few; omega) HS4.out.m0).mono ?_
   rintro e w3 ⟨d, rfl, hb, hd⟩
   have HS5 := hQz ((HS4.out.keep hb).add (hd.weak (fun b hb _ => hb)))
   clear hb hd
   obtain ⟨op5, at5, vk5, tx5, nu5, vt5, io5, yo5, no5, ko5, iN5, ic5, yN5, yc5, nN5, nc5, kN5, kc5⟩ := d
   unfold NV.v NV.l
   dsimp only
   clear HWt
   obtain ⟨r0, r1, r2, r3, r4, r5, r6, r7, r8, r9⟩ := nd_cells HS5.out.bb1
   obtain ⟨rf0, rf1, rf2, rf3, rf4, rf5, rf6, rf7, rf8, rf9⟩ := nd_frozen HS5.out.bb1
   go_wp2_with fail
   generalize hzZ : ((((((((((w3).setCell ⟨u.heap.size, 0, none⟩ (.int .i64 op5)).setCell ⟨u.heap.size, 1, none⟩ (.int .i64 at5)).setCell ⟨u.heap.size, 2, none⟩ (.string tx5)).setCell ⟨u.heap.size, 3, none⟩ (.int .i64 vk5)).setCell ⟨u.heap.size, 4, none⟩ (.string nu5)).setCell ⟨u.heap.size, 5, none⟩ (.string vt5)).setCell ⟨u.heap.size, 6, none⟩ (.slice io5 iN5 ic5)).setCell ⟨u.heap.size, 7, none⟩ (.slice yo5 yN5 yc5)).setCell ⟨u.heap.size, 8, none⟩ (.slice no5 nN5 nc5)).setCell ⟨u.heap.size, 9, none⟩ (.slice ko5 kN5 kc5) = WZ
   have PZ := nd_set HS5.out.bb1 hzZ
   obtain ⟨m0, m1, m2, m3, m4, m5, m6, m7, m8, m9⟩ := nd_cells PZ.new
   have HZ := HS5.out.put 1 _ _ [.int .i64 op5, .int .i64 at5, .string tx5, .int .i64 vk5, .string nu5, .string vt5, .slice io5 iN5 ic5, .slice yo5 yN5 yc5, .slice no5 nN5 nc5, .slice ko5 kN5 kc5] _ rfl PZ
   refine bodyPost_ret (v := .agg #[.int .i64 op5, .int .i64 at5, .string tx5, .int .i64 vk5, .string nu5, .string vt5, .slice io5 iN5 ic5, .slice yo5 yN5 yc5, .slice no5 nN5 nc5, .slice ko5 kN5 kc5]) (by simp [results, Tryz.results52, go_sem, m0, m1, m2, m3, m4, m5, m6, m7, m8, m9]) rfl ?_
   have hR := HR.out
   refine ⟨HZ.bo.toBt, ?_⟩
   rw [← hR]
   exact ⟨⟨_, rfl, ⟨op5, at5, vk5, tx5, nu5, vt5, io5, yo5, no5, ko5, iN5, ic5, yN5, yc5, nN5, nc5, kN5, kc5⟩, rfl, HZ.t0⟩, HZ.px⟩
end
theorem sy_text {ws : List Tok} {t : Nat} {s : List UInt8} (h : syP ws t s = true) : (hrP ws t).text = s := by
 unfold syP at h
 rw [Bool.and_eq_true] at h
 exact eq_of_beq h.2
section
variable {B : Nat} {so : Option Addr} {sc : Nat} {ws : List Tok} {nb : Nat} {m : Nat} {P : PM NT} {O : Nat → PM NT}
theorem awaitsX {t o : Nat} (u : World) (hx : PX u B so sc ws nb t o) : Calls Tryz.prog 135 #[.pointer (some ⟨B, 0, none⟩)] u fun e w' => e = .returned (.bool (awaitP ws t).isSome) ∧ Below u.heap.size u w' := by
 obtain ⟨R, hR⟩ : ∃ R, (awaitP ws t).isSome = R := ⟨_, rfl⟩
 rw [hR]
 unfold awaitP at hR
 dsimp only at hR
 have HX := hQz hx
 have HR := hQz hR
 clear hR hx
 obtain ⟨c1, h1⟩ : ∃ c, syP ws t [116, 114, 121] = c := ⟨_, rfl⟩
 cases c1 with
 | true =>
  have hR := HR.out
  rw [if_pos h1] at hR
  clear HR
  subst hR
  go_enter Tryz.func135, Tryz.ntmps135
  go_wp2_with fail
  refine (saysX [116, 114, 121] h1 _ HX.out).mono ?_
  rintro e w1 ⟨rfl, hb1⟩
  have HX := hQz (HX.out.keep hb1)
  have HB1 := hQz hb1
  clear hb1
  go_wp2_with fail
  go_ret
  exact ⟨rfl, HB1.out⟩
 | false =>
  obtain ⟨c2, h2⟩ : ∃ c, syP ws t [114, 101, 100, 117, 99, 101] = c := ⟨_, rfl⟩
  cases c2 with
  | true =>
   have hR := HR.out
   rw [if_neg (by rw [h1]; decide), if_pos h2] at hR
   clear HR
   subst hR
   go_enter Tryz.func135, Tryz.ntmps135
   go_wp2_with fail
   refine (saysX [116, 114, 121] h1 _ HX.out).mono ?_
   rintro e w1 ⟨rfl, hb1⟩
   have HX := hQz (HX.out.keep hb1)
   have HB1 := hQz hb1
   clear hb1
   go_wp2_with fail
   refine (saysX [114, 101, 100, 117, 99, 101] h2 _ HX.out).mono ?_
   rintro e w2 ⟨rfl, hb2⟩
   have HX := hQz (HX.out.keep hb2)
   have HB2 := hQz hb2
   clear hb2
   go_wp2_with fail
   go_ret
   exact ⟨rfl, HB1.out.trans (HB2.out.mono (HB1.out.size))⟩
  | false =>
   obtain ⟨c3, h3⟩ : ∃ c, syP ws t [102, 111, 114, 101, 97, 99, 104] = c := ⟨_, rfl⟩
   cases c3 with
   | true =>
    have hR := HR.out
    rw [if_neg (by rw [h1]; decide), if_neg (by rw [h2]; decide), if_pos h3] at hR
    clear HR
    subst hR
    go_enter Tryz.func135, Tryz.ntmps135
    go_wp2_with fail
    refine (saysX [116, 114, 121] h1 _ HX.out).mono ?_
    rintro e w1 ⟨rfl, hb1⟩
    have HX := hQz (HX.out.keep hb1)
    have HB1 := hQz hb1
    clear hb1
    go_wp2_with fail
    refine (saysX [114, 101, 100, 117, 99, 101] h2 _ HX.out).mono ?_
    rintro e w2 ⟨rfl, hb2⟩
    have HX := hQz (HX.out.keep hb2)
    have HB2 := hQz hb2
    clear hb2
    go_wp2_with fail
    refine (saysX [102, 111, 114, 101, 97, 99, 104] h3 _ HX.out).mono ?_
    rintro e w3 ⟨rfl, hb3⟩
    have HX := hQz (HX.out.keep hb3)
    have HB3 := hQz hb3
    clear hb3
    go_wp2_with fail
    go_ret
    exact ⟨rfl, (HB1.out.trans (HB2.out.mono (HB1.out.size))).trans (HB3.out.mono (Nat.le_trans HB1.out.size HB2.out.size))⟩
   | false =>
    have hR := HR.out
    rw [if_neg (by rw [h1]; decide), if_neg (by rw [h2]; decide), if_neg (by rw [h3]; decide)] at hR
    clear HR
    subst hR
    go_enter Tryz.func135, Tryz.ntmps135
    go_wp2_with fail
    refine (saysX [116, 114, 121] h1 _ HX.out).mono ?_
    rintro e w1 ⟨rfl, hb1⟩
    have HX := hQz (HX.out.keep hb1)
    have HB1 := hQz hb1
    clear hb1
    go_wp2_with fail
    refine (saysX [114, 101, 100, 117, 99, 101] h2 _ HX.out).mono ?_
    rintro e w2 ⟨rfl, hb2⟩
    have HX := hQz (HX.out.keep hb2)
    have HB2 := hQz hb2
    clear hb2
    go_wp2_with fail
    refine (saysX [102, 111, 114, 101, 97, 99, 104] h3 _ HX.out).mono ?_
    rintro e w3 ⟨rfl, hb3⟩
    have HX := hQz (HX.out.keep hb3)
    have HB3 := hQz hb3
    clear hb3
    go_wp2_with fail
    go_ret
    exact ⟨rfl, (HB1.out.trans (HB2.out.mono (HB1.out.size))).trans (HB3.out.mono (Nat.le_trans HB1.out.size HB2.out.size))⟩
theorem awaitingX {t o : Nat} {A : NT} (hA : awaitP ws t = some A) (u : World) (hx : PX u B so sc ws nb t o) : Calls Tryz.prog 136 #[.pointer (some ⟨B, 0, none⟩)] u fun e w' => e = .returned (.agg #[.int .i64 A.op, .int .i64 ((hrP ws t).at_ : Int), .string ⟨#[]⟩, .int .i64 0, .string ⟨#[]⟩, .string ⟨#[]⟩, .slice none 0 0, .slice none 0 0, .slice none 0 0, .slice none 0 0]) ∧ Bt B u w' ∧ PX w' B so sc ws nb (t + 1) o := by
 unfold awaitP at hA
 dsimp only at hA
 have HS0 := hQz (SB.new (Fl := false) (tr := []) hx (fun b (hb : u.heap.size ≤ b) => hb) (fun b hb => by have := hx.pat.lt; omega) (fun q hq => by simp at hq))
 clear hx
 by_cases h1 : syP ws t [116, 114, 121] = true
 · rw [if_pos h1] at hA
   injection hA with hA
   subst hA
   have Hlt := hQz (sy_lt h1)
   have hTx := sy_text h1
   clear h1
   show Calls _ _ _ _ fun e w' => e = .returned (.agg #[.int .i64 10, _, _, _, _, _, _, _, _, _]) ∧ _ ∧ _
   have HTk : Hid (∀ W, PX W B so sc ws nb t o → Calls Tryz.prog 109 #[.pointer (some ⟨B, 0, none⟩)] W fun e w' => e = .returned (tokV (hrP ws t)) ∧ Bt B W w' ∧ PX w' B so sc ws nb (t + 1) o) := fun W hW => takeX Hlt.out W hW
   generalize hrP ws t = X at *
   obtain ⟨kd, pa, fi, tx, er⟩ := X
   unfold tokV at HTk
   dsimp only at HTk hTx ⊢
   have q1 : (tx == [114, 101, 100, 117, 99, 101]) = false := by rw [hTx]; rfl
   have q2 : (tx == [102, 111, 114, 101, 97, 99, 104]) = false := by rw [hTx]; rfl
   clear hTx
   go_enter Tryz.func136, Tryz.ntmps136
   go_wp2_with fail
   have HS1 := hQz (HS0.out.alloc [.int .i64 0, .int .i64 0, .string ⟨#[]⟩, .int .i64 0, .string ⟨#[]⟩, .string ⟨#[]⟩, .slice none 0 0, .slice none 0 0, .slice none 0 0, .slice none 0 0] 28)
   refine (HTk.out _ HS1.out.px).mono ?_
   rintro e w1 ⟨rfl, hb, hp⟩
   have HS2 := hQz (HS1.out.step hb hp)
   clear hb hp HTk
   obtain ⟨W2, hW2⟩ : ∃ W, w1.alloc (.cells #[.int .i64 (kd : Int), .int .i64 (pa : Int), .int .i64 (fi : Int), .string ⟨tx.toArray⟩] 39) = W := ⟨_, rfl⟩
   have HS3 := hQz (HS2.out.alloc [.int .i64 (kd : Int), .int .i64 (pa : Int), .int .i64 (fi : Int), .string ⟨tx.toArray⟩] 39)
   rw [hW2] at HS3
   obtain ⟨c0, c1, c2, c3⟩ := tb_cells HS3.out.bb0
   have HS4 := hQz (HS3.out.alloc [.int .i64 10, .int .i64 (pa : Int), .string ⟨#[]⟩, .int .i64 0, .string ⟨#[]⟩, .string ⟨#[]⟩, .slice none 0 0, .slice none 0 0, .slice none 0 0, .slice none 0 0] 28)
   obtain ⟨e0, e1, e2, e3⟩ := tb_cells HS4.out.bb1
   obtain ⟨r0, r1, r2, r3, r4, r5, r6, r7, r8, r9⟩ := nd_cells HS4.out.bb2
   obtain ⟨rf0, rf1, rf2, rf3, rf4, rf5, rf6, rf7, rf8, rf9⟩ := nd_frozen HS4.out.bb2
   clear c0 c2 c3 e0 e1 e2
   go_wp2_with fail
   generalize hzZ : (((((((((((W2.alloc (.cells #[.int .i64 10, .int .i64 (pa : Int), .string ⟨#[]⟩, .int .i64 0, .string ⟨#[]⟩, .string ⟨#[]⟩, .slice none 0 0, .slice none 0 0, .slice none 0 0, .slice none 0 0] 28))).setCell ⟨u.heap.size, 0, none⟩ (.int .i64 10)).setCell ⟨u.heap.size, 1, none⟩ (.int .i64 (pa : Int))).setCell ⟨u.heap.size, 2, none⟩ (.string ⟨#[]⟩)).setCell ⟨u.heap.size, 3, none⟩ (.int .i64 0)).setCell ⟨u.heap.size, 4, none⟩ (.string ⟨#[]⟩)).setCell ⟨u.heap.size, 5, none⟩ (.string ⟨#[]⟩)).setCell ⟨u.heap.size, 6, none⟩ (.slice none 0 0)).setCell ⟨u.heap.size, 7, none⟩ (.slice none 0 0)).setCell ⟨u.heap.size, 8, none⟩ (.slice none 0 0)).setCell ⟨u.heap.size, 9, none⟩ (.slice none 0 0) = WZ
   have PZ := nd_set HS4.out.bb2 hzZ
   obtain ⟨m0, m1, m2, m3, m4, m5, m6, m7, m8, m9⟩ := nd_cells PZ.new
   have HZ := HS4.out.put 2 _ _ [.int .i64 10, .int .i64 (pa : Int), .string ⟨#[]⟩, .int .i64 0, .string ⟨#[]⟩, .string ⟨#[]⟩, .slice none 0 0, .slice none 0 0, .slice none 0 0, .slice none 0 0] _ rfl PZ
   refine bodyPost_ret (v := .agg #[.int .i64 10, .int .i64 (pa : Int), .string ⟨#[]⟩, .int .i64 0, .string ⟨#[]⟩, .string ⟨#[]⟩, .slice none 0 0, .slice none 0 0, .slice none 0 0, .slice none 0 0]) (by simp [results, Tryz.results136, go_sem, m0, m1, m2, m3, m4, m5, m6, m7, m8, m9]) rfl ?_
   exact ⟨rfl, HZ.bo.toBt, HZ.px⟩
 by_cases h2 : syP ws t [114, 101, 100, 117, 99, 101] = true
 · rw [if_neg h1, if_pos h2] at hA
   injection hA with hA
   subst hA
   have Hlt := hQz (sy_lt h2)
   have hTx := sy_text h2
   clear h1 h2
   show Calls _ _ _ _ fun e w' => e = .returned (.agg #[.int .i64 30, _, _, _, _, _, _, _, _, _]) ∧ _ ∧ _
   have HTk : Hid (∀ W, PX W B so sc ws nb t o → Calls Tryz.prog 109 #[.pointer (some ⟨B, 0, none⟩)] W fun e w' => e = .returned (tokV (hrP ws t)) ∧ Bt B W w' ∧ PX w' B so sc ws nb (t + 1) o) := fun W hW => takeX Hlt.out W hW
   generalize hrP ws t = X at *
   obtain ⟨kd, pa, fi, tx, er⟩ := X
   unfold tokV at HTk
   dsimp only at HTk hTx ⊢
   have q1 : (tx == [114, 101, 100, 117, 99, 101]) = true := by rw [hTx]; rfl
   have q2 : (tx == [102, 111, 114, 101, 97, 99, 104]) = false := by rw [hTx]; rfl
   clear hTx
   go_enter Tryz.func136, Tryz.ntmps136
   go_wp2_with fail
   have HS1 := hQz (HS0.out.alloc [.int .i64 0, .int .i64 0, .string ⟨#[]⟩, .int .i64 0, .string ⟨#[]⟩, .string ⟨#[]⟩, .slice none 0 0, .slice none 0 0, .slice none 0 0, .slice none 0 0] 28)
   refine (HTk.out _ HS1.out.px).mono ?_
   rintro e w1 ⟨rfl, hb, hp⟩
   have HS2 := hQz (HS1.out.step hb hp)
   clear hb hp HTk
   obtain ⟨W2, hW2⟩ : ∃ W, w1.alloc (.cells #[.int .i64 (kd : Int), .int .i64 (pa : Int), .int .i64 (fi : Int), .string ⟨tx.toArray⟩] 39) = W := ⟨_, rfl⟩
   have HS3 := hQz (HS2.out.alloc [.int .i64 (kd : Int), .int .i64 (pa : Int), .int .i64 (fi : Int), .string ⟨tx.toArray⟩] 39)
   rw [hW2] at HS3
   obtain ⟨c0, c1, c2, c3⟩ := tb_cells HS3.out.bb0
   have HS4 := hQz (HS3.out.alloc [.int .i64 10, .int .i64 (pa : Int), .string ⟨#[]⟩, .int .i64 0, .string ⟨#[]⟩, .string ⟨#[]⟩, .slice none 0 0, .slice none 0 0, .slice none 0 0, .slice none 0 0] 28)
   obtain ⟨e0, e1, e2, e3⟩ := tb_cells HS4.out.bb1
   have HS5 := hQz (HS3.out.alloc [.int .i64 30, .int .i64 (pa : Int), .string ⟨#[]⟩, .int .i64 0, .string ⟨#[]⟩, .string ⟨#[]⟩, .slice none 0 0, .slice none 0 0, .slice none 0 0, .slice none 0 0] 28)
   obtain ⟨r0, r1, r2, r3, r4, r5, r6, r7, r8, r9⟩ := nd_cells HS5.out.bb2
   obtain ⟨rf0, rf1, rf2, rf3, rf4, rf5, rf6, rf7, rf8, rf9⟩ := nd_frozen HS5.out.bb2
   clear c0 c2 c3 e0 e1 e2
   go_wp2_with fail
   generalize hzZ : (((((((((((W2.alloc (.cells #[.int .i64 30, .int .i64 (pa : Int), .string ⟨#[]⟩, .int .i64 0, .string ⟨#[]⟩, .string ⟨#[]⟩, .slice none 0 0, .slice none 0 0, .slice none 0 0, .slice none 0 0] 28))).setCell ⟨u.heap.size, 0, none⟩ (.int .i64 30)).setCell ⟨u.heap.size, 1, none⟩ (.int .i64 (pa : Int))).setCell ⟨u.heap.size, 2, none⟩ (.string ⟨#[]⟩)).setCell ⟨u.heap.size, 3, none⟩ (.int .i64 0)).setCell ⟨u.heap.size, 4, none⟩ (.string ⟨#[]⟩)).setCell ⟨u.heap.size, 5, none⟩ (.string ⟨#[]⟩)).setCell ⟨u.heap.size, 6, none⟩ (.slice none 0 0)).setCell ⟨u.heap.size, 7, none⟩ (.slice none 0 0)).setCell ⟨u.heap.size, 8, none⟩ (.slice none 0 0)).setCell ⟨u.heap.size, 9, none⟩ (.slice none 0 0) = WZ
   have PZ := nd_set HS5.out.bb2 hzZ
   obtain ⟨m0, m1, m2, m3, m4, m5, m6, m7, m8, m9⟩ := nd_cells PZ.new
   have HZ := HS5.out.put 2 _ _ [.int .i64 30, .int .i64 (pa : Int), .string ⟨#[]⟩, .int .i64 0, .string ⟨#[]⟩, .string ⟨#[]⟩, .slice none 0 0, .slice none 0 0, .slice none 0 0, .slice none 0 0] _ rfl PZ
   refine bodyPost_ret (v := .agg #[.int .i64 30, .int .i64 (pa : Int), .string ⟨#[]⟩, .int .i64 0, .string ⟨#[]⟩, .string ⟨#[]⟩, .slice none 0 0, .slice none 0 0, .slice none 0 0, .slice none 0 0]) (by simp [results, Tryz.results136, go_sem, m0, m1, m2, m3, m4, m5, m6, m7, m8, m9]) rfl ?_
   exact ⟨rfl, HZ.bo.toBt, HZ.px⟩
 by_cases h3 : syP ws t [102, 111, 114, 101, 97, 99, 104] = true
 · rw [if_neg h1, if_neg h2, if_pos h3] at hA
   injection hA with hA
   subst hA
   have Hlt := hQz (sy_lt h3)
   have hTx := sy_text h3
   clear h1 h2 h3
   show Calls _ _ _ _ fun e w' => e = .returned (.agg #[.int .i64 31, _, _, _, _, _, _, _, _, _]) ∧ _ ∧ _
   have HTk : Hid (∀ W, PX W B so sc ws nb t o → Calls Tryz.prog 109 #[.pointer (some ⟨B, 0, none⟩)] W fun e w' => e = .returned (tokV (hrP ws t)) ∧ Bt B W w' ∧ PX w' B so sc ws nb (t + 1) o) := fun W hW => takeX Hlt.out W hW
   generalize hrP ws t = X at *
   obtain ⟨kd, pa, fi, tx, er⟩ := X
   unfold tokV at HTk
   dsimp only at HTk hTx ⊢
   have q1 : (tx == [114, 101, 100, 117, 99, 101]) = false := by rw [hTx]; rfl
   have q2 : (tx == [102, 111, 114, 101, 97, 99, 104]) = true := by rw [hTx]; rfl
   clear hTx
   go_enter Tryz.func136, Tryz.ntmps136
   go_wp2_with fail
   have HS1 := hQz (HS0.out.alloc [.int .i64 0, .int .i64 0, .string ⟨#[]⟩, .int .i64 0, .string ⟨#[]⟩, .string ⟨#[]⟩, .slice none 0 0, .slice none 0 0, .slice none 0 0, .slice none 0 0] 28)
   refine (HTk.out _ HS1.out.px).mono ?_
   rintro e w1 ⟨rfl, hb, hp⟩
   have HS2 := hQz (HS1.out.step hb hp)
   clear hb hp HTk
   obtain ⟨W2, hW2⟩ : ∃ W, w1.alloc (.cells #[.int .i64 (kd : Int), .int .i64 (pa : Int), .int .i64 (fi : Int), .string ⟨tx.toArray⟩] 39) = W := ⟨_, rfl⟩
   have HS3 := hQz (HS2.out.alloc [.int .i64 (kd : Int), .int .i64 (pa : Int), .int .i64 (fi : Int), .string ⟨tx.toArray⟩] 39)
   rw [hW2] at HS3
   obtain ⟨c0, c1, c2, c3⟩ := tb_cells HS3.out.bb0
   have HS4 := hQz (HS3.out.alloc [.int .i64 10, .int .i64 (pa : Int), .string ⟨#[]⟩, .int .i64 0, .string ⟨#[]⟩, .string ⟨#[]⟩, .slice none 0 0, .slice none 0 0, .slice none 0 0, .slice none 0 0] 28)
   obtain ⟨e0, e1, e2, e3⟩ := tb_cells HS4.out.bb1
   have HS5 := hQz (HS3.out.alloc [.int .i64 31, .int .i64 (pa : Int), .string ⟨#[]⟩, .int .i64 0, .string ⟨#[]⟩, .string ⟨#[]⟩, .slice none 0 0, .slice none 0 0, .slice none 0 0, .slice none 0 0] 28)
   obtain ⟨r0, r1, r2, r3, r4, r5, r6, r7, r8, r9⟩ := nd_cells HS5.out.bb2
   obtain ⟨rf0, rf1, rf2, rf3, rf4, rf5, rf6, rf7, rf8, rf9⟩ := nd_frozen HS5.out.bb2
   clear c0 c2 c3 e0 e1 e2
   go_wp2_with fail
   generalize hzZ : (((((((((((W2.alloc (.cells #[.int .i64 31, .int .i64 (pa : Int), .string ⟨#[]⟩, .int .i64 0, .string ⟨#[]⟩, .string ⟨#[]⟩, .slice none 0 0, .slice none 0 0, .slice none 0 0, .slice none 0 0] 28))).setCell ⟨u.heap.size, 0, none⟩ (.int .i64 31)).setCell ⟨u.heap.size, 1, none⟩ (.int .i64 (pa : Int))).setCell ⟨u.heap.size, 2, none⟩ (.string ⟨#[]⟩)).setCell ⟨u.heap.size, 3, none⟩ (.int .i64 0)).setCell ⟨u.heap.size, 4, none⟩ (.string ⟨#[]⟩)).setCell ⟨u.heap.size, 5, none⟩ (.string ⟨#[]⟩)).setCell ⟨u.heap.size, 6, none⟩ (.slice none 0 0)).setCell ⟨u.heap.size, 7, none⟩ (.slice none 0 0)).setCell ⟨u.heap.size, 8, none⟩ (.slice none 0 0)).setCell ⟨u.heap.size, 9, none⟩ (.slice none 0 0) = WZ
   have PZ := nd_set HS5.out.bb2 hzZ
   obtain ⟨m0, m1, m2, m3, m4, m5, m6, m7, m8, m9⟩ := nd_cells PZ.new
   have HZ := HS5.out.put 2 _ _ [.int .i64 31, .int .i64 (pa : Int), .string ⟨#[]⟩, .int .i64 0, .string ⟨#[]⟩, .string ⟨#[]⟩, .slice none 0 0, .slice none 0 0, .slice none 0 0, .slice none 0 0] _ rfl PZ
   refine bodyPost_ret (v := .agg #[.int .i64 31, .int .i64 (pa : Int), .string ⟨#[]⟩, .int .i64 0, .string ⟨#[]⟩, .string ⟨#[]⟩, .slice none 0 0, .slice none 0 0, .slice none 0 0, .slice none 0 0]) (by simp [results, Tryz.results136, go_sem, m0, m1, m2, m3, m4, m5, m6, m7, m8, m9]) rfl ?_
   exact ⟨rfl, HZ.bo.toBt, HZ.px⟩
 rw [if_neg h1, if_neg h2, if_neg h3] at hA
 cases hA
end
end Go.Proofs.YtajnaiddcobkiaaGreatDoor
namespace Go.Proofs.YtajnaiddcobkiaaGreatDoor
open Go.RowKit Go.Shelf
set_option linter.unusedVariables false
set_option linter.unusedSimpArgs false
set_option maxRecDepth 100000
set_option maxHeartbeats 12800000
theorem RB.cut {l : List Value} {n c : Nat} {xs ys : List Value} (h : RB l (n + 1) c (xs ++ ys)) (hy : ys.length = 10) : RB l n c xs := by
 have hx : xs.length = n * 10 := by have := h.cl; rw [List.length_append, hy] at this; omega
 refine ⟨h.len, by have := h.le; omega, h.mx, ?_, hx⟩
 have h1 : l.take (n * 10) = (l.take ((n + 1) * 10)).take (n * 10) := by rw [List.take_take, Nat.min_eq_left (by omega)]
 rw [h1, h.tk, List.take_append_of_le_length (by omega)]
 exact List.take_of_length_le (by omega)
theorem RB.get {l : List Value} {n c : Nat} {xs ys : List Value} (h : RB l (n + 1) c (xs ++ ys)) (hy : ys.length = 10) {j : Nat} (hj : j < 10) : l[n * 10 + j]? = ys[j]? := by
 have hx : xs.length = n * 10 := by have := h.cl; rw [List.length_append, hy] at this; omega
 rw [← List.getElem?_take_of_lt (show n * 10 + j < (n + 1) * 10 by omega), h.tk, List.getElem?_append_right (by omega), hx, show n * 10 + j - n * 10 = j by omega]
abbrev Bxs := List (Nat × List Value × TypeId)
def kdN (op at_ : Int) (ko : Option Addr) (n c : Nat) : NV := ⟨op, at_, 0, ⟨#[]⟩, ⟨#[]⟩, ⟨#[]⟩, none, none, none, ko, 0, 0, 0, 0, 0, 0, n, c⟩
theorem kdN_l (op at_ : Int) (ko : Option Addr) (n c : Nat) : (kdN op at_ ko n c).l = kdL op at_ (.slice ko n c) := rfl
inductive Wts : List NT → List NV → Bxs → List (NT × NV) → Prop
 | nil : Wts [] [] [] []
 | leaf (op at_ : Int) (hop : op = 10 ∨ op = 30 ∨ op = 31) {As es kb kt} (h : Wts As es kb kt) : Wts (.mk op at_ .empty vtN [] [] :: As) (kdN op at_ none 0 0 :: es) kb kt
 | one (at_ : Int) (k : NT) (e : NV) (g c : Nat) (l : List Value) (hl : RB l 1 c e.l) {As es kb kt} (h : Wts As es kb kt) : Wts (.mk 10 at_ .empty vtN [] [k] :: As) (kdN 10 at_ (some ⟨g, 0, none⟩) 1 c :: es) ((g, l, 28) :: kb) ((k, e) :: kt)
structure WS (v : Value) (n : Nat) (As : List NT) (es : List NV) (wb kb : Bxs) (kt : List (NT × NV)) : Prop where
 w : Wts As es kb kt
 r : (v = .slice none 0 0 ∧ wb = [] ∧ As = [] ∧ n = 0) ∨ ∃ g l c, v = .slice (some ⟨g, 0, none⟩) n c ∧ wb = [(g, l, 28)] ∧ As.length ≤ n ∧ n ≤ c ∧ RB l As.length c (es.reverse.flatMap NV.l)
theorem Wts.len {As : List NT} {es : List NV} {kb : Bxs} {kt : List (NT × NV)} (h : Wts As es kb kt) : es.length = As.length := by
 induction h with
 | nil => rfl
 | leaf _ _ _ _ ih => simp [ih]
 | one _ _ _ _ _ _ _ _ ih => simp [ih]
theorem WS.new : WS (.slice none 0 0) 0 [] [] [] [] [] := ⟨.nil, .inl ⟨rfl, rfl, rfl, rfl⟩⟩
theorem WS.hob {v : Value} {n : Nat} {As : List NT} {es : List NV} {wb kb : Bxs} {kt : List (NT × NV)} (h : WS v n As es wb kb kt) : (wb = [] ∧ v.ownBlock = none) ∨ ∃ g l, wb = [(g, l, 28)] ∧ v.ownBlock = some g := by
 rcases h.r with ⟨e1, e2, _⟩ | ⟨g, l, c, e1, e2, _⟩
 · exact .inl ⟨e2, by rw [e1]; rfl⟩
 · exact .inr ⟨g, l, e2, by rw [e1]; rfl⟩
section
variable {Fl : Bool} {D : Nat → Prop} {r0 : Option Nat} {w W W' : World} {B : Nat} {so : Option Addr} {sc : Nat} {ws : List Tok} {nb t o : Nat} {bx : Bxs} {rv : Value} {Ts : List NT} {tr : List (NT × NV)}
theorem WS.own {v : Value} {As : List NT} {es : List NV} {wb kb : Bxs} {kt : List (NT × NV)} (h : WS v As.length As es wb kb kt) (hS : SB Fl D r0 w B so sc ws nb t o (wb ++ bx) rv Ts tr W) (X : Obj) : (W.alloc X).ownsRow 0 28 10 v As.length (es.reverse.flatMap NV.l) := by
 rcases h.r with ⟨e1, e2, e3, e4⟩ | ⟨g, l, c, e1, e2, e3, e4, e5⟩
 · have := h.w.len
   subst e3
   rw [e1, show es = [] from List.eq_nil_of_length_eq_zero this]
   exact ⟨rfl, .inl ⟨rfl, rfl⟩⟩
 · subst e2
   rw [e1]
   exact hS.ownB mcS e5 X
theorem WS.pop {v : Value} {n : Nat} {A : NT} {d : NV} {As : List NT} {es : List NV} {wb kb kb' : Bxs} {kt kt' : List (NT × NV)} (h : WS v n (A :: As) (d :: es) wb kb kt) (hw : Wts As es kb' kt') : WS v n As es wb kb' kt' := by
 refine ⟨hw, ?_⟩
 rcases h.r with ⟨_, _, e, _⟩ | ⟨g, l, c, e1, e2, e3, e4, e5⟩
 · cases e
 · rw [List.reverse_cons, List.flatMap_append, List.flatMap_cons, List.flatMap_nil, List.append_nil] at e5
   exact .inr ⟨g, l, c, e1, e2, by rw [List.length_cons] at e3; omega, e4, RB.cut e5 rfl⟩
theorem WS.push {g c : Nat} {l : List Value} {A : NT} {d : NV} {As : List NT} {es : List NV} {kb : Bxs} {kt : List (NT × NV)} (hw : Wts (A :: As) (d :: es) kb kt) (hl : RB l (As.length + 1) c (es.reverse.flatMap NV.l ++ d.l)) : WS (.slice (some ⟨g, 0, none⟩) (As.length + 1) c) (A :: As).length (A :: As) (d :: es) [(g, l, 28)] kb kt := by
 refine ⟨hw, .inr ⟨g, l, c, rfl, rfl, Nat.le_refl _, hl.le, ?_⟩⟩
 rw [List.reverse_cons, List.flatMap_append, List.flatMap_cons, List.flatMap_nil, List.append_nil]
 exact hl
theorem WS.top {v : Value} {n : Nat} {A : NT} {d : NV} {As : List NT} {es : List NV} {wb kb : Bxs} {kt : List (NT × NV)} (h : WS v n (A :: As) (d :: es) wb kb kt) : ∃ g l c, v = .slice (some ⟨g, 0, none⟩) n c ∧ wb = [(g, l, 28)] ∧ As.length < n ∧ n ≤ c ∧ RB l (As.length + 1) c (es.reverse.flatMap NV.l ++ d.l) := by
 rcases h.r with ⟨_, _, e, _⟩ | ⟨g, l, c, e1, e2, e3, e4, e5⟩
 · cases e
 · rw [List.reverse_cons, List.flatMap_append, List.flatMap_cons, List.flatMap_nil, List.append_nil] at e5
   exact ⟨g, l, c, e1, e2, e3, e4, e5⟩
theorem SB.topc {g c n : Nat} {l xs : List Value} {op at_ : Int} {kv : Value} (h : SB Fl D r0 w B so sc ws nb t o bx rv Ts tr W) (hm : (g, l, 28) ∈ bx) (hl : RB l (n + 1) c (xs ++ kdL op at_ kv)) :
 W.cell? ⟨g, n * 10, none⟩ = some (.int .i64 op) ∧ W.cell? ⟨g, n * 10 + 1, none⟩ = some (.int .i64 at_) ∧ W.cell? ⟨g, n * 10 + 2, none⟩ = some (.string ⟨#[]⟩) ∧ W.cell? ⟨g, n * 10 + 3, none⟩ = some (.int .i64 0) ∧ W.cell? ⟨g, n * 10 + 4, none⟩ = some (.string ⟨#[]⟩) ∧ W.cell? ⟨g, n * 10 + 5, none⟩ = some (.string ⟨#[]⟩) ∧ W.cell? ⟨g, n * 10 + 6, none⟩ = some (.slice none 0 0) ∧ W.cell? ⟨g, n * 10 + 7, none⟩ = some (.slice none 0 0) ∧ W.cell? ⟨g, n * 10 + 8, none⟩ = some (.slice none 0 0) ∧ W.cell? ⟨g, n * 10 + 9, none⟩ = some kv := by
 have hc : ∀ j, j < 10 → W.cell? ⟨g, n * 10 + j, none⟩ = (kdL op at_ kv)[j]? := fun j hj => by
  rw [cell_of_row _ _ _ _ _ _ (h.bxs _ hm).2.2, ← Array.getElem?_toList]
  exact RB.get hl rfl hj
 exact ⟨hc 0 (by decide), hc 1 (by decide), hc 2 (by decide), hc 3 (by decide), hc 4 (by decide), hc 5 (by decide), hc 6 (by decide), hc 7 (by decide), hc 8 (by decide), hc 9 (by decide)⟩
theorem SB.boB {g : Nat} {l : List Value} {ty : TypeId} (h : SB Fl D r0 w B so sc ws nb t o ((g, l, ty) :: bx) rv Ts tr W) (hb : Bo B (some g) W W') : Bo B r0 w W' := by
 have hgw : w.heap.size ≤ g := (h.bxs _ mcS).1
 exact ⟨hb.os.trans h.bo.os, hb.tape.trans h.bo.tape, hb.output.trans h.bo.output, Nat.le_trans h.bo.size hb.size, fun k hk h1 h2 => (hb.block k (Nat.lt_of_lt_of_le hk h.bo.size) h1 (fun e => by injection e with e; omega)).trans (h.bo.block k hk h1 h2)⟩
end
section
variable {B : Nat} {so : Option Addr} {sc : Nat} {ws : List Tok} {nb : Nat} {m : Nat} {P : PM NT} {O : Nat → PM NT}
theorem finL (h : PO B so sc ws nb (m + 1) P O) {op at_ : Int} (hop : op = 10 ∨ op = 30 ∨ op = 31) {Fl : Bool} {D : Nat → Prop} {r0 : Option Nat} {w W : World} {t o g c : Nat} {bx : Bxs} {rv : Value} {Ts : List NT} {tr : List (NT × NV)} {l : List Value} (hS : SB Fl D r0 w B so sc ws nb t o ((g, l, 28) :: bx) rv Ts tr W) (hm : m ≤ t) (Us : List NT) (es : List NV) (hl : RB l Us.length c (es.flatMap NV.l)) (hle : es.length = Us.length) (he : ∀ (i : Nat) T d, Us[i]? = some T → es[i]? = some d → NdI (Dm D ((g, l, 28) :: bx) rv) W T d) (hlen : Us.length ≤ 4) :
 Calls Tryz.prog 139 #[.pointer (some ⟨B, 0, none⟩), .agg (kdL op at_ (.slice (some ⟨g, 0, none⟩) Us.length c)).toArray] W fun e w' => PxN B so sc ws nb (Dm D bx rv) (some g) W (finishedP ws nb P (.mk op at_ .empty vtN [] Us) t o) e w' := by
 have hd := hS.dBox
 refine finishedX h op at_ hop (Dm D bx rv) W t o (.slice (some ⟨g, 0, none⟩) Us.length c) Us es hS.unbox.dnW hS.unbox.dbW hS.px hm ?_ ?_ ?_ (by omega)
 · exact hS.rowB mcS hl hle (fun i T d h1 h2 => (he i T d h1 h2).weak (fun b hb _ => ⟨⟨hb.1, fun p hp => hb.2.1 p (List.mem_cons_of_mem _ hp), hb.2.2⟩, (fun p hp => by simp at hp), fun e => by
    have e' : g = b := by injection e
    exact hb.2.1 _ mcS e'.symm⟩))
 · intro g' hg'
   have e' : g = g' := by injection hg'
   subst e'
   exact hd.1
 · intro g' hg'
   have e' : g = g' := by injection hg'
   subst e'
   exact hd.2
theorem pThen_assocF {α β γ : Type} (x : PM α) (g : α → PM β) (f : β → PM γ) : pThen (pThen x g) f = pThen x (fun a => pThen (g a) f) := funext fun t => funext fun o => pThen_assoc x g f t o
def awB (ws : List Tok) : List NT → PM (List NT ⊕ List NT) := fun b t o => match awaitP ws t with
 | some A => .ok (.inl (A :: b)) (t + 1) o
 | none => .ok (.inr b) t o
def poB (ws : List Tok) (nb : Nat) (P : PM NT) (O : Nat → PM NT) : List NT → PM (List NT ⊕ NT) := fun a => pThen (lpP (awB ws) (ws.length + 1) a) fun b => pThen (termP ws nb P O) fun n => pThen (suffixedP ws nb P n) fun m => unwindP ws nb P b m
def poK (ws : List Tok) (nb : Nat) (P : PM NT) (O : Nat → PM NT) (f : Nat) : List NT ⊕ NT → PM NT := fun r => match r with
 | .inl a => pThen (lpP (poB ws nb P O) f a) pOk
 | .inr b => pOk b
theorem post_eq (t o : Nat) : postP ws nb P O t o = pThen (lpP (poB ws nb P O) (ws.length + 1) []) pOk t o := (then_pOk _ _ _).symm
theorem post_step (f : Nat) (a : List NT) (t o : Nat) : pThen (lpP (poB ws nb P O) (f + 1) a) pOk t o = pThen (lpP (awB ws) (ws.length + 1) a) (fun b => pThen (termP ws nb P O) fun n => pThen (suffixedP ws nb P n) fun m => pThen (unwindP ws nb P b m) (poK ws nb P O f)) t o := by
 have h1 : pThen (lpP (poB ws nb P O) (f + 1) a) pOk t o = pThen (poB ws nb P O a) (poK ws nb P O f) t o := by
  rw [lp_step]
  apply congrFun
  apply congrFun
  congr 1
  funext r
  cases r <;> rfl
 rw [h1]
 unfold poB
 simp only [pThen_assocF]
theorem aw_some {t : Nat} {A : NT} (h : awaitP ws t = some A) (f : Nat) (a : List NT) {β : Type} (F : List NT → PM β) (o : Nat) : pThen (lpP (awB ws) (f + 1) a) F t o = pThen (lpP (awB ws) f (A :: a)) F (t + 1) o := by
 rw [lp_step, pThen_ok (a := .inl (A :: a)) (t' := t + 1) (o' := o) (by unfold awB; rw [h])]
theorem aw_none {t : Nat} (h : awaitP ws t = none) (f : Nat) (a : List NT) {β : Type} (F : List NT → PM β) (o : Nat) : pThen (lpP (awB ws) (f + 1) a) F t o = F a t o := by
 rw [lp_step, pThen_ok (a := .inr a) (t' := t) (o' := o) (by unfold awB; rw [h])]
theorem await_shape {t : Nat} {A : NT} (h : awaitP ws t = some A) : ∃ op : Int, (op = 10 ∨ op = 30 ∨ op = 31) ∧ A = .mk op ((hrP ws t).at_ : Int) .empty vtN [] [] ∧ t < ws.length := by
 unfold awaitP at h
 dsimp only at h
 by_cases h1 : syP ws t [116, 114, 121] = true
 · rw [if_pos h1] at h
   injection h with h
   exact ⟨10, .inl rfl, h.symm, sy_lt h1⟩
 rw [if_neg h1] at h
 by_cases h2 : syP ws t [114, 101, 100, 117, 99, 101] = true
 · rw [if_pos h2] at h
   injection h with h
   exact ⟨30, .inr (.inl rfl), h.symm, sy_lt h2⟩
 rw [if_neg h2] at h
 by_cases h3 : syP ws t [102, 111, 114, 101, 97, 99, 104] = true
 · rw [if_pos h3] at h
   injection h with h
   exact ⟨31, .inr (.inr rfl), h.symm, sy_lt h3⟩
 rw [if_neg h3] at h
 cases h
theorem unw_catch {β : Type} (at_ : Int) (As : List NT) (T : NT) (K : List NT ⊕ NT → PM β) (t o : Nat) (h : syP ws t [99, 97, 116, 99, 104] = true) : pThen (unwindP ws nb P (.mk 10 at_ .empty vtN [] [] :: As) T) K t o = K (.inl (.mk 10 at_ .empty vtN [] [T] :: As)) (t + 1) o := by
 rw [pThen_ok (a := .inl (.mk 10 at_ .empty vtN [] [T] :: As)) (t' := t + 1) (o' := o)]
 rw [unwindP]
 exact if_pos ⟨rfl, rfl, h⟩
theorem unw_fin {β : Type} (op at_ : Int) (ks As : List NT) (T : NT) (K : List NT ⊕ NT → PM β) (t o : Nat) (h : ¬ (op = 10 ∧ ks = [] ∧ syP ws t [99, 97, 116, 99, 104] = true)) : pThen (unwindP ws nb P (.mk op at_ .empty vtN [] ks :: As) T) K t o = pThen (finishedP ws nb P (.mk op at_ .empty vtN [] (ks ++ [T]))) (fun B => pThen (suffixedP ws nb P B) fun C => pThen (unwindP ws nb P As C) K) t o := by
 have h2 : ¬ (op = 10 ∧ (ks ++ [T]).length = 1 ∧ syP ws t [99, 97, 116, 99, 104] = true) := fun ⟨h1, h2, h3⟩ => h ⟨h1, List.eq_nil_of_length_eq_zero (by rw [List.length_append] at h2; simp at h2; rw [h2]; rfl), h3⟩
 rw [pThen_congr (y := pThen (finishedP ws nb P (.mk op at_ .empty vtN [] (ks ++ [T]))) (fun B => pThen (suffixedP ws nb P B) fun C => unwindP ws nb P As C))]
 · simp only [pThen_assocF]
 · rw [unwindP]
   exact if_neg h2
end
end Go.Proofs.YtajnaiddcobkiaaGreatDoor
