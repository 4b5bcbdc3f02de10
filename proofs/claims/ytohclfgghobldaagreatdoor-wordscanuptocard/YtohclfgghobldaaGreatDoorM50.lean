import Derived.Test.YtohclfgghobldaaGreatDoorM23
import Derived.Test.YtohclfgghobldaaGreatDoorM25
import Derived.Test.YtohclfgghobldaaGreatDoorM48
import Derived.Test.YtohclfgghobldaaGreatDoorM49
namespace Go.Proofs.YtohclfgghobldaaGreatDoor
open Go.RowKit Go.Shelf
set_option linter.unusedVariables false
set_option linter.unusedSimpArgs false
attribute [local go_sem] Oper.semAt_some

/-- what Scan answers, in one form -/
noncomputable def sT (l : List UInt8) : List Tok := open Classical in if ∀ t ∈ scW l, t.err = 0 then scW l else []
noncomputable def sE (l : List UInt8) : Int := open Classical in if ∀ t ∈ scW l, t.err = 0 then 0 else (((scW l).getLast?.map (·.err)).getD 0 : Nat)
noncomputable def sP (l : List UInt8) : Int := open Classical in if ∀ t ∈ scW l, t.err = 0 then 0 else (((scW l).getLast?.map (·.at_)).getD 0 : Nat)
theorem bad_all {l : List UInt8} {pre : List Tok} {x : Tok} (h : scW l = pre ++ [x]) (hx : x.err ≠ 0) : ¬ ∀ t ∈ scW l, t.err = 0 := fun ha => hx (ha x (by rw [h]; simp))
theorem scan_uni {l : List UInt8} {w w' : World} {e : Ending} (h : ScR l w w' e) : ScU (sT l) (sE l) (sP l) w w' e := by
  obtain ⟨⟨ha, so, sc, rfl, hr⟩ | ⟨pre, x, hp, hx, rfl⟩, hb⟩ := h
  · refine ⟨so, sc, ?_, ?_, hb⟩
    · unfold sT sE sP; rw [if_pos ha, if_pos ha, if_pos ha]
    · unfold sT; rw [if_pos ha]; exact hr
  · have hn := bad_all hp hx
    refine ⟨none, 0, ?_, ?_, hb⟩
    · unfold sT sE sP; rw [if_neg hn, if_neg hn, if_neg hn, hp]; simp
    · unfold sT; rw [if_neg hn]; exact World.ownsRow_nil _ _ _ _
theorem scF_okl {l : List UInt8} : ∀ (f p : Nat) (op : List Nat), p ≤ l.length → (∀ t ∈ scF l f p op, t.err = 0) → (scF l f p op).length ≤ l.length - p := by
  intro f
  induction f with
  | zero => intro p op _ _; exact Nat.zero_le _
  | succ f ih =>
    intro p op hp hok
    rw [scF] at hok ⊢
    by_cases h1 : p < l.length
    · rw [if_pos h1] at hok ⊢
      by_cases h2 : (tokW l op p).err = 0
      · rw [if_pos h2] at hok ⊢
        obtain ⟨u1, u2, u3⟩ := tok_up h1 h2
        have hi := idW_ge u3
        have := ih _ (openW (tokW l op p) op) hi.2 (fun t ht => hok t (List.mem_cons_of_mem _ ht))
        rw [List.length_cons]
        omega
      · rw [if_neg h2] at hok
        exact absurd (hok _ (List.mem_singleton.2 rfl)) h2
    · rw [if_neg h1] at hok ⊢
      by_cases ho : op = []
      · rw [if_pos ho]; exact Nat.zero_le _
      · rw [if_neg ho] at hok
        exact absurd (hok _ (List.mem_singleton.2 rfl)) (by simp)
theorem scW_okl {l : List UInt8} (h : ∀ t ∈ scW l, t.err = 0) : (scW l).length ≤ l.length := by
  have hi := idW_ge (l := l) (p := 0) (Nat.zero_le _)
  have := scF_okl (l.length + 1) (idW l 0) [] hi.2 h
  unfold scW
  omega
theorem sT_len (l : List UInt8) : (sT l).length ≤ l.length := by
  unfold sT
  split
  · next h => exact scW_okl h
  · simp

theorem laid_own {W W' : World} {B gb : Nat} {vt gsv v : Value} {nt m : Nat} {xt vs : List Value} (ho : W.ownsRow B 54 4 vt nt xt) (hl : Laid W W' gb gsv.ownBlock) (hbk : BkAt W gb v) (hgs : W.ownsRow B 22 1 gsv m vs) : W'.ownsRow B 54 4 vt nt xt :=
  own_keep ho (fun b e hbl => hl.block b hbl (fun eb => tok_bk ho hbk (by rw [e, eb])) (fun eg => tok_ne ho hgs e eg))
theorem so_ok {W : World} {B gb : Nat} {gsv v : Value} {nt m c : Nat} {xt vs : List Value} {so : Option Addr} (ho : W.ownsRow B 54 4 (.slice so nt c) nt xt) (hbk : BkAt W gb v) (hgs : W.ownsRow B 22 1 gsv m vs) : ∀ b o f, so = some ⟨b, o, f⟩ → b ≠ gb ∧ gsv.ownBlock ≠ some b := by
  intro b o f e
  have hob : (Value.slice so nt c).ownBlock = some b := by rw [e]; rfl
  exact ⟨fun eb => tok_bk ho hbk (by rw [hob, eb]), tok_ne ho hgs hob⟩
/-- a row of tokens where it was laid, and later -/
theorem row_rng {w w' W : World} {vt : Value} {nt : Nat} {xt : List Value} (ho : w'.ownsRow w.heap.size 54 4 vt nt xt) : ∀ g, vt.ownBlock = some g → w.heap.size ≤ g ∧ g < w'.heap.size := fun g e => ⟨own_baseT ho e, own_ltT ho g e⟩

set_option maxRecDepth 100000 in
set_option maxHeartbeats 6400000 in
theorem w_WordScan (s o : ByteArray) (w : World) (ss : s.size ≤ 1048576) (sso : o.size ≤ 1048576) (hE : ErrIn w) : Calls Tryz.prog 3 #[.string s, .string o] w fun e w' => e = .returned (.bool true) ∧ Below w.heap.size w w' := by
  have HE := Hid.mk hE
  have HRs := Hid.mk (fun u => (w_rScan16 s u (by omega)).mono (fun _ _ h => scan_uni h))
  have HRo := Hid.mk (fun u => (w_rScan16 o u (by omega)).mono (fun _ _ h => scan_uni h))
  have HSs : Hid (∀ u, ErrIn u → Calls Tryz.prog 5 #[.string s] u fun e w' => ScU (sT s.data.toList) (sE s.data.toList) (sP s.data.toList) u w' e) := fun u h => (w_wScan s u (by omega) h).mono (fun _ _ h => scan_uni h)
  have HSo : Hid (∀ u, ErrIn u → Calls Tryz.prog 5 #[.string o] u fun e w' => ScU (sT o.data.toList) (sE o.data.toList) (sP o.data.toList) u w' e) := fun u h => (w_wScan o u (by omega) h).mono (fun _ _ h => scan_uni h)
  have hT1 : (sT s.data.toList).length ≤ 1048576 := Nat.le_trans (sT_len _) (by rw [size_lst]; exact ss)
  have hT2 : (sT o.data.toList).length ≤ 1048576 := Nat.le_trans (sT_len _) (by rw [size_lst]; exact sso)
  clear hE ss sso
  generalize sT s.data.toList = T at *
  generalize sE s.data.toList = E at *
  generalize sP s.data.toList = P at *
  generalize sT o.data.toList = T2 at *
  generalize sE o.data.toList = E2 at *
  generalize sP o.data.toList = P2' at *
  obtain ⟨N, hN⟩ : ∃ N, T.length = N := ⟨_, rfl⟩
  obtain ⟨M, hM⟩ : ∃ M, T2.length = M := ⟨_, rfl⟩
  have HN := Hid.mk hN
  have HM := Hid.mk hM
  unfold ScU at HRs HRo HSs HSo
  rw [hN] at HRs HSs hT1
  rw [hM] at HRo HSo hT2
  clear hN hM
  go_enter Tryz.func3, Tryz.ntmps3
  go_wp2_with fail
  refine (HRs.out _).mono ?_
  rintro e w1 ⟨sw, cw, rfl, HRw, hb1⟩
  have HB1 := Hid.mk hb1
  clear hb1
  go_wp2_with fail
  refine (HRo.out _).mono ?_
  rintro e w2 ⟨sv, cv, rfl, HRv, hb2⟩
  have HK2 := Hid.mk hb2
  have HB2 := Hid.mk (HB1.out.trans (hb2.mono HB1.out.size))
  clear hb2
  go_wp2_with fail
  refine (HSs.out _ (HE.out.keep HB2.out)).mono ?_
  rintro e w3 ⟨sa, ca, rfl, HRa, hb3⟩
  have HK3 := Hid.mk hb3
  have HB3 := Hid.mk (HB2.out.trans (hb3.mono HB2.out.size))
  clear hb3
  go_wp2_with fail
  refine (HSs.out _ (HE.out.keep HB3.out)).mono ?_
  rintro e w4 ⟨sb, cb, rfl, HRb, hb4⟩
  have HK4 := Hid.mk hb4
  have HB4 := Hid.mk (HB3.out.trans (hb4.mono HB3.out.size))
  clear hb4
  go_wp2_with fail
  refine (HSo.out _ (HE.out.keep HB4.out)).mono ?_
  rintro e w5 ⟨sc, cc, rfl, HRc, hb5⟩
  have HK5 := Hid.mk hb5
  have HB5 := Hid.mk (HB4.out.trans (hb5.mono HB4.out.size))
  clear hb5
  go_wp2_with fail
  refine (HSs.out _ (HE.out.keep HB5.out)).mono ?_
  rintro e w6 ⟨sd, cd, rfl, HRd, hb6⟩
  have HK6 := Hid.mk hb6
  have HB6 := Hid.mk (HB5.out.trans (hb6.mono HB5.out.size))
  clear hb6 HRs HRo HSs HSo
  have HoA := Hid.mk (below_row HK6.out (below_row HK5.out (below_row HK4.out HRa.out)))
  have HoB := Hid.mk (below_row HK6.out (below_row HK5.out HRb.out))
  have HoC := Hid.mk (below_row HK6.out HRc.out)
  have HoW := Hid.mk (below_row HK6.out (below_row HK5.out (below_row HK4.out (below_row HK3.out (below_row HK2.out HRw.out)))))
  have HoV := Hid.mk (below_row HK6.out (below_row HK5.out (below_row HK4.out (below_row HK3.out HRv.out))))
  have HTr : Hid (∀ (l : List Tok) (q : Option Addr) (c b n : Nat), l.length = n → w6.ownsRow b 54 4 (.slice q n c) n (flT l) → TRow w6 q l ∧ l.length ≤ c) := fun l q c b n hn ho => by subst hn; exact trow_own ho
  have tA := HTr.out T sa ca _ N HN.out HoA.out
  have tB := HTr.out T sb cb _ N HN.out HoB.out
  have tC := HTr.out T2 sc cc _ M HM.out HoC.out
  have tD := HTr.out T sd cd _ N HN.out HRd.out
  have tW := HTr.out T sw cw _ N HN.out HoW.out
  have tV := HTr.out T2 sv cv _ M HM.out HoV.out
  have HS1 : Hid (∀ u, Below w6.heap.size w6 u → ∀ (q : Option Addr) (c : Nat), TRow w6 q T ∧ T.length ≤ c → Calls Tryz.prog 6 #[.slice q N c, .slice sw N cw] u fun e w' => e = .returned (.bool true) ∧ Below u.heap.size u w') := fun u hu q c hq => by
    have := w_SameTokens T q sw c cw u (by rw [HN.out]; omega) (hq.1.keep hu) (tW.1.keep hu) hq.2 tW.2
    rw [HN.out] at this; exact this
  have HS2 : Hid (∀ u, Below w6.heap.size w6 u → Calls Tryz.prog 6 #[.slice sc M cc, .slice sv M cv] u fun e w' => e = .returned (.bool true) ∧ Below u.heap.size u w') := fun u hu => by
    have := w_SameTokens T2 sc sv cc cv u (by rw [HM.out]; omega) (tC.1.keep hu) (tV.1.keep hu) tC.2 tV.2
    rw [HM.out] at this; exact this
  have HtA := Hid.mk tA
  have HtB := Hid.mk tB
  have HtC := Hid.mk tC
  have HtD := Hid.mk tD
  clear tA tB tC tD tW tV HTr HoW HoV HRw HRv
  go_wp2_with fail
  refine (HS1.out _ (Below.refl _ _) _ _ HtA.out).mono ?_
  rintro e w7 ⟨rfl, hb7⟩
  have HB7 := Hid.mk hb7
  clear hb7
  go_wp2_with fail
  refine (HS1.out _ HB7.out _ _ HtB.out).mono ?_
  rintro e w8 ⟨rfl, hb8⟩
  have HB8 := Hid.mk (HB7.out.trans (hb8.mono HB7.out.size))
  clear hb8
  go_wp2_with fail
  refine (HS2.out _ HB8.out).mono ?_
  rintro e w9 ⟨rfl, hb9⟩
  have HB9 := Hid.mk (HB8.out.trans (hb9.mono HB8.out.size))
  clear hb9
  go_wp2_with fail
  refine (HS1.out _ HB9.out _ _ HtD.out).mono ?_
  rintro e w10 ⟨rfl, hb10⟩
  have HB10 := Hid.mk (HB9.out.trans (hb10.mono HB9.out.size))
  clear hb10
  have hz3 := HK3.out.size
  have hz4 := HK4.out.size
  have hz5 := HK5.out.size
  have hz6 := HK6.out.size
  have hz10 := HB10.out.size
  have HBT : Hid (∀ (y : World) (m gc : Nat) (go : Option Addr) (vs : List Value) (q : Option Addr) (c n : Nat) (l : List Tok), l.length = n → n ≤ 1048576 → m ≤ 255 → BkAt y w10.heap.size (.slice go m gc) → y.ownsRow w2.heap.size 22 1 (.slice go m gc) m vs → y.ownsRow w2.heap.size 54 4 (.slice q n c) n (flT l) →
      Calls Tryz.prog 7 #[.pointer (some ⟨w10.heap.size, 0, none⟩), .slice q n c] y fun e W' => (∃ v, e = .returned v) ∧ (∃ go' gc', BkAt W' w10.heap.size (.slice go' (m + 1) gc') ∧ W'.ownsRow w2.heap.size 22 1 (.slice go' (m + 1) gc') (m + 1) (vs ++ [.slice q n c])) ∧ Laid y W' w10.heap.size (Value.slice go m gc).ownBlock ∧ Below w2.heap.size y W') := by
    intro y m gc go vs q c n l hl hn hm hbk hgs ho
    subst hl
    exact w_bTokens w2.heap.size w10.heap.size m gc go vs q c l y hbk hgs (by omega) hm hn (trow_own ho).2 (trow_own ho).1 (so_ok ho hbk hgs)
  have HrA := Hid.mk (row_rng (W := w) HRa.out)
  have HrB := Hid.mk (row_rng (W := w) HRb.out)
  have HrC := Hid.mk (row_rng (W := w) HRc.out)
  have HrD := Hid.mk (row_rng (W := w) HRd.out)
  have HbA := Hid.mk (below_row HB10.out HoA.out)
  have HbB := Hid.mk (own_weaken (below_row HB10.out HoB.out) (B' := w2.heap.size) (by omega))
  have HbC := Hid.mk (own_weaken (below_row HB10.out HoC.out) (B' := w2.heap.size) (by omega))
  have HbD := Hid.mk (own_weaken (below_row HB10.out HRd.out) (B' := w2.heap.size) (by omega))
  have HBB : Hid (Below w.heap.size w w10) := HB6.out.trans (HB10.out.mono HB6.out.size)
  have HB2s := Hid.mk HB2.out.size
  have HZ := Hid.mk (And.intro hz3 (And.intro hz4 (And.intro hz5 (And.intro hz6 hz10))))
  clear HoA HoB HoC HRa HRb HRc HRd HtA HtB HtC HtD HS1 HS2 hz3 hz4 hz5 hz6 hz10
  go_wp2_with fail
  obtain ⟨y0, hy0⟩ : ∃ y0, w10.alloc (.cells #[.slice none 0 0, .slice none 0 0, .slice none 0 0, .slice none 0 0, .slice none 0 0, .slice none 0 0, .slice none 0 0, .slice none 0 0, .slice none 0 0, .slice none 0 0, .slice none 0 0, .slice none 0 0, .slice none 0 0, .slice none 0 0, .slice none 0 0, .slice none 0 0] 44) = y0 := ⟨_, rfl⟩
  have hbk0 : BkAt y0 w10.heap.size (.slice none 0 0) := by rw [← hy0]; exact heap_alloc_new _ _
  have hb0 : Below w10.heap.size w10 y0 := by rw [← hy0]; exact below1 w10 _
  have hgs0 : y0.ownsRow w2.heap.size 22 1 (.slice none 0 0) 0 [] := World.ownsRow_nil _ _ _ _
  have a0 := below_row hb0 HbA.out
  have b0 := below_row hb0 HbB.out
  have c0 := below_row hb0 HbC.out
  have d0 := below_row hb0 HbD.out
  rw [hy0]
  refine (HBT.out y0 0 0 none [] sa ca N T HN.out hT1 (by decide) hbk0 hgs0 a0).mono ?_
  rintro e y1 ⟨⟨v1, rfl⟩, ⟨g1, k1, hbk1, hgs1⟩, hl1, hbl1⟩
  have HY1 : Hid (Below w.heap.size w y1) := (HBB.out.trans (hb0.mono HBB.out.size)).trans (hbl1.mono HB2s.out)
  have a1 := laid_own a0 hl1 hbk0 hgs0
  have b1 := laid_own b0 hl1 hbk0 hgs0
  have c1 := laid_own c0 hl1 hbk0 hgs0
  have d1 := laid_own d0 hl1 hbk0 hgs0
  have HST1 := Hid.mk (And.intro hbk1 (And.intro hgs1 (And.intro a1 (And.intro b1 (And.intro c1 d1)))))
  clear a0 b0 c0 d0 hbk0 hgs0 hl1 hbl1 a1 b1 c1 d1 hbk1 hgs1 hb0 hy0 HbA HbB HbC HbD
  go_wp2_with fail
  obtain ⟨hbk1, hgs1, a1, b1, c1, d1⟩ := HST1.out
  refine (HBT.out y1 1 k1 g1 _ sb cb N T HN.out hT1 (by decide) hbk1 hgs1 b1).mono ?_
  rintro e y2 ⟨⟨v2, rfl⟩, ⟨g2, k2, hbk2, hgs2⟩, hl2, hbl2⟩
  have HY2 : Hid (Below w.heap.size w y2) := HY1.out.trans (hbl2.mono HB2s.out)
  have HST2 := Hid.mk (And.intro hbk2 (And.intro hgs2 (And.intro (laid_own a1 hl2 hbk1 hgs1) (And.intro (laid_own b1 hl2 hbk1 hgs1) (And.intro (laid_own c1 hl2 hbk1 hgs1) (laid_own d1 hl2 hbk1 hgs1))))))
  clear hbk1 hgs1 a1 b1 c1 d1 hbk2 hgs2 hl2 hbl2 HST1
  go_wp2_with fail
  obtain ⟨hbk2, hgs2, a2, b2, c2, d2⟩ := HST2.out
  refine (HBT.out y2 2 k2 g2 _ sc cc M T2 HM.out hT2 (by decide) hbk2 hgs2 c2).mono ?_
  rintro e y3 ⟨⟨v3, rfl⟩, ⟨g3, k3, hbk3, hgs3⟩, hl3, hbl3⟩
  have HY3 : Hid (Below w.heap.size w y3) := HY2.out.trans (hbl3.mono HB2s.out)
  have HST3 := Hid.mk (And.intro hbk3 (And.intro hgs3 (And.intro (laid_own a2 hl3 hbk2 hgs2) (And.intro (laid_own b2 hl3 hbk2 hgs2) (And.intro (laid_own c2 hl3 hbk2 hgs2) (laid_own d2 hl3 hbk2 hgs2))))))
  clear hbk2 hgs2 a2 b2 c2 d2 hbk3 hgs3 hl3 hbl3 HST2
  go_wp2_with fail
  obtain ⟨hbk3, hgs3, a3, b3, c3, d3⟩ := HST3.out
  refine (HBT.out y3 3 k3 g3 _ sd cd N T HN.out hT1 (by decide) hbk3 hgs3 d3).mono ?_
  rintro e y4 ⟨⟨v4, rfl⟩, ⟨g4, k4, hbk4, hgs4⟩, hl4, hbl4⟩
  have HY4 : Hid (Below w.heap.size w y4) := HY3.out.trans (hbl4.mono HB2s.out)
  have hsz4 : w2.heap.size ≤ y4.heap.size := by
    have h1 := HZ.out
    have h2 := (Array.getElem?_eq_some_iff.1 hbk4).1
    omega
  have a4 := laid_own a3 hl4 hbk3 hgs3
  have b4 := laid_own b3 hl4 hbk3 hgs3
  have c4 := laid_own c3 hl4 hbk3 hgs3
  have d4 := laid_own d3 hl4 hbk3 hgs3
  obtain ⟨gl, hgl, _⟩ := ownZ_at hgs4 (by decide)
  have HAP : Hid (Calls Tryz.prog 8 #[.pointer (some ⟨w10.heap.size, 0, none⟩)] y4 fun e W' => e = .returned (.bool true) ∧ Below w2.heap.size y4 W') := by
    refine w_bApart w2.heap.size w10.heap.size (.slice g4 4 k4) y4 hbk4 ?_
    rw [hgl] at hgs4 hbk4 ⊢
    have hap := ap_mk (v := .slice (some ⟨gl, 0, none⟩) 4 k4) (gb := w10.heap.size) (Below.refl w2.heap.size y4) hsz4 a4 b4 c4 d4 (fun g e => (HrA.out g e).2) HrB.out HrC.out (fun g e => (HrD.out g e).1) ⟨HZ.out.2.1, HZ.out.2.2.1⟩ hgs4 hbk4
    refine w_apartTokens w2.heap.size w10.heap.size gl k4 _ _ _ _ y4 _ hap ?_
    intro k
    unfold f4
    split <;> assumption
  clear hbk3 hgs3 a3 b3 c3 d3 hbk4 hgs4 hl4 hbl4 HST3 a4 b4 c4 d4 hgl
  go_wp2_with fail
  refine HAP.out.mono ?_
  rintro e y5 ⟨rfl, hb5⟩
  have HY5 : Hid (Below w.heap.size w y5) := HY4.out.trans (hb5.mono HB2s.out)
  clear hb5
  go_wp2_with fail
  refine (w_lWordKnown y5 (HE.out.keep HY5.out)).mono ?_
  rintro e y6 ⟨rfl, hb6⟩
  have HY6 : Hid (Below w.heap.size w y6) := HY5.out.trans (hb6.mono HY5.out.size)
  clear hb6
  go_wp2_with fail
  go_ret
  exact ⟨rfl, HY6.out⟩
end Go.Proofs.YtohclfgghobldaaGreatDoor
