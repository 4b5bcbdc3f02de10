import Derived.Test.YtdmkfdaddacdhaaGreatDoorZSXi
namespace Go.Proofs.YtdmkfdaddacdhaaGreatDoor
open Go.RowKit Go.Shelf Go.Sort
set_option linter.unusedVariables false
set_option linter.unusedSimpArgs false
attribute [local go_sem] Oper.semAt_some

abbrev InA (w : World) (h : Nat) (A : NT) (v : Value) : Prop := InN (fun _ => True) w h A v
theorem InN.low {w w' : World} {h : Nat} {A : NT} {v : Value} (hv : InA w h A v) (hb : Below w.heap.size w w') : InA w' h A v := hv.keep hb.size (fun b _ hl => hb.block b hl) (fun _ _ _ => trivial)
/-- a part stands at a place -/
def NAt (w : World) (h : Nat) (A : NT) (g o : Nat) : Prop := ∃ c : Fin 10 → Value, (∀ j : Fin 10, w.cell? ⟨g, o + j.1, none⟩ = some (c j)) ∧ InA w h A (ndV c)
theorem NAt.keep {w w' : World} {h : Nat} {A : NT} {g o : Nat} (hv : NAt w h A g o) (hb : Below w.heap.size w w') : NAt w' h A g o := by
  obtain ⟨c, hc, hi⟩ := hv
  have hl := block_lt_of_cell (hc 0)
  exact ⟨c, fun j => (hb.cell (p := ⟨g, o + j.1, none⟩) hl).trans (hc j), hi.low hb⟩
/-- a part's parts: its cells, its value, its names, its kids -/
structure NPt (w : World) (h : Nat) (A : NT) (g o : Nat) (io : Option Addr) (ic : Nat) (yo : Option Addr) (yc : Nat) (no : Option Addr) (nc : Nat) (ko : Option Addr) (kc : Nat) : Prop where
  c0 : w.cell? ⟨g, o, none⟩ = some (.int .i64 A.op)
  c1 : w.cell? ⟨g, o + 1, none⟩ = some (.int .i64 A.at_)
  c2 : w.cell? ⟨g, o + 2, none⟩ = some (.string A.text)
  c3 : w.cell? ⟨g, o + 3, none⟩ = some (.int .i64 A.value.kind)
  c4 : w.cell? ⟨g, o + 4, none⟩ = some (.string A.value.num)
  c5 : w.cell? ⟨g, o + 5, none⟩ = some (.string A.value.text)
  c6 : w.cell? ⟨g, o + 6, none⟩ = some (.slice io A.value.items.length ic)
  c7 : w.cell? ⟨g, o + 7, none⟩ = some (.slice yo A.value.keys.length yc)
  c8 : w.cell? ⟨g, o + 8, none⟩ = some (.slice no A.names.length nc)
  c9 : w.cell? ⟨g, o + 9, none⟩ = some (.slice ko A.kids.length kc)
  tx : A.text.size ≤ 140737488355328
  val : VAt w (h + 1) A.value g (o + 3)
  nl : A.names.length ≤ nc ∧ A.names.length ≤ 140737488355328 ∧ ∀ k ∈ A.names, k.size ≤ 140737488355328
  names : KIn w no A.names
  kl : A.kids.length ≤ kc ∧ A.kids.length ≤ 140737488355328
  kids : 0 < A.kids.length → ∃ b off, ko = some ⟨b, off, none⟩ ∧ ∀ i, (hi : i < A.kids.length) → NAt w h A.kids[i] b (off + i * 10)
theorem NAt.open_ {w : World} {h : Nat} {A : NT} {g o : Nat} (hv : NAt w (h + 1) A g o) : ∃ io ic yo yc no nc ko kc, NPt w h A g o io ic yo yc no nc ko kc := by
  obtain ⟨c, hc, io, ic, yo, yc, no, nc, ko, kc, e, a1, a2, a3, a4, hn, hk⟩ := hv
  unfold ndV at e
  simp only [Value.agg.injEq, Array.mk.injEq, List.cons.injEq, and_true] at e
  obtain ⟨e0, e1, e2, e3, e4, e5, e6, e7, e8, e9⟩ := e
  have d : ∀ j v, c j = v → w.cell? ⟨g, o + j.1, none⟩ = some v := fun j v h => h ▸ hc j
  refine ⟨io, ic, yo, yc, no, nc, ko, kc, d 0 _ e0, d 1 _ e1, d 2 _ e2, d 3 _ e3, d 4 _ e4, d 5 _ e5, d 6 _ e6, d 7 _ e7, d 8 _ e8, d 9 _ e9, a1, ⟨_, _, _, _, _, ⟨d 3 _ e3, d 4 _ e4, d 5 _ e5, d 6 _ e6, d 7 _ e7⟩, a2.toH⟩, a3, ⟨fun h0 => ?_⟩, a4, fun h0 => ?_⟩
  · obtain ⟨b, off, e, _, hl, hc⟩ := hn h0
    exact ⟨b, off, e, hl, hc⟩
  · obtain ⟨b, off, e, _, hl, hc⟩ := hk h0
    exact ⟨b, off, e, fun i hi => hc i hi⟩
def SmOk (h : Nat) : Prop := ∀ (A B : NT) (ga oa gb ob : Nat) (w : World), NAt w h A ga oa → NAt w h B gb ob → Calls Tryz.prog 34 #[.pointer (some ⟨ga, oa, none⟩), .pointer (some ⟨gb, ob, none⟩)] w fun e w' => e = .returned (.bool (sq (noA A) (noA B))) ∧ Below w.heap.size w w'

set_option maxRecDepth 100000 in
set_option maxHeartbeats 6400000 in
theorem sm_step (h : Nat) (ih : SmOk h) : SmOk (h + 1) := by
  rintro A B ga oa gb ob w hA hB
  obtain ⟨aio, aic, ayo, ayc, ano, anc, ako, akc, HA⟩ := hA.open_
  obtain ⟨bio, bic, byo, byc, bno, bnc, bko, bkc, HB⟩ := hB.open_
  obtain ⟨R, HR⟩ : ∃ R, Hid (sq (noA A) (noA B) = R) := ⟨_, rfl⟩
  rw [HR.out]
  have HEq : Hid (noA A = noA B ↔ A.op = B.op ∧ A.text = B.text ∧ A.value = B.value ∧ A.names = B.names ∧ noAs A.kids = noAs B.kids) := noA_eq
  have HVr : Hid (∀ d os, Calls Tryz.prog 63 #[.pointer (some ⟨ga, oa + 3, none⟩), .pointer (some ⟨gb, ob + 3, none⟩)] (grow (redrawn w d) os) fun e w' => e = .returned (.bool (sq A.value B.value)) ∧ Below (grow (redrawn w d) os).heap.size (grow (redrawn w d) os) w') := fun d os => w_alike (h + 1) _ _ _ _ _ _ _ (HA.val.keep (below_regrown w d os)) (HB.val.keep (below_regrown w d os))
  have HKr : Hid (∀ d os, Calls Tryz.prog 64 #[.slice ano A.names.length anc, .slice bno B.names.length bnc] (grow (redrawn w d) os) fun e w' => e = .returned (.bool (sq A.names B.names)) ∧ Below (grow (redrawn w d) os).heap.size (grow (redrawn w d) os) w') := fun d os => w_EqualS ano _ anc A.names bno _ bnc B.names _ (HA.names.keep (below_regrown w d os)) (HB.names.keep (below_regrown w d os)) rfl rfl HA.nl.1 HB.nl.1 HA.nl.2.1 HB.nl.2.1
  have HI : Hid (∀ (k : Nat) (h1 : k < A.kids.length) (h2 : k < B.kids.length), ∃ b off b2 off2, ako = some ⟨b, off, none⟩ ∧ bko = some ⟨b2, off2, none⟩ ∧ ∀ u, Below w.heap.size w u → Calls Tryz.prog 34 #[.pointer (some ⟨b, off + k * 10, none⟩), .pointer (some ⟨b2, off2 + k * 10, none⟩)] u fun e w' => e = .returned (.bool (sq (noA A.kids[k]) (noA B.kids[k]))) ∧ Below u.heap.size u w') := fun k h1 h2 => by
    obtain ⟨b, off, e1, hr1⟩ := HA.kids (by omega)
    obtain ⟨b2, off2, e2, hr2⟩ := HB.kids (by omega)
    exact ⟨b, off, b2, off2, e1, e2, fun u hu => ih _ _ b (off + k * 10) b2 (off2 + k * 10) u (NAt.keep (hr1 k h1) hu) (NAt.keep (hr2 k h2) hu)⟩
  have P0 := fun d os => cell_regrown HA.c0 d os
  have P2 := fun d os => cell_regrown HA.c2 d os
  have P8 := fun d os => cell_regrown HA.c8 d os
  have P9 := fun d os => cell_regrown HA.c9 d os
  have Q0 := fun d os => cell_regrown HB.c0 d os
  have Q2 := fun d os => cell_regrown HB.c2 d os
  have Q8 := fun d os => cell_regrown HB.c8 d os
  have Q9 := fun d os => cell_regrown HB.c9 d os
  have HM : Hid (A.kids.length ≤ akc ∧ B.kids.length ≤ bkc ∧ A.kids.length ≤ 140737488355328 ∧ B.kids.length ≤ 140737488355328) := ⟨HA.kl.1, HB.kl.1, HA.kl.2, HB.kl.2⟩
  have HP : Hid ((w.cell? ⟨ga, oa + 9, none⟩ = some (.slice ako A.kids.length akc)) ∧ (w.cell? ⟨gb, ob + 9, none⟩ = some (.slice bko B.kids.length bkc))) := ⟨HA.c9, HB.c9⟩
  clear HA HB hA hB
  obtain ⟨aop, aat, atx, aV, aN, aI⟩ := A
  obtain ⟨bop, bat, btx, bV, bN, bI⟩ := B
  simp only [NT.op, NT.text, NT.value, NT.names, NT.kids] at *
  by_cases hk : aop = bop
  rotate_left
  · have HT : Hid (R = false) := HR.out.symm.trans (sq_no (fun e => hk (HEq.out.1 e).1))
    have g1 : (aop != bop) = true := by simpa using hk
    go_enter Tryz.func34, Tryz.ntmps34
    go_wp2_with fail
    refine wp_region_quiet_below (by kernel_rfl) (by kernel_rfl) ?_
    repeat (go_big_quiet_step (first | exact Calls.regrown_of (HVr.out _ _) | exact Calls.regrown_of (HKr.out _ _)))
    refine wpQuiet_nil ?_
    intro w2 hw'
    have HB2 : Hid (Below w.heap.size w w2) := by
      obtain ⟨⟨dq, osq⟩, rfl⟩ := hw'
      exact below_regrown w dq osq
    clear hw' P0 P2 P8 P9 Q0 Q2 Q8 Q9
    go_wp2_with fail
    go_ret
    exact ⟨by rw [HT.out]; rfl, HB2.out⟩
  subst hk
  have g1 : (aop != aop) = false := by simp
  by_cases hx : atx = btx
  rotate_left
  · have HT : Hid (R = false) := HR.out.symm.trans (sq_no (fun e => hx (HEq.out.1 e).2.1))
    have g3 : (atx.toList == btx.toList) = false := by cases hc : (atx.toList == btx.toList) with
      | true => exact absurd (beqQ_yes hc) hx
      | false => rfl
    have g3x : (atx.toList != btx.toList) = true := by simp only [bne]; rw [g3]; rfl
    go_enter Tryz.func34, Tryz.ntmps34
    go_wp2_with fail
    refine wp_region_quiet_below (by kernel_rfl) (by kernel_rfl) ?_
    repeat (go_big_quiet_step (first | exact Calls.regrown_of (HVr.out _ _) | exact Calls.regrown_of (HKr.out _ _)))
    refine wpQuiet_nil ?_
    intro w2 hw'
    have HB2 : Hid (Below w.heap.size w w2) := by
      obtain ⟨⟨dq, osq⟩, rfl⟩ := hw'
      exact below_regrown w dq osq
    clear hw' P0 P2 P8 P9 Q0 Q2 Q8 Q9
    go_wp2_with fail
    go_ret
    exact ⟨by rw [HT.out]; rfl, HB2.out⟩
  subst hx
  have g3 : (atx.toList != atx.toList) = false := by simp
  by_cases hv : aV = bV
  rotate_left
  · have HT : Hid (R = false) := HR.out.symm.trans (sq_no (fun e => hv (HEq.out.1 e).2.2.1))
    rw [sq_no hv] at HVr
    go_enter Tryz.func34, Tryz.ntmps34
    go_wp2_with fail
    refine wp_region_quiet_below (by kernel_rfl) (by kernel_rfl) ?_
    repeat (go_big_quiet_step (first | exact Calls.regrown_of (HVr.out _ _) | exact Calls.regrown_of (HKr.out _ _)))
    refine wpQuiet_nil ?_
    intro w2 hw'
    have HB2 : Hid (Below w.heap.size w w2) := by
      obtain ⟨⟨dq, osq⟩, rfl⟩ := hw'
      exact below_regrown w dq osq
    clear hw' P0 P2 P8 P9 Q0 Q2 Q8 Q9
    go_wp2_with fail
    go_ret
    exact ⟨by rw [HT.out]; rfl, HB2.out⟩
  rw [sq_iff.2 hv] at HVr
  have HV := Hid.mk hv
  clear hv
  by_cases hy : aN = bN
  rotate_left
  · have HT : Hid (R = false) := HR.out.symm.trans (sq_no (fun e => hy (HEq.out.1 e).2.2.2.1))
    rw [sq_no hy] at HKr
    go_enter Tryz.func34, Tryz.ntmps34
    go_wp2_with fail
    refine wp_region_quiet_below (by kernel_rfl) (by kernel_rfl) ?_
    repeat (go_big_quiet_step (first | exact Calls.regrown_of (HVr.out _ _) | exact Calls.regrown_of (HKr.out _ _)))
    refine wpQuiet_nil ?_
    intro w2 hw'
    have HB2 : Hid (Below w.heap.size w w2) := by
      obtain ⟨⟨dq, osq⟩, rfl⟩ := hw'
      exact below_regrown w dq osq
    clear hw' P0 P2 P8 P9 Q0 Q2 Q8 Q9
    go_wp2_with fail
    go_ret
    exact ⟨by rw [HT.out]; rfl, HB2.out⟩
  rw [sq_iff.2 hy] at HKr
  have HY := Hid.mk hy
  clear hy
  by_cases hl : aI.length = bI.length
  rotate_left
  · have HT : Hid (R = false) := HR.out.symm.trans (sq_no (fun e => hl (noAs_len_eq (HEq.out.1 e).2.2.2.2)))
    have g4 : ((aI.length : Int) != (bI.length : Int)) = true := by simp; omega
    go_enter Tryz.func34, Tryz.ntmps34
    go_wp2_with fail
    refine wp_region_quiet_below (by kernel_rfl) (by kernel_rfl) ?_
    repeat (go_big_quiet_step (first | exact Calls.regrown_of (HVr.out _ _) | exact Calls.regrown_of (HKr.out _ _)))
    refine wpQuiet_nil ?_
    intro w2 hw'
    have HB2 : Hid (Below w.heap.size w w2) := by
      obtain ⟨⟨dq, osq⟩, rfl⟩ := hw'
      exact below_regrown w dq osq
    clear hw' P0 P2 P8 P9 Q0 Q2 Q8 Q9
    go_wp2_with fail
    go_ret
    exact ⟨by rw [HT.out]; rfl, HB2.out⟩
  have HL := Hid.mk hl
  obtain ⟨N, hN⟩ : ∃ N, N = aI.length := ⟨_, rfl⟩
  have hN2 : N = bI.length := hN.trans hl
  rw [← hN] at HP HM
  rw [← hN2] at HP HM
  simp only [← hN, ← hN2] at P9 Q9
  have g4 : ((N : Int) != (N : Int)) = false := by simp
  have HN := Hid.mk (And.intro hN hN2)
  have hcap := HM.out.1
  have hcap2 := HM.out.2.1
  have hbig := HM.out.2.2.1
  clear hl hN hN2
  go_enter Tryz.func34, Tryz.ntmps34
  go_wp2_with fail
  refine wp_region_quiet_below (by kernel_rfl) (by kernel_rfl) ?_
  repeat (go_big_quiet_step (first | exact Calls.regrown_of (HVr.out _ _) | exact Calls.regrown_of (HKr.out _ _)))
  refine wpQuiet_nil ?_
  intro w2 hw'
  have HB2 : Hid (Below w.heap.size w w2) := by
    obtain ⟨⟨dq, osq⟩, rfl⟩ := hw'
    exact below_regrown w dq osq
  clear hw' P0 P2 P8 P9 Q0 Q2 Q8 Q9
  have r3 := (HB2.out.cell (p := ⟨ga, oa + 9, none⟩) (block_lt_of_cell HP.out.1)).trans HP.out.1
  go_wp2_with fail
  clear r3
  go_loopw [66] (fun i wr => ∃ k : Nat, k ≤ N ∧ i = .int .i64 (k : Int) ∧ Hid (Below w.heap.size w wr) ∧ Hid (∀ i, (h1 : i < aI.length) → (h2 : i < bI.length) → i < k → noA aI[i] = noA bI[i])) (fun i _ => N - (intOf i).toNat)
  case atStart => exact ⟨0, Nat.zero_le _, rfl, HB2, fun i _ _ hi => absurd hi (Nat.not_lt_zero _)⟩
  case round =>
    obtain ⟨k, hk, rfl, HBw, HQ⟩ := hrel
    by_cases hlt : k < N
    · have hl1 : (k : Int) < (N : Int) := by omega
      have hl0 : (0 : Int) ≤ (k : Int) := by omega
      have hkx : k < aI.length := by rw [← HN.out.1]; exact hlt
      have hky : k < bI.length := by rw [← HN.out.2]; exact hlt
      obtain ⟨b, off, b2, off2, e1, e2, HCk⟩ := HI.out k hkx hky
      have t3 := (HBw.out.cell (p := ⟨ga, oa + 9, none⟩) (block_lt_of_cell HP.out.1)).trans HP.out.1
      have u3 := (HBw.out.cell (p := ⟨gb, ob + 9, none⟩) (block_lt_of_cell HP.out.2)).trans HP.out.2
      rw [e1] at t3
      rw [e2] at u3
      have T3 := fun d os => cell_regrown t3 d os
      have U3 := fun d os => cell_regrown u3 d os
      have HCr : Hid (∀ d os, Calls Tryz.prog 34 #[.pointer (some ⟨b, off + k * 10, none⟩), .pointer (some ⟨b2, off2 + k * 10, none⟩)] (grow (redrawn wr d) os) fun e w' => e = .returned (.bool (sq (noA aI[k]) (noA bI[k]))) ∧ Below (grow (redrawn wr d) os).heap.size (grow (redrawn wr d) os) w') := fun d os => HCk _ (HBw.out.trans ((below_regrown wr d os).mono HBw.out.size))
      have HNo := Hid.mk (fun (e : noAs aI = noAs bI) => noAs_at e hkx hky)
      clear e1 e2 t3 u3 HCk
      by_cases he : noA aI[k] = noA bI[k]
      · have HQ2 : Hid (∀ i, (h1 : i < aI.length) → (h2 : i < bI.length) → i < k + 1 → noA aI[i] = noA bI[i]) := fun i h1 h2 hi => by
          by_cases e : i = k
          · subst e; exact he
          · exact HQ.out i h1 h2 (by omega)
        rw [sq_iff.2 he] at HCr
        clear HNo he hkx hky
        go_wp2_with fail
        refine wp_region_quiet_below (by kernel_rfl) (by kernel_rfl) ?_
        repeat (go_big_quiet_step (exact Calls.regrown_of (HCr.out _ _)))
        refine wpQuiet_nil ?_
        intro w3 hw'
        have HB3 : Hid (Below w.heap.size w w3) := by
          obtain ⟨⟨dq, osq⟩, rfl⟩ := hw'
          exact HBw.out.trans ((below_regrown wr dq osq).mono HBw.out.size)
        clear hw' T3 U3
        go_wp2_with fail
        go_roundw
        case rel => exact ⟨k + 1, by omega, by go_num, HB3, HQ2⟩
        case measure => simp [intOf]; omega
      · have HT : Hid (R = false) := HR.out.symm.trans (sq_no (fun e => he (HNo.out (HEq.out.1 e).2.2.2.2)))
        rw [sq_no he] at HCr
        clear HNo he hkx hky
        go_wp2_with fail
        refine wp_region_quiet_below (by kernel_rfl) (by kernel_rfl) ?_
        repeat (go_big_quiet_step (exact Calls.regrown_of (HCr.out _ _)))
        refine wpQuiet_nil ?_
        intro w3 hw'
        have HB3 : Hid (Below w.heap.size w w3) := by
          obtain ⟨⟨dq, osq⟩, rfl⟩ := hw'
          exact HBw.out.trans ((below_regrown wr dq osq).mono HBw.out.size)
        clear hw' T3 U3
        go_wp2_with fail
        go_ret
        exact ⟨by rw [HT.out]; rfl, HB3.out⟩
    · have hl1 : ¬ (k : Int) < (N : Int) := by omega
      have HT : Hid (R = true) := HR.out.symm.trans (sq_iff.2 (HEq.out.2 ⟨by first | rfl | trivial, by first | rfl | trivial, HV.out, HY.out, noAs_eq HL.out (fun i h1 h2 => HQ.out i h1 h2 (by rw [← HN.out.1] at h1; omega))⟩))
      go_wp2_with fail
      go_ret
      exact ⟨by rw [HT.out]; rfl, HBw.out⟩
theorem w_same : ∀ h, SmOk h
  | 0 => fun _ _ _ _ _ _ _ ⟨_, _, hA⟩ _ => hA.elim
  | h + 1 => sm_step h (w_same h)
end Go.Proofs.YtdmkfdaddacdhaaGreatDoor
