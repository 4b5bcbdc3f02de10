import Derived.Test.YtapjfocjeligiaaGreatDoorM54
namespace Go.Proofs.YtapjfocjeligiaaGreatDoor
open Go.RowKit Go.Shelf Go.Sort
set_option linter.unusedVariables false
set_option linter.unusedSimpArgs false
attribute [local go_sem] Oper.semAt_some

/-- what lies while the law goes on: the value's box, the type's -/
structure AlB (w w1 : World) (kd : Int) (nm tx : ByteArray) (io : Option Addr) (NI icap : Nat) (vo : Option Addr) (NK vcap : Nat) (oo : Option Addr) (NO oc : Nat) (u : World) : Prop where
  below : Below w.heap.size w u
  bv : u.heap[w.heap.size]? = some (.cells #[.int .i64 kd, .string nm, .string tx, .slice io NI icap, .slice vo NK vcap] 37 (0, 0))
  bt : u.heap[w1.heap.size]? = some (.cells #[.bool false, .bool false, .bool false, .bool false, .slice none 0 0, .bool false, .slice none 0 0, .slice none 0 0, .slice oo NO oc] 29 (0, 0))
theorem AlB.keep {w w1 u u' : World} {kd : Int} {nm tx : ByteArray} {io : Option Addr} {NI icap : Nat} {vo : Option Addr} {NK vcap : Nat} {oo : Option Addr} {NO oc : Nat} (h : AlB w w1 kd nm tx io NI icap vo NK vcap oo NO oc u) (hb : Below u.heap.size u u') : AlB w w1 kd nm tx io NI icap vo NK vcap oo NO oc u' :=
  ⟨h.below.trans (hb.mono h.below.size), (hb.block _ (lt_row h.bv)).trans h.bv, (hb.block _ (lt_row h.bt)).trans h.bt⟩
def alT (os : List OB) : TT := .mk false false false false false [] [] [] os
theorem al_in {W : World} {h : Nat} {oo : Option Addr} {NO oc : Nat} {os : List OB} (hO : ObIn W h oo os) (hN : os.length = NO) (hc : NO ≤ oc) (hN2 : NO ≤ 140737488355328) : InT W (h + 1) (alT os) (.agg #[.bool false, .bool false, .bool false, .bool false, .slice none 0 0, .bool false, .slice none 0 0, .slice none 0 0, .slice oo NO oc]) := by
  subst hN
  refine ⟨none, 0, none, 0, none, 0, oo, oc, rfl, ⟨Nat.le_refl 0, Nat.le_refl 0, Nat.le_refl 0, hc⟩, ⟨Nat.zero_le _, Nat.zero_le _, Nat.zero_le _, hN2⟩, fun p hp => (by cases hp), fun k hk => (by cases hk), ⟨fun h => absurd h (Nat.not_lt_zero _)⟩, ⟨fun h => absurd h (Nat.not_lt_zero _)⟩, fun h => absurd h (Nat.not_lt_zero _), fun h0 => ?_⟩
  obtain ⟨b, off, e, hl, hcl⟩ := hO.row h0
  refine ⟨b, off, e, hl, fun i hi => ?_⟩
  obtain ⟨ko, kc, fo, fc, mo, mc, c0, c1, c2, c3, c4, c5, c6, c7, c8, g, h1, h2⟩ := hcl i hi
  exact ⟨ko, kc, fo, fc, mo, mc, c0, c1, c2, c3, c4, c5, c6, c7, c8, g, h1, h2.caps, h2.lens, h2.nm, h2.ms, h2.fd, h2.rest⟩
/-- one of a row, as a row of its own -/
theorem ob_one {W : World} {h b off k : Nat} {os : List OB} (hO : ObIn W h (some ⟨b, off, none⟩) os) (hk : k < os.length) : ObIn W h (some ⟨b, off + k * 12, none⟩) [os[k]] := by
  obtain ⟨b', off', e, hl, hcl⟩ := hO.row (by omega)
  simp only [Option.some.injEq, Addr.mk.injEq] at e
  obtain ⟨rfl, rfl, _⟩ := e
  refine ⟨fun _ => ⟨b, off + k * 12, rfl, hl, fun i hi => ?_⟩⟩
  have hi' : i < 1 := hi
  obtain rfl : i = 0 := by omega
  have := hcl k hk
  simpa using this
theorem al_fm {h : Nat} {os : List OB} {o : OB} (hf : fmN (h + 1) (alT os) = true) (ho : o ∈ os) : fmN (h + 1) (alT [o]) = true := by
  have h1 := (fm_open hf).2.2 o ho
  unfold fmN
  show (_ && (_ && (_ && (_ && (_ && [o].all (obOk (fmN h))))))) = true
  rw [List.all_cons, h1]
  rfl
theorem al_kd {h : Nat} {V : VT} {os : List OB} (hk : V.kind = 0 ∨ V.kind = 1 ∨ V.kind = 2 ∨ V.kind = 3 ∨ V.kind = 4 ∨ V.kind = 5) : agN (h + 1) V (alT os) = some ([], 1) := by
  refine ag_kd rfl ?_
  unfold kdB
  rcases hk with e | e | e | e | e | e <;> rw [e] <;> rfl
theorem al_6 {h : Nat} {V : VT} {os : List OB} (hk : V.kind = 6) (h0 : 0 < os.length) : agN (h + 1) V (alT os) = agObs (agN h) V os := by
  rw [ag_go rfl (by unfold kdB; rw [hk]; exact decide_eq_true h0), hk]; rfl
theorem al_any {h hv : Nat} {V : VT} {os : List OB} (hf : formN (hv + 1) V = true) : (agN (h + 1) V (alT os)).isNone = os.any (fun o => (agN (h + 1) V (alT [o])).isNone) := by
  by_cases h6 : V.kind = 6
  · have e1 : (fun o => (agN (h + 1) V (alT [o])).isNone) = fun o => (agOb (agN h) V o).isNone := by
      funext o; rw [al_6 h6 (by simp)]; rfl
    rw [e1]
    by_cases h0 : 0 < os.length
    · rw [al_6 h6 h0]
      by_cases h1 : os.length = 1
      · match os, h1 with
        | [o], _ => simp [agObs]
      · rw [agObs_ne h1]
        cases os.any (fun o => (agOb (agN h) V o).isNone) <;> rfl
    · obtain rfl : os = [] := List.eq_nil_of_length_eq_zero (by omega)
      rw [ag_kd rfl (by unfold kdB; rw [h6]; rfl)]; rfl
  · have hk : V.kind = 0 ∨ V.kind = 1 ∨ V.kind = 2 ∨ V.kind = 3 ∨ V.kind = 4 ∨ V.kind = 5 := by
      rcases form_open hf with (rfl | rfl | rfl) | ⟨n, rfl, _⟩ | ⟨n, rfl, _⟩ | ⟨i, rfl, hi⟩ | ⟨i, ks, rfl, hl, hr, _, hi⟩
      all_goals first | (simp [VT.kind]; done) | exact absurd rfl h6
    rw [al_kd hk]
    symm
    show _ = false
    rw [List.any_eq_false]
    intro o _
    rw [al_kd hk]; simp
theorem in_ok2 {hv h : Nat} {V : VT} {T : TT} (h1 : formN hv V = true) (h2 : fmN h T = true) : inR hv h V T = ((agN h V T).isNone, 0) := by unfold inR; rw [h1, h2]; rfl

set_option maxRecDepth 100000 in
set_option maxHeartbeats 12800000 in
theorem w_MemberAlternatives (hv h : Nat) (V : VT) (vv : Value) (oo : Option Addr) (NO oc : Nat) (os : List OB) (w : World) (hI : InH w hv V vv) (hO : ObIn w h oo os) (hN : os.length = NO) (hc : NO ≤ oc) (hN2 : NO ≤ 140737488355328) (ht : Tab2 w) (hg : ErrT w) :
    Calls Tryz.prog 6 #[vv, .slice oo NO oc] w fun e w' => e = .returned (.bool true) ∧ Below w.heap.size w w' := by
  obtain ⟨hv, rfl⟩ : ∃ k, hv = k + 1 := by
    cases hv with
    | zero => exact hI.elim
    | succ k => exact ⟨k, rfl⟩
  obtain ⟨io, icap, vo, vcap, rfl⟩ := inH_shape hI
  have HIV := Hid.mk hI
  have HOI := Hid.mk hO
  have HNN := Hid.mk hN
  have HT := Hid.mk ht
  have HMK := Hid.mk (fun u (hu : Below w.heap.size w u) => w_MemberKnown u (ht.keep hu) (hg.keep hu))
  have HFv := Hid.mk (fun u (hu : Below w.heap.size w u) => w_rFormed (hv + 1) V _ u (hI.keep hu))
  have HFt := Hid.mk (fun (T : TT) (v : Value) (u : World) (hv : InT u (h + 1) T v) => w_tFormed (h + 1) T v u hv)
  have HIn := Hid.mk (fun (T : TT) (v : Value) (u : World) (hu : Below w.heap.size w u) (hT : InT u (h + 1) T v) => w_mIn (hv + 1) (h + 1) V T _ v u (hI.keep hu) hT (ht.keep hu))
  clear hI hO hN ht hg
  generalize V.kind = kd at *
  generalize V.num = nm at *
  generalize V.text = tx at *
  generalize V.items.length = NI at *
  generalize V.keys.length = NK at *
  have hX := bx1_new w #[.int .i64 kd, .string nm, .string tx, .slice io NI icap, .slice vo NK vcap] 37
  obtain ⟨W0, hW0⟩ : ∃ W0, w.alloc (.cells #[.int .i64 kd, .string nm, .string tx, .slice io NI icap, .slice vo NK vcap] 37) = W0 := ⟨_, rfl⟩
  rw [hW0] at hX
  have hI0 : W0.heap[w.heap.size]? = some (.cells #[.int .i64 kd, .string nm, .string tx, .slice io NI icap, .slice vo NK vcap] 37 (0, 0)) := by rw [← hW0]; exact World.alloc_heap_new w _
  have HX := Hid.mk hX
  have HI0 := Hid.mk hI0
  clear hX hI0
  go_enter Tryz.func6, Tryz.ntmps6
  go_wp2_with fail
  refine (HMK.out _ HX.out.below).mono ?_
  rintro e w1 ⟨rfl, hq⟩
  have HB1 := Hid.mk (HX.out.below.trans (hq.mono HX.out.below.size))
  have HI1 : Hid (w1.heap[w.heap.size]? = some (.cells #[.int .i64 kd, .string nm, .string tx, .slice io NI icap, .slice vo NK vcap] 37 (0, 0))) := (hq.block _ (lt_row HI0.out)).trans HI0.out
  clear hq hW0 HX HI0 HMK
  obtain ⟨W2, hW2⟩ : ∃ W2, w1.alloc (.cells #[.bool false, .bool false, .bool false, .bool false, .slice none 0 0, .bool false, .slice none 0 0, .slice none 0 0, .slice oo NO oc] 29) = W2 := ⟨_, rfl⟩
  have hB2 : Below w1.heap.size w1 W2 := by rw [← hW2]; exact below1 w1 _
  have HP2 : Hid (AlB w w1 kd nm tx io NI icap vo NK vcap oo NO oc W2) := ⟨HB1.out.trans (hB2.mono HB1.out.size), (hB2.block _ (lt_row HI1.out)).trans HI1.out, by rw [← hW2]; exact World.alloc_heap_new w1 _⟩
  have p0 : W2.cell? ⟨w.heap.size, 0, none⟩ = some (.int .i64 kd) := cell_of_row _ _ 0 _ _ _ HP2.out.bv
  have p1 : W2.cell? ⟨w.heap.size, 1, none⟩ = some (.string nm) := cell_of_row _ _ 1 _ _ _ HP2.out.bv
  have p2 : W2.cell? ⟨w.heap.size, 2, none⟩ = some (.string tx) := cell_of_row _ _ 2 _ _ _ HP2.out.bv
  have p3 : W2.cell? ⟨w.heap.size, 3, none⟩ = some (.slice io NI icap) := cell_of_row _ _ 3 _ _ _ HP2.out.bv
  have p4 : W2.cell? ⟨w.heap.size, 4, none⟩ = some (.slice vo NK vcap) := cell_of_row _ _ 4 _ _ _ HP2.out.bv
  have HW2 := Hid.mk hW2
  clear hB2 hW2
  go_upto_region 4 with fail
  rw [HW2.out]
  clear HW2
  go_wp2_with fail
  refine (HFv.out _ HP2.out.below).mono ?_
  rintro e w3 ⟨rfl, hq⟩
  have HP3 := Hid.mk (HP2.out.keep hq)
  clear hq HP2 HFv HB1 HI1 p0 p1 p2 p3 p4
  cases hfv : formN (hv + 1) V with
  | false =>
    clear hfv
    go_wp2_with fail
    go_ret
    exact ⟨rfl, HP3.out.below⟩
  | true =>
    have HFV := Hid.mk hfv
    clear hfv
    have q0 : w3.cell? ⟨w1.heap.size, 0, none⟩ = some (.bool false) := cell_of_row _ _ 0 _ _ _ HP3.out.bt
    have q1 : w3.cell? ⟨w1.heap.size, 1, none⟩ = some (.bool false) := cell_of_row _ _ 1 _ _ _ HP3.out.bt
    have q2 : w3.cell? ⟨w1.heap.size, 2, none⟩ = some (.bool false) := cell_of_row _ _ 2 _ _ _ HP3.out.bt
    have q3 : w3.cell? ⟨w1.heap.size, 3, none⟩ = some (.bool false) := cell_of_row _ _ 3 _ _ _ HP3.out.bt
    have q4 : w3.cell? ⟨w1.heap.size, 4, none⟩ = some (.slice none 0 0) := cell_of_row _ _ 4 _ _ _ HP3.out.bt
    have q5 : w3.cell? ⟨w1.heap.size, 5, none⟩ = some (.bool false) := cell_of_row _ _ 5 _ _ _ HP3.out.bt
    have q6 : w3.cell? ⟨w1.heap.size, 6, none⟩ = some (.slice none 0 0) := cell_of_row _ _ 6 _ _ _ HP3.out.bt
    have q7 : w3.cell? ⟨w1.heap.size, 7, none⟩ = some (.slice none 0 0) := cell_of_row _ _ 7 _ _ _ HP3.out.bt
    have q8 : w3.cell? ⟨w1.heap.size, 8, none⟩ = some (.slice oo NO oc) := cell_of_row _ _ 8 _ _ _ HP3.out.bt
    have HF3 := Hid.mk (HFt.out (alT os) _ w3 (al_in (HOI.out.keep HP3.out.below) HNN.out hc hN2))
    go_wp2_with fail
    refine HF3.out.mono ?_
    rintro e w4 ⟨rfl, hq⟩
    have HP4 := Hid.mk (HP3.out.keep hq)
    clear hq HP3 HF3 HFt q0 q1 q2 q3 q4 q5 q6 q7 q8
    cases hfm : fmN (h + 1) (alT os) with
    | false =>
      clear hfm
      go_wp2_with fail
      go_ret
      exact ⟨rfl, HP4.out.below⟩
    | true =>
      have HFM := Hid.mk hfm
      clear hfm
      by_cases c1 : (20 : Int) < (NO : Int)
      · go_wp2_with fail
        go_ret
        exact ⟨rfl, HP4.out.below⟩
      · go_wp2_with fail
        go_loopw [6, 7] (fun f i wr => ∃ (k : Nat) (r : Bool), k ≤ NO ∧ Hid (r = (os.take k).any fun o => (agN (h + 1) V (alT [o])).isNone) ∧ f = .bool r ∧ i = .int .i64 (k : Int) ∧ Hid (AlB w w1 kd nm tx io NI icap vo NK vcap oo NO oc wr)) (fun _ i _ => NO - (intOf i).toNat)
        case atStart => exact ⟨0, false, Nat.zero_le _, rfl, rfl, rfl, HP4⟩
        case round =>
          clear HP4
          obtain ⟨k, r, hk, HR, rfl, rfl, HP4⟩ := hrel
          by_cases hlt : k < NO
          · have hl1 : (k : Int) < (NO : Int) := by omega
            have hl0 : (0 : Int) ≤ (k : Int) := by omega
            have hl2 : (k : Int) ≤ (k : Int) + 1 := by omega
            have hl3 : (k : Int) + 1 ≤ (oc : Int) := by omega
            have hl4 : ¬ (oc : Int) < (k : Int) + 1 := by omega
            have hl5 : ¬ oc < k + 1 := by omega
            have hl6 : k + 1 ≤ oc := by omega
            have hl7 : ¬ k + 1 < k := by omega
            have hkl : k < os.length := by rw [HNN.out]; exact hlt
            obtain ⟨b, off, hko, hbl, hrow⟩ := (HOI.out.keep HP4.out.below).row (by omega)
            subst hko
            have HC := Hid.mk (fun (d : Nat) (os' : Array Obj) => HIn.out (alT [os[k]]) _ (grow (redrawn wr d) os') (HP4.out.below.trans ((below_regrown wr d os').mono HP4.out.below.size)) (al_in (NO := 1) (oc := oc - k) (ob_one (HOI.out.keep (HP4.out.below.trans ((below_regrown wr d os').mono HP4.out.below.size))) hkl) rfl (by omega) (by decide)))
            rw [in_ok2 HFV.out (al_fm HFM.out (List.getElem_mem hkl))] at HC
            have HU := Hid.mk (any_up (f := fun o => (agN (h + 1) V (alT [o])).isNone) hkl)
            obtain ⟨r2, hr2⟩ : ∃ r2, (agN (h + 1) V (alT [os[k]])).isNone = r2 := ⟨_, rfl⟩
            simp only [hr2] at HC HU
            clear hr2 hrow hkl hbl
            have p0 : wr.cell? ⟨w.heap.size, 0, none⟩ = some (.int .i64 kd) := cell_of_row _ _ 0 _ _ _ HP4.out.bv
            have Ap0 := fun d os => cell_regrown p0 d os
            have p1 : wr.cell? ⟨w.heap.size, 1, none⟩ = some (.string nm) := cell_of_row _ _ 1 _ _ _ HP4.out.bv
            have Ap1 := fun d os => cell_regrown p1 d os
            have p2 : wr.cell? ⟨w.heap.size, 2, none⟩ = some (.string tx) := cell_of_row _ _ 2 _ _ _ HP4.out.bv
            have Ap2 := fun d os => cell_regrown p2 d os
            have p3 : wr.cell? ⟨w.heap.size, 3, none⟩ = some (.slice io NI icap) := cell_of_row _ _ 3 _ _ _ HP4.out.bv
            have Ap3 := fun d os => cell_regrown p3 d os
            have p4 : wr.cell? ⟨w.heap.size, 4, none⟩ = some (.slice vo NK vcap) := cell_of_row _ _ 4 _ _ _ HP4.out.bv
            have Ap4 := fun d os => cell_regrown p4 d os
            cases r with
            | true =>
              have HN : Hid (true = (os.take (k + 1)).any fun o => (agN (h + 1) V (alT [o])).isNone) := by show _ = _; rw [HU.out, ← HR.out]; rfl
              clear HU HR
              go_wp2_with fail
              refine wp_region_quiet_below (by kernel_rfl) (by kernel_rfl) ?_
              repeat (go_big_quiet_step (exact Calls.regrown_of (HC.out _ _)))
              refine wpQuiet_nil ?_
              intro w9 hw'
              have hb9 : Below wr.heap.size wr w9 := by
                obtain ⟨⟨dq, osq⟩, rfl⟩ := hw'
                exact below_regrown wr dq osq
              have HP9 := Hid.mk (HP4.out.keep hb9)
              clear hw' hb9 HC p0 Ap0 p1 Ap1 p2 Ap2 p3 Ap3 p4 Ap4
              go_wp2_with fail
              go_roundw
              case rel => exact ⟨k + 1, true, hlt, HN, rfl, by go_num, HP9⟩
              case measure => simp [intOf]; omega
            | false =>
              have HN : Hid (r2 = (os.take (k + 1)).any fun o => (agN (h + 1) V (alT [o])).isNone) := by show _ = _; rw [HU.out, ← HR.out]; rfl
              clear HU HR
              go_wp2_with fail
              refine wp_region_quiet_below (by kernel_rfl) (by kernel_rfl) ?_
              repeat (go_big_quiet_step (exact Calls.regrown_of (HC.out _ _)))
              refine wpQuiet_nil ?_
              intro w9 hw'
              have hb9 : Below wr.heap.size wr w9 := by
                obtain ⟨⟨dq, osq⟩, rfl⟩ := hw'
                exact below_regrown wr dq osq
              have HP9 := Hid.mk (HP4.out.keep hb9)
              clear hw' hb9 HC p0 Ap0 p1 Ap1 p2 Ap2 p3 Ap3 p4 Ap4
              go_wp2_with fail
              go_roundw
              case rel => exact ⟨k + 1, r2, hlt, HN, rfl, by go_num, HP9⟩
              case measure => simp [intOf]; omega
          · have hl1 : ¬ (k : Int) < (NO : Int) := by omega
            have HE : Hid (inR (hv + 1) (h + 1) V (alT os) = (r, 0)) := by
              show _ = _
              rw [in_ok2 HFV.out HFM.out, al_any HFV.out, HR.out, List.take_of_length_le (by rw [HNN.out]; omega)]
            have HC := Hid.mk (HIn.out (alT os) _ wr HP4.out.below (al_in (HOI.out.keep HP4.out.below) HNN.out hc hN2))
            rw [HE.out] at HC
            have er : (r == r) = true := by simp
            have p0 : wr.cell? ⟨w.heap.size, 0, none⟩ = some (.int .i64 kd) := cell_of_row _ _ 0 _ _ _ HP4.out.bv
            have p1 : wr.cell? ⟨w.heap.size, 1, none⟩ = some (.string nm) := cell_of_row _ _ 1 _ _ _ HP4.out.bv
            have p2 : wr.cell? ⟨w.heap.size, 2, none⟩ = some (.string tx) := cell_of_row _ _ 2 _ _ _ HP4.out.bv
            have p3 : wr.cell? ⟨w.heap.size, 3, none⟩ = some (.slice io NI icap) := cell_of_row _ _ 3 _ _ _ HP4.out.bv
            have p4 : wr.cell? ⟨w.heap.size, 4, none⟩ = some (.slice vo NK vcap) := cell_of_row _ _ 4 _ _ _ HP4.out.bv
            have q0 : wr.cell? ⟨w1.heap.size, 0, none⟩ = some (.bool false) := cell_of_row _ _ 0 _ _ _ HP4.out.bt
            have q1 : wr.cell? ⟨w1.heap.size, 1, none⟩ = some (.bool false) := cell_of_row _ _ 1 _ _ _ HP4.out.bt
            have q2 : wr.cell? ⟨w1.heap.size, 2, none⟩ = some (.bool false) := cell_of_row _ _ 2 _ _ _ HP4.out.bt
            have q3 : wr.cell? ⟨w1.heap.size, 3, none⟩ = some (.bool false) := cell_of_row _ _ 3 _ _ _ HP4.out.bt
            have q4 : wr.cell? ⟨w1.heap.size, 4, none⟩ = some (.slice none 0 0) := cell_of_row _ _ 4 _ _ _ HP4.out.bt
            have q5 : wr.cell? ⟨w1.heap.size, 5, none⟩ = some (.bool false) := cell_of_row _ _ 5 _ _ _ HP4.out.bt
            have q6 : wr.cell? ⟨w1.heap.size, 6, none⟩ = some (.slice none 0 0) := cell_of_row _ _ 6 _ _ _ HP4.out.bt
            have q7 : wr.cell? ⟨w1.heap.size, 7, none⟩ = some (.slice none 0 0) := cell_of_row _ _ 7 _ _ _ HP4.out.bt
            have q8 : wr.cell? ⟨w1.heap.size, 8, none⟩ = some (.slice oo NO oc) := cell_of_row _ _ 8 _ _ _ HP4.out.bt
            clear HR HE
            go_wp2_with fail
            refine HC.out.mono ?_
            rintro e w5 ⟨rfl, hq⟩
            have HB5 := Hid.mk (HP4.out.keep hq).below
            clear hq q0 q1 q2 q3 q4 q5 q6 q7 q8 HC p0 p1 p2 p3 p4
            go_wp2_with fail
            go_ret
            exact ⟨by first | rfl | simp, HB5.out⟩
end Go.Proofs.YtapjfocjeligiaaGreatDoor
