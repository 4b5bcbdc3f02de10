import Derived.Test.YtapjfocjeligiaaGreatDoorM54
namespace Go.Proofs.YtapjfocjeligiaaGreatDoor
open Go.RowKit Go.Shelf Go.Sort
set_option linter.unusedVariables false
set_option linter.unusedSimpArgs false
attribute [local go_sem] Oper.semAt_some

/-- what lies while the law goes on: the item type's box, the arrays' row, the type's box -/
structure PtB (w w1 : World) (sa sb sc sd : Bool) (seo : Option Addr) (sen sec : Nat) (sf : Bool) (sgo : Option Addr) (sgn sgc : Nat) (sio : Option Addr) (sinn sic : Nat) (sjo : Option Addr) (sjn sjc : Nat) (mn mx : Int) (u : World) : Prop where
  below : Below w.heap.size w u
  it : u.heap[w.heap.size]? = some (.cells #[.bool sa, .bool sb, .bool sc, .bool sd, .slice seo sen sec, .bool sf, .slice sgo sgn sgc, .slice sio sinn sic, .slice sjo sjn sjc] 29 (0, 0))
  ar : u.heap[w1.heap.size]? = some (.cells #[.bool sa, .bool sb, .bool sc, .bool sd, .slice seo sen sec, .bool sf, .slice sgo sgn sgc, .slice sio sinn sic, .slice sjo sjn sjc, .int .i64 mn, .int .i64 mx] 31 (0, 0))
  bt : u.heap[w1.heap.size + 1]? = some (.cells #[.bool false, .bool false, .bool false, .bool false, .slice none 0 0, .bool false, .slice none 0 0, .slice (some ⟨w1.heap.size, 0, none⟩) 1 1, .slice none 0 0] 29 (0, 0))
theorem PtB.keep {w w1 u u' : World} {sa sb sc sd : Bool} {seo : Option Addr} {sen sec : Nat} {sf : Bool} {sgo : Option Addr} {sgn sgc : Nat} {sio : Option Addr} {sinn sic : Nat} {sjo : Option Addr} {sjn sjc : Nat} {mn mx : Int} (h : PtB w w1 sa sb sc sd seo sen sec sf sgo sgn sgc sio sinn sic sjo sjn sjc mn mx u) (hb : Below u.heap.size u u') : PtB w w1 sa sb sc sd seo sen sec sf sgo sgn sgc sio sinn sic sjo sjn sjc mn mx u' :=
  ⟨h.below.trans (hb.mono h.below.size), (hb.block _ (lt_row h.it)).trans h.it, (hb.block _ (lt_row h.ar)).trans h.ar, (hb.block _ (lt_row h.bt)).trans h.bt⟩
def paT (IT : TT) (mn mx : Int) : TT := .mk false false false false false [] [] [.mk IT mn mx] []
theorem pa_in {W : World} {h B : Nat} {IT : TT} {mn mx : Int} {c0 c1 c2 c3 c4 c5 c6 c7 c8 : Value} (hb : W.heap[B]? = some (.cells #[c0, c1, c2, c3, c4, c5, c6, c7, c8, .int .i64 mn, .int .i64 mx] 31 (0, 0))) (hT : InT W h IT (.agg #[c0, c1, c2, c3, c4, c5, c6, c7, c8])) : InT W (h + 1) (paT IT mn mx) (.agg #[.bool false, .bool false, .bool false, .bool false, .slice none 0 0, .bool false, .slice none 0 0, .slice (some ⟨B, 0, none⟩) 1 1, .slice none 0 0]) := by
  have hl : B < W.heap.size := lt_row hb
  have hc := fun j => cell_of_row W B j _ _ _ hb
  refine ⟨none, 0, none, 0, some ⟨B, 0, none⟩, 1, none, 0, rfl, ⟨Nat.le_refl 0, Nat.le_refl 0, Nat.le_refl 1, Nat.le_refl 0⟩, ⟨Nat.zero_le _, Nat.zero_le _, (by decide : (1 : Nat) ≤ 140737488355328), Nat.zero_le _⟩, fun p hp => (by cases hp), fun k hk => (by cases hk), ⟨fun h => absurd h (Nat.not_lt_zero _)⟩, ⟨fun h => absurd h (Nat.not_lt_zero _)⟩, fun _ => ⟨B, 0, rfl, hl, fun i hi => ?_⟩, fun h => absurd h (Nat.not_lt_zero _)⟩
  have hi' : i < 1 := hi
  obtain rfl : i = 0 := by omega
  exact ⟨c0, c1, c2, c3, c4, c5, c6, c7, c8, ⟨hc 0, hc 1, hc 2, hc 3, hc 4, hc 5, hc 6, hc 7, hc 8⟩, hc 9, hc 10, hT⟩
theorem agIt_none {f : VT → TT → Er} {A : TT} : ∀ (its : List VT) (i : Nat), (agIt f A i its).isNone = its.all (fun x => (f x A).isNone)
  | [], i => rfl
  | x :: xs, i => by
    rw [List.all_cons, agIt]
    cases hx : f x A with
    | none => exact agIt_none xs (i + 1)
    | some q => rfl
def fitB (N : Nat) (mn mx : Int) : Bool := decide (mn ≤ (N : Int)) && (decide (mx < 0) || decide ((N : Int) ≤ mx))
theorem pa_ag {h : Nat} {IT : TT} {mn mx : Int} {its : List VT} : (agN (h + 1) (.mk 5 ⟨#[]⟩ ⟨#[]⟩ its []) (paT IT mn mx)).isNone = (fitB its.length mn mx && its.all (fun x => (agN h x IT).isNone)) := by
  show (agAr (agN h) its (.mk IT mn mx)).isNone = _
  unfold agAr fitB
  show (if (its.length : Int) < mn then _ else if 0 ≤ mx ∧ mx < (its.length : Int) then _ else agIt (agN h) IT 0 its).isNone = _
  by_cases h1 : (its.length : Int) < mn
  · rw [if_pos h1, decide_eq_false (by omega)]; rfl
  · rw [if_neg h1, decide_eq_true (by omega : mn ≤ (its.length : Int))]
    by_cases h2 : 0 ≤ mx ∧ mx < (its.length : Int)
    · rw [if_pos h2, decide_eq_false (by omega), decide_eq_false (by omega)]; rfl
    · rw [if_neg h2, agIt_none]
      have h3 : (decide (mx < 0) || decide ((its.length : Int) ≤ mx)) = true := by
        by_cases h4 : mx < 0
        · rw [decide_eq_true h4]; rfl
        · rw [decide_eq_true (by omega : (its.length : Int) ≤ mx)]; simp
      rw [h3]; rfl
theorem pa_form {hv : Nat} {its : List VT} (h : its.all (formN hv) = true) : formN (hv + 1) (.mk 5 ⟨#[]⟩ ⟨#[]⟩ its []) = true := by
  unfold formN
  show formV 5 ⟨#[]⟩ ⟨#[]⟩ its.length 0 (its.all (formN hv)) _ = true
  rw [h]
  unfold formV
  rw [if_neg (by decide), if_neg (by decide), if_neg (by decide), if_pos rfl]
  show (true && bareB ⟨#[]⟩ ⟨#[]⟩ 0 0) = true
  decide +kernel
theorem pa_fm {h : Nat} {IT : TT} {mn mx : Int} (hf : fmN (h + 1) (paT IT mn mx) = true) : fmN h IT = true := ar_open (fm_open hf).2.1 (.mk IT mn mx) (List.mem_cons_self ..)
theorem in_ok {hv h : Nat} {V : VT} {T : TT} (h1 : formN hv V = true) (h2 : fmN h T = true) : inR hv h V T = ((agN h V T).isNone, 0) := by unfold inR; rw [h1, h2]; rfl
theorem take_up {g : VT → Bool} {its : List VT} {k : Nat} (hk : k < its.length) : (its.take (k + 1)).all g = ((its.take k).all g && g its[k]) := zall_up hk

set_option maxRecDepth 100000 in
set_option maxHeartbeats 12800000 in
theorem w_MemberParts (hv h : Nat) (lo : Option Addr) (N lcap : Nat) (its : List VT) (IT : TT) (vt : Value) (mn mx : Int) (w : World) (hi : IIn w hv lo its) (hN : its.length = N) (hc : N ≤ lcap) (hN2 : N ≤ 140737488355328) (hT : InT w h IT vt) (ht : Tab2 w) (hg : ErrT w) :
    Calls Tryz.prog 5 #[.slice lo N lcap, vt, .int .i64 mn, .int .i64 mx] w fun e w' => e = .returned (.bool true) ∧ Below w.heap.size w w' := by
  obtain ⟨sa, sb, sc, sd, ⟨seo, sen, sec⟩, sf, ⟨sgo, sgn, sgc⟩, ⟨sio, sinn, sic⟩, ⟨sjo, sjn, sjc⟩, rfl⟩ := inT_shape hT
  have HI := Hid.mk hi
  have HNN := Hid.mk hN
  have HIT := Hid.mk hT
  have HT := Hid.mk ht
  have HMK := Hid.mk (fun u (hu : Below w.heap.size w u) => w_MemberKnown u (ht.keep hu) (hg.keep hu))
  have HAll := Hid.mk (fun u (hu : Below w.heap.size w u) => w_All hv (w_rFormed hv) lo N lcap its u (hi.keep hu) hN hc hN2)
  have HIn := Hid.mk (fun (x : VT) (vx : Value) (u : World) (hu : Below w.heap.size w u) (hx : InH u hv x vx) => w_mIn hv h x IT vx _ u hx (hT.keep hu) (ht.keep hu))
  have HFm := Hid.mk (fun (T : TT) (v : Value) (u : World) (hv : InT u (h + 1) T v) => w_tFormed (h + 1) T v u hv)
  clear hi hN hT ht hg
  have hX := bx1_new w #[.bool sa, .bool sb, .bool sc, .bool sd, .slice seo sen sec, .bool sf, .slice sgo sgn sgc, .slice sio sinn sic, .slice sjo sjn sjc] 29
  obtain ⟨W0, hW0⟩ : ∃ W0, w.alloc (.cells #[.bool sa, .bool sb, .bool sc, .bool sd, .slice seo sen sec, .bool sf, .slice sgo sgn sgc, .slice sio sinn sic, .slice sjo sjn sjc] 29) = W0 := ⟨_, rfl⟩
  rw [hW0] at hX
  have hI0 : W0.heap[w.heap.size]? = some (.cells #[.bool sa, .bool sb, .bool sc, .bool sd, .slice seo sen sec, .bool sf, .slice sgo sgn sgc, .slice sio sinn sic, .slice sjo sjn sjc] 29 (0, 0)) := by rw [← hW0]; exact World.alloc_heap_new w _
  have HX := Hid.mk hX
  have HI0 := Hid.mk hI0
  clear hX hI0
  go_enter Tryz.func5, Tryz.ntmps5
  go_wp2_with fail
  refine (HMK.out _ HX.out.below).mono ?_
  rintro e w1 ⟨rfl, hq⟩
  have HB1 := Hid.mk (HX.out.below.trans (hq.mono HX.out.below.size))
  have hI1 : w1.heap[w.heap.size]? = some (.cells #[.bool sa, .bool sb, .bool sc, .bool sd, .slice seo sen sec, .bool sf, .slice sgo sgn sgc, .slice sio sinn sic, .slice sjo sjn sjc] 29 (0, 0)) := (hq.block _ (lt_row HI0.out)).trans HI0.out
  have HI1 := Hid.mk hI1
  have p0 := cell_of_row _ _ 0 _ _ _ hI1
  have p1 := cell_of_row _ _ 1 _ _ _ hI1
  have p2 := cell_of_row _ _ 2 _ _ _ hI1
  have p3 := cell_of_row _ _ 3 _ _ _ hI1
  have p4 := cell_of_row _ _ 4 _ _ _ hI1
  have p5 := cell_of_row _ _ 5 _ _ _ hI1
  have p6 := cell_of_row _ _ 6 _ _ _ hI1
  have p7 := cell_of_row _ _ 7 _ _ _ hI1
  have p8 := cell_of_row _ _ 8 _ _ _ hI1
  clear hq hW0 HX HI0 HMK hI1
  obtain ⟨W2, hW2⟩ : ∃ W2, (w1.alloc (.cells #[.bool sa, .bool sb, .bool sc, .bool sd, .slice seo sen sec, .bool sf, .slice sgo sgn sgc, .slice sio sinn sic, .slice sjo sjn sjc, .int .i64 mn, .int .i64 mx] 31)).alloc (.cells #[.bool false, .bool false, .bool false, .bool false, .slice none 0 0, .bool false, .slice none 0 0, .slice (some ⟨w1.heap.size, 0, none⟩) 1 1, .slice none 0 0] 29) = W2 := ⟨_, rfl⟩
  have hB2 : Below w1.heap.size w1 W2 := by rw [← hW2]; exact ((Below.refl _ _).alloc (Nat.le_refl _) _).alloc (by simp) _
  have HP2 : Hid (PtB w w1 sa sb sc sd seo sen sec sf sgo sgn sgc sio sinn sic sjo sjn sjc mn mx W2) := by
    refine ⟨HB1.out.trans (hB2.mono HB1.out.size), (hB2.block _ (lt_row HI1.out)).trans HI1.out, ?_, ?_⟩
    · rw [← hW2, Below.heap_alloc _ _ _ (by simp)]; exact World.alloc_heap_new w1 _
    · have h := World.alloc_heap_new (w1.alloc (.cells #[.bool sa, .bool sb, .bool sc, .bool sd, .slice seo sen sec, .bool sf, .slice sgo sgn sgc, .slice sio sinn sic, .slice sjo sjn sjc, .int .i64 mn, .int .i64 mx] 31)) (.cells #[.bool false, .bool false, .bool false, .bool false, .slice none 0 0, .bool false, .slice none 0 0, .slice (some ⟨w1.heap.size, 0, none⟩) 1 1, .slice none 0 0] 29)
      rw [World.size_alloc] at h
      rw [← hW2]; exact h
  have HW2 := Hid.mk hW2
  clear hB2 hW2
  go_wp2_with fail
  rw [HW2.out]
  clear HW2 p0 p1 p2 p3 p4 p5 p6 p7 p8
  refine (HAll.out _ HP2.out.below).mono ?_
  rintro e w3 ⟨rfl, hq⟩
  have HP3 := Hid.mk (HP2.out.keep hq)
  clear hq HP2 HAll HB1 HI1
  cases hall : its.all (formN hv) with
  | false =>
    clear hall
    go_wp2_with fail
    go_ret
    exact ⟨rfl, HP3.out.below⟩
  | true =>
    have HAl := Hid.mk hall
    clear hall
    have q0 := cell_of_row _ _ 0 _ _ _ HP3.out.bt
    have q1 := cell_of_row _ _ 1 _ _ _ HP3.out.bt
    have q2 := cell_of_row _ _ 2 _ _ _ HP3.out.bt
    have q3 := cell_of_row _ _ 3 _ _ _ HP3.out.bt
    have q4 := cell_of_row _ _ 4 _ _ _ HP3.out.bt
    have q5 := cell_of_row _ _ 5 _ _ _ HP3.out.bt
    have q6 := cell_of_row _ _ 6 _ _ _ HP3.out.bt
    have q7 := cell_of_row _ _ 7 _ _ _ HP3.out.bt
    have q8 := cell_of_row _ _ 8 _ _ _ HP3.out.bt
    have HF3 := Hid.mk (HFm.out (paT IT mn mx) _ w3 (pa_in HP3.out.ar (HIT.out.keep HP3.out.below)))
    go_wp2_with fail
    refine HF3.out.mono ?_
    rintro e w4 ⟨rfl, hq⟩
    have HP4 := Hid.mk (HP3.out.keep hq)
    clear hq HP3 HF3 HFm q0 q1 q2 q3 q4 q5 q6 q7 q8
    cases hfm : fmN (h + 1) (paT IT mn mx) with
    | false =>
      clear hfm
      go_wp2_with fail
      go_ret
      exact ⟨rfl, HP4.out.below⟩
    | true =>
      have HFM := Hid.mk hfm
      have HFI := Hid.mk (pa_fm hfm)
      have HFT : Hid (∀ x ∈ its, formN hv x = true) := fun x hx => List.all_eq_true.1 HAl.out x hx
      clear hfm
      by_cases c1 : (N : Int) < mn
      · have HFV : Hid (fitB N mn mx = false) := by show _ = _; unfold fitB; rw [decide_eq_false (by omega : ¬ mn ≤ (N : Int))]; rfl
        have c1' : ¬ mn ≤ (N : Int) := by omega
        go_wp2_with fail
        go_loopw [10, 11] (fun f i wr => ∃ (k : Nat) (r : Bool), k ≤ N ∧ Hid (r = (false && (its.take k).all fun x => (agN h x IT).isNone)) ∧ f = .bool r ∧ i = .int .i64 (k : Int) ∧ Hid (PtB w w1 sa sb sc sd seo sen sec sf sgo sgn sgc sio sinn sic sjo sjn sjc mn mx wr)) (fun _ i _ => N - (intOf i).toNat)
        case atStart => exact ⟨0, false, Nat.zero_le _, rfl, by first | rfl | (rw [decide_eq_false (by omega : ¬ mx < 0), decide_eq_false (by omega : ¬ (N : Int) ≤ mx)]; rfl), rfl, HP4⟩
        case round =>
          clear HP4
          obtain ⟨k, r, hk, HR, rfl, rfl, HP4⟩ := hrel
          by_cases hlt : k < N
          · have hl1 : (k : Int) < (N : Int) := by omega
            have hl0 : (0 : Int) ≤ (k : Int) := by omega
            have hkl : k < its.length := by rw [HNN.out]; exact hlt
            obtain ⟨b, off, hko, hbl, hrow⟩ := (HI.out.keep HP4.out.below).row (by omega)
            subst hko
            obtain ⟨v0, v1, v2, v3, v4, ⟨x0, x1, x2, x3, x4⟩, htt⟩ := hrow k hkl
            obtain ⟨ik, inm, itx, iio, iN, iicap, iko, iK, ikcap, rfl, rfl, rfl, rfl, rfl⟩ := htt.shape
            have HC := Hid.mk (fun (d : Nat) (os : Array Obj) => HIn.out its[k] _ (grow (redrawn wr d) os) (HP4.out.below.trans ((below_regrown wr d os).mono HP4.out.below.size)) (htt.keep (below_regrown wr d os)))
            rw [in_ok (HFT.out _ (List.getElem_mem hkl)) HFI.out] at HC
            have HU := Hid.mk (take_up (g := fun x => (agN h x IT).isNone) hkl)
            obtain ⟨r2, hr2⟩ : ∃ r2, (agN h its[k] IT).isNone = r2 := ⟨_, rfl⟩
            simp only [hr2] at HC HU
            clear hr2 hrow htt hkl hbl
            have p0 := cell_of_row _ _ 0 _ _ _ HP4.out.it
            have p1 := cell_of_row _ _ 1 _ _ _ HP4.out.it
            have p2 := cell_of_row _ _ 2 _ _ _ HP4.out.it
            have p3 := cell_of_row _ _ 3 _ _ _ HP4.out.it
            have p4 := cell_of_row _ _ 4 _ _ _ HP4.out.it
            have p5 := cell_of_row _ _ 5 _ _ _ HP4.out.it
            have p6 := cell_of_row _ _ 6 _ _ _ HP4.out.it
            have p7 := cell_of_row _ _ 7 _ _ _ HP4.out.it
            have p8 := cell_of_row _ _ 8 _ _ _ HP4.out.it
            replace p0 : wr.cell? ⟨w.heap.size, 0, none⟩ = some (.bool sa) := p0
            have Ap0 := fun d os => cell_regrown p0 d os
            replace p1 : wr.cell? ⟨w.heap.size, 1, none⟩ = some (.bool sb) := p1
            have Ap1 := fun d os => cell_regrown p1 d os
            replace p2 : wr.cell? ⟨w.heap.size, 2, none⟩ = some (.bool sc) := p2
            have Ap2 := fun d os => cell_regrown p2 d os
            replace p3 : wr.cell? ⟨w.heap.size, 3, none⟩ = some (.bool sd) := p3
            have Ap3 := fun d os => cell_regrown p3 d os
            replace p4 : wr.cell? ⟨w.heap.size, 4, none⟩ = some (.slice seo sen sec) := p4
            have Ap4 := fun d os => cell_regrown p4 d os
            replace p5 : wr.cell? ⟨w.heap.size, 5, none⟩ = some (.bool sf) := p5
            have Ap5 := fun d os => cell_regrown p5 d os
            replace p6 : wr.cell? ⟨w.heap.size, 6, none⟩ = some (.slice sgo sgn sgc) := p6
            have Ap6 := fun d os => cell_regrown p6 d os
            replace p7 : wr.cell? ⟨w.heap.size, 7, none⟩ = some (.slice sio sinn sic) := p7
            have Ap7 := fun d os => cell_regrown p7 d os
            replace p8 : wr.cell? ⟨w.heap.size, 8, none⟩ = some (.slice sjo sjn sjc) := p8
            have Ap8 := fun d os => cell_regrown p8 d os
            have Ax0 := fun d os => cell_regrown x0 d os
            have Ax1 := fun d os => cell_regrown x1 d os
            have Ax2 := fun d os => cell_regrown x2 d os
            have Ax3 := fun d os => cell_regrown x3 d os
            have Ax4 := fun d os => cell_regrown x4 d os
            cases r with
            | true =>
              have HN : Hid (r2 = (false && (its.take (k + 1)).all fun x => (agN h x IT).isNone)) := by
                show _ = _
                rw [HU.out, ← Bool.and_assoc, ← HR.out]; rfl
              clear HU HR
              go_wp2_with fail
              refine wp_region_quiet_below (by kernel_rfl) (by kernel_rfl) ?_
              repeat (go_big_quiet_step (exact Calls.regrown_of (HC.out _ _)))
              refine wpQuiet_nil ?_
              intro w9 hw'
              have hb9 : Below wr.heap.size wr w9 := by
                obtain ⟨⟨dq, osq⟩, rfl⟩ := hw'
                exact below_regrown wr dq osq
              have HP9 := Hid.mk (HP4.out.keep hb9)
              clear hw' hb9 HC p0 Ap0 p1 Ap1 p2 Ap2 p3 Ap3 p4 Ap4 p5 Ap5 p6 Ap6 p7 Ap7 p8 Ap8 x0 Ax0 x1 Ax1 x2 Ax2 x3 Ax3 x4 Ax4
              go_wp2_with fail
              go_roundw
              case rel => exact ⟨k + 1, r2, hlt, HN, rfl, by go_num, HP9⟩
              case measure => simp [intOf]; omega
            | false =>
              have HN : Hid (false = (false && (its.take (k + 1)).all fun x => (agN h x IT).isNone)) := by
                show _ = _
                rw [HU.out, ← Bool.and_assoc, ← HR.out]; rfl
              clear HU HR
              go_wp2_with fail
              refine wp_region_quiet_below (by kernel_rfl) (by kernel_rfl) ?_
              repeat (go_big_quiet_step (exact Calls.regrown_of (HC.out _ _)))
              refine wpQuiet_nil ?_
              intro w9 hw'
              have hb9 : Below wr.heap.size wr w9 := by
                obtain ⟨⟨dq, osq⟩, rfl⟩ := hw'
                exact below_regrown wr dq osq
              have HP9 := Hid.mk (HP4.out.keep hb9)
              clear hw' hb9 HC p0 Ap0 p1 Ap1 p2 Ap2 p3 Ap3 p4 Ap4 p5 Ap5 p6 Ap6 p7 Ap7 p8 Ap8 x0 Ax0 x1 Ax1 x2 Ax2 x3 Ax3 x4 Ax4
              go_wp2_with fail
              go_roundw
              case rel => exact ⟨k + 1, false, hlt, HN, rfl, by go_num, HP9⟩
              case measure => simp [intOf]; omega
          · have hl1 : ¬ (k : Int) < (N : Int) := by omega
            have HE : Hid (inR (hv + 1) (h + 1) (.mk 5 ⟨#[]⟩ ⟨#[]⟩ its []) (paT IT mn mx) = (r, 0)) := by
              show _ = _
              rw [in_ok (pa_form HAl.out) HFM.out, pa_ag, HR.out, HNN.out, HFV.out, List.take_of_length_le (by rw [HNN.out]; omega)]
            have HC := Hid.mk (w_mIn (hv + 1) (h + 1) (.mk 5 ⟨#[]⟩ ⟨#[]⟩ its []) (paT IT mn mx) _ _ wr (arrH (HI.out.keep HP4.out.below) HNN.out hc hN2) (pa_in HP4.out.ar (HIT.out.keep HP4.out.below)) (HT.out.keep HP4.out.below))
            rw [HE.out] at HC
            have er : (r == r) = true := by simp
            have q0 : wr.cell? ⟨w1.heap.size + 1, 0, none⟩ = some (.bool false) := cell_of_row _ _ 0 _ _ _ HP4.out.bt
            have q1 : wr.cell? ⟨w1.heap.size + 1, 1, none⟩ = some (.bool false) := cell_of_row _ _ 1 _ _ _ HP4.out.bt
            have q2 : wr.cell? ⟨w1.heap.size + 1, 2, none⟩ = some (.bool false) := cell_of_row _ _ 2 _ _ _ HP4.out.bt
            have q3 : wr.cell? ⟨w1.heap.size + 1, 3, none⟩ = some (.bool false) := cell_of_row _ _ 3 _ _ _ HP4.out.bt
            have q4 : wr.cell? ⟨w1.heap.size + 1, 4, none⟩ = some (.slice none 0 0) := cell_of_row _ _ 4 _ _ _ HP4.out.bt
            have q5 : wr.cell? ⟨w1.heap.size + 1, 5, none⟩ = some (.bool false) := cell_of_row _ _ 5 _ _ _ HP4.out.bt
            have q6 : wr.cell? ⟨w1.heap.size + 1, 6, none⟩ = some (.slice none 0 0) := cell_of_row _ _ 6 _ _ _ HP4.out.bt
            have q7 : wr.cell? ⟨w1.heap.size + 1, 7, none⟩ = some (.slice (some ⟨w1.heap.size, 0, none⟩) 1 1) := cell_of_row _ _ 7 _ _ _ HP4.out.bt
            have q8 : wr.cell? ⟨w1.heap.size + 1, 8, none⟩ = some (.slice none 0 0) := cell_of_row _ _ 8 _ _ _ HP4.out.bt
            clear HR HE
            go_wp2_with fail
            refine HC.out.mono ?_
            rintro e w5 ⟨rfl, hq⟩
            have HB5 := Hid.mk (HP4.out.keep hq).below
            clear hq q0 q1 q2 q3 q4 q5 q6 q7 q8 HC
            go_wp2_with fail
            go_ret
            exact ⟨by first | rfl | simp, HB5.out⟩
      · have c1' : mn ≤ (N : Int) := by omega
        by_cases c2 : mx < 0
        · have HFV : Hid (fitB N mn mx = true) := by show _ = _; unfold fitB; rw [decide_eq_true c1', decide_eq_true c2]; rfl
          go_wp2_with fail
          go_loopw [10, 11] (fun f i wr => ∃ (k : Nat) (r : Bool), k ≤ N ∧ Hid (r = (true && (its.take k).all fun x => (agN h x IT).isNone)) ∧ f = .bool r ∧ i = .int .i64 (k : Int) ∧ Hid (PtB w w1 sa sb sc sd seo sen sec sf sgo sgn sgc sio sinn sic sjo sjn sjc mn mx wr)) (fun _ i _ => N - (intOf i).toNat)
          case atStart => exact ⟨0, true, Nat.zero_le _, rfl, by first | rfl | (rw [decide_eq_false (by omega : ¬ mx < 0), decide_eq_false (by omega : ¬ (N : Int) ≤ mx)]; rfl), rfl, HP4⟩
          case round =>
            clear HP4
            obtain ⟨k, r, hk, HR, rfl, rfl, HP4⟩ := hrel
            by_cases hlt : k < N
            · have hl1 : (k : Int) < (N : Int) := by omega
              have hl0 : (0 : Int) ≤ (k : Int) := by omega
              have hkl : k < its.length := by rw [HNN.out]; exact hlt
              obtain ⟨b, off, hko, hbl, hrow⟩ := (HI.out.keep HP4.out.below).row (by omega)
              subst hko
              obtain ⟨v0, v1, v2, v3, v4, ⟨x0, x1, x2, x3, x4⟩, htt⟩ := hrow k hkl
              obtain ⟨ik, inm, itx, iio, iN, iicap, iko, iK, ikcap, rfl, rfl, rfl, rfl, rfl⟩ := htt.shape
              have HC := Hid.mk (fun (d : Nat) (os : Array Obj) => HIn.out its[k] _ (grow (redrawn wr d) os) (HP4.out.below.trans ((below_regrown wr d os).mono HP4.out.below.size)) (htt.keep (below_regrown wr d os)))
              rw [in_ok (HFT.out _ (List.getElem_mem hkl)) HFI.out] at HC
              have HU := Hid.mk (take_up (g := fun x => (agN h x IT).isNone) hkl)
              obtain ⟨r2, hr2⟩ : ∃ r2, (agN h its[k] IT).isNone = r2 := ⟨_, rfl⟩
              simp only [hr2] at HC HU
              clear hr2 hrow htt hkl hbl
              have p0 := cell_of_row _ _ 0 _ _ _ HP4.out.it
              have p1 := cell_of_row _ _ 1 _ _ _ HP4.out.it
              have p2 := cell_of_row _ _ 2 _ _ _ HP4.out.it
              have p3 := cell_of_row _ _ 3 _ _ _ HP4.out.it
              have p4 := cell_of_row _ _ 4 _ _ _ HP4.out.it
              have p5 := cell_of_row _ _ 5 _ _ _ HP4.out.it
              have p6 := cell_of_row _ _ 6 _ _ _ HP4.out.it
              have p7 := cell_of_row _ _ 7 _ _ _ HP4.out.it
              have p8 := cell_of_row _ _ 8 _ _ _ HP4.out.it
              replace p0 : wr.cell? ⟨w.heap.size, 0, none⟩ = some (.bool sa) := p0
              have Ap0 := fun d os => cell_regrown p0 d os
              replace p1 : wr.cell? ⟨w.heap.size, 1, none⟩ = some (.bool sb) := p1
              have Ap1 := fun d os => cell_regrown p1 d os
              replace p2 : wr.cell? ⟨w.heap.size, 2, none⟩ = some (.bool sc) := p2
              have Ap2 := fun d os => cell_regrown p2 d os
              replace p3 : wr.cell? ⟨w.heap.size, 3, none⟩ = some (.bool sd) := p3
              have Ap3 := fun d os => cell_regrown p3 d os
              replace p4 : wr.cell? ⟨w.heap.size, 4, none⟩ = some (.slice seo sen sec) := p4
              have Ap4 := fun d os => cell_regrown p4 d os
              replace p5 : wr.cell? ⟨w.heap.size, 5, none⟩ = some (.bool sf) := p5
              have Ap5 := fun d os => cell_regrown p5 d os
              replace p6 : wr.cell? ⟨w.heap.size, 6, none⟩ = some (.slice sgo sgn sgc) := p6
              have Ap6 := fun d os => cell_regrown p6 d os
              replace p7 : wr.cell? ⟨w.heap.size, 7, none⟩ = some (.slice sio sinn sic) := p7
              have Ap7 := fun d os => cell_regrown p7 d os
              replace p8 : wr.cell? ⟨w.heap.size, 8, none⟩ = some (.slice sjo sjn sjc) := p8
              have Ap8 := fun d os => cell_regrown p8 d os
              have Ax0 := fun d os => cell_regrown x0 d os
              have Ax1 := fun d os => cell_regrown x1 d os
              have Ax2 := fun d os => cell_regrown x2 d os
              have Ax3 := fun d os => cell_regrown x3 d os
              have Ax4 := fun d os => cell_regrown x4 d os
              cases r with
              | true =>
                have HN : Hid (r2 = (true && (its.take (k + 1)).all fun x => (agN h x IT).isNone)) := by
                  show _ = _
                  rw [HU.out, ← Bool.and_assoc, ← HR.out]; rfl
                clear HU HR
                go_wp2_with fail
                refine wp_region_quiet_below (by kernel_rfl) (by kernel_rfl) ?_
                repeat (go_big_quiet_step (exact Calls.regrown_of (HC.out _ _)))
                refine wpQuiet_nil ?_
                intro w9 hw'
                have hb9 : Below wr.heap.size wr w9 := by
                  obtain ⟨⟨dq, osq⟩, rfl⟩ := hw'
                  exact below_regrown wr dq osq
                have HP9 := Hid.mk (HP4.out.keep hb9)
                clear hw' hb9 HC p0 Ap0 p1 Ap1 p2 Ap2 p3 Ap3 p4 Ap4 p5 Ap5 p6 Ap6 p7 Ap7 p8 Ap8 x0 Ax0 x1 Ax1 x2 Ax2 x3 Ax3 x4 Ax4
                go_wp2_with fail
                go_roundw
                case rel => exact ⟨k + 1, r2, hlt, HN, rfl, by go_num, HP9⟩
                case measure => simp [intOf]; omega
              | false =>
                have HN : Hid (false = (true && (its.take (k + 1)).all fun x => (agN h x IT).isNone)) := by
                  show _ = _
                  rw [HU.out, ← Bool.and_assoc, ← HR.out]; rfl
                clear HU HR
                go_wp2_with fail
                refine wp_region_quiet_below (by kernel_rfl) (by kernel_rfl) ?_
                repeat (go_big_quiet_step (exact Calls.regrown_of (HC.out _ _)))
                refine wpQuiet_nil ?_
                intro w9 hw'
                have hb9 : Below wr.heap.size wr w9 := by
                  obtain ⟨⟨dq, osq⟩, rfl⟩ := hw'
                  exact below_regrown wr dq osq
                have HP9 := Hid.mk (HP4.out.keep hb9)
                clear hw' hb9 HC p0 Ap0 p1 Ap1 p2 Ap2 p3 Ap3 p4 Ap4 p5 Ap5 p6 Ap6 p7 Ap7 p8 Ap8 x0 Ax0 x1 Ax1 x2 Ax2 x3 Ax3 x4 Ax4
                go_wp2_with fail
                go_roundw
                case rel => exact ⟨k + 1, false, hlt, HN, rfl, by go_num, HP9⟩
                case measure => simp [intOf]; omega
            · have hl1 : ¬ (k : Int) < (N : Int) := by omega
              have HE : Hid (inR (hv + 1) (h + 1) (.mk 5 ⟨#[]⟩ ⟨#[]⟩ its []) (paT IT mn mx) = (r, 0)) := by
                show _ = _
                rw [in_ok (pa_form HAl.out) HFM.out, pa_ag, HR.out, HNN.out, HFV.out, List.take_of_length_le (by rw [HNN.out]; omega)]
              have HC := Hid.mk (w_mIn (hv + 1) (h + 1) (.mk 5 ⟨#[]⟩ ⟨#[]⟩ its []) (paT IT mn mx) _ _ wr (arrH (HI.out.keep HP4.out.below) HNN.out hc hN2) (pa_in HP4.out.ar (HIT.out.keep HP4.out.below)) (HT.out.keep HP4.out.below))
              rw [HE.out] at HC
              have er : (r == r) = true := by simp
              have q0 : wr.cell? ⟨w1.heap.size + 1, 0, none⟩ = some (.bool false) := cell_of_row _ _ 0 _ _ _ HP4.out.bt
              have q1 : wr.cell? ⟨w1.heap.size + 1, 1, none⟩ = some (.bool false) := cell_of_row _ _ 1 _ _ _ HP4.out.bt
              have q2 : wr.cell? ⟨w1.heap.size + 1, 2, none⟩ = some (.bool false) := cell_of_row _ _ 2 _ _ _ HP4.out.bt
              have q3 : wr.cell? ⟨w1.heap.size + 1, 3, none⟩ = some (.bool false) := cell_of_row _ _ 3 _ _ _ HP4.out.bt
              have q4 : wr.cell? ⟨w1.heap.size + 1, 4, none⟩ = some (.slice none 0 0) := cell_of_row _ _ 4 _ _ _ HP4.out.bt
              have q5 : wr.cell? ⟨w1.heap.size + 1, 5, none⟩ = some (.bool false) := cell_of_row _ _ 5 _ _ _ HP4.out.bt
              have q6 : wr.cell? ⟨w1.heap.size + 1, 6, none⟩ = some (.slice none 0 0) := cell_of_row _ _ 6 _ _ _ HP4.out.bt
              have q7 : wr.cell? ⟨w1.heap.size + 1, 7, none⟩ = some (.slice (some ⟨w1.heap.size, 0, none⟩) 1 1) := cell_of_row _ _ 7 _ _ _ HP4.out.bt
              have q8 : wr.cell? ⟨w1.heap.size + 1, 8, none⟩ = some (.slice none 0 0) := cell_of_row _ _ 8 _ _ _ HP4.out.bt
              clear HR HE
              go_wp2_with fail
              refine HC.out.mono ?_
              rintro e w5 ⟨rfl, hq⟩
              have HB5 := Hid.mk (HP4.out.keep hq).below
              clear hq q0 q1 q2 q3 q4 q5 q6 q7 q8 HC
              go_wp2_with fail
              go_ret
              exact ⟨by first | rfl | simp, HB5.out⟩
        · by_cases c3 : (N : Int) ≤ mx
          · have HFV : Hid (fitB N mn mx = true) := by show _ = _; unfold fitB; rw [decide_eq_true c1', decide_eq_true c3]; simp
            go_wp2_with fail
            go_loopw [10, 11] (fun f i wr => ∃ (k : Nat) (r : Bool), k ≤ N ∧ Hid (r = (true && (its.take k).all fun x => (agN h x IT).isNone)) ∧ f = .bool r ∧ i = .int .i64 (k : Int) ∧ Hid (PtB w w1 sa sb sc sd seo sen sec sf sgo sgn sgc sio sinn sic sjo sjn sjc mn mx wr)) (fun _ i _ => N - (intOf i).toNat)
            case atStart => exact ⟨0, true, Nat.zero_le _, rfl, by first | rfl | (rw [decide_eq_false (by omega : ¬ mx < 0), decide_eq_false (by omega : ¬ (N : Int) ≤ mx)]; rfl), rfl, HP4⟩
            case round =>
              clear HP4
              obtain ⟨k, r, hk, HR, rfl, rfl, HP4⟩ := hrel
              by_cases hlt : k < N
              · have hl1 : (k : Int) < (N : Int) := by omega
                have hl0 : (0 : Int) ≤ (k : Int) := by omega
                have hkl : k < its.length := by rw [HNN.out]; exact hlt
                obtain ⟨b, off, hko, hbl, hrow⟩ := (HI.out.keep HP4.out.below).row (by omega)
                subst hko
                obtain ⟨v0, v1, v2, v3, v4, ⟨x0, x1, x2, x3, x4⟩, htt⟩ := hrow k hkl
                obtain ⟨ik, inm, itx, iio, iN, iicap, iko, iK, ikcap, rfl, rfl, rfl, rfl, rfl⟩ := htt.shape
                have HC := Hid.mk (fun (d : Nat) (os : Array Obj) => HIn.out its[k] _ (grow (redrawn wr d) os) (HP4.out.below.trans ((below_regrown wr d os).mono HP4.out.below.size)) (htt.keep (below_regrown wr d os)))
                rw [in_ok (HFT.out _ (List.getElem_mem hkl)) HFI.out] at HC
                have HU := Hid.mk (take_up (g := fun x => (agN h x IT).isNone) hkl)
                obtain ⟨r2, hr2⟩ : ∃ r2, (agN h its[k] IT).isNone = r2 := ⟨_, rfl⟩
                simp only [hr2] at HC HU
                clear hr2 hrow htt hkl hbl
                have p0 := cell_of_row _ _ 0 _ _ _ HP4.out.it
                have p1 := cell_of_row _ _ 1 _ _ _ HP4.out.it
                have p2 := cell_of_row _ _ 2 _ _ _ HP4.out.it
                have p3 := cell_of_row _ _ 3 _ _ _ HP4.out.it
                have p4 := cell_of_row _ _ 4 _ _ _ HP4.out.it
                have p5 := cell_of_row _ _ 5 _ _ _ HP4.out.it
                have p6 := cell_of_row _ _ 6 _ _ _ HP4.out.it
                have p7 := cell_of_row _ _ 7 _ _ _ HP4.out.it
                have p8 := cell_of_row _ _ 8 _ _ _ HP4.out.it
                replace p0 : wr.cell? ⟨w.heap.size, 0, none⟩ = some (.bool sa) := p0
                have Ap0 := fun d os => cell_regrown p0 d os
                replace p1 : wr.cell? ⟨w.heap.size, 1, none⟩ = some (.bool sb) := p1
                have Ap1 := fun d os => cell_regrown p1 d os
                replace p2 : wr.cell? ⟨w.heap.size, 2, none⟩ = some (.bool sc) := p2
                have Ap2 := fun d os => cell_regrown p2 d os
                replace p3 : wr.cell? ⟨w.heap.size, 3, none⟩ = some (.bool sd) := p3
                have Ap3 := fun d os => cell_regrown p3 d os
                replace p4 : wr.cell? ⟨w.heap.size, 4, none⟩ = some (.slice seo sen sec) := p4
                have Ap4 := fun d os => cell_regrown p4 d os
                replace p5 : wr.cell? ⟨w.heap.size, 5, none⟩ = some (.bool sf) := p5
                have Ap5 := fun d os => cell_regrown p5 d os
                replace p6 : wr.cell? ⟨w.heap.size, 6, none⟩ = some (.slice sgo sgn sgc) := p6
                have Ap6 := fun d os => cell_regrown p6 d os
                replace p7 : wr.cell? ⟨w.heap.size, 7, none⟩ = some (.slice sio sinn sic) := p7
                have Ap7 := fun d os => cell_regrown p7 d os
                replace p8 : wr.cell? ⟨w.heap.size, 8, none⟩ = some (.slice sjo sjn sjc) := p8
                have Ap8 := fun d os => cell_regrown p8 d os
                have Ax0 := fun d os => cell_regrown x0 d os
                have Ax1 := fun d os => cell_regrown x1 d os
                have Ax2 := fun d os => cell_regrown x2 d os
                have Ax3 := fun d os => cell_regrown x3 d os
                have Ax4 := fun d os => cell_regrown x4 d os
                cases r with
                | true =>
                  have HN : Hid (r2 = (true && (its.take (k + 1)).all fun x => (agN h x IT).isNone)) := by
                    show _ = _
                    rw [HU.out, ← Bool.and_assoc, ← HR.out]; rfl
                  clear HU HR
                  go_wp2_with fail
                  refine wp_region_quiet_below (by kernel_rfl) (by kernel_rfl) ?_
                  repeat (go_big_quiet_step (exact Calls.regrown_of (HC.out _ _)))
                  refine wpQuiet_nil ?_
                  intro w9 hw'
                  have hb9 : Below wr.heap.size wr w9 := by
                    obtain ⟨⟨dq, osq⟩, rfl⟩ := hw'
                    exact below_regrown wr dq osq
                  have HP9 := Hid.mk (HP4.out.keep hb9)
                  clear hw' hb9 HC p0 Ap0 p1 Ap1 p2 Ap2 p3 Ap3 p4 Ap4 p5 Ap5 p6 Ap6 p7 Ap7 p8 Ap8 x0 Ax0 x1 Ax1 x2 Ax2 x3 Ax3 x4 Ax4
                  go_wp2_with fail
                  go_roundw
                  case rel => exact ⟨k + 1, r2, hlt, HN, rfl, by go_num, HP9⟩
                  case measure => simp [intOf]; omega
                | false =>
                  have HN : Hid (false = (true && (its.take (k + 1)).all fun x => (agN h x IT).isNone)) := by
                    show _ = _
                    rw [HU.out, ← Bool.and_assoc, ← HR.out]; rfl
                  clear HU HR
                  go_wp2_with fail
                  refine wp_region_quiet_below (by kernel_rfl) (by kernel_rfl) ?_
                  repeat (go_big_quiet_step (exact Calls.regrown_of (HC.out _ _)))
                  refine wpQuiet_nil ?_
                  intro w9 hw'
                  have hb9 : Below wr.heap.size wr w9 := by
                    obtain ⟨⟨dq, osq⟩, rfl⟩ := hw'
                    exact below_regrown wr dq osq
                  have HP9 := Hid.mk (HP4.out.keep hb9)
                  clear hw' hb9 HC p0 Ap0 p1 Ap1 p2 Ap2 p3 Ap3 p4 Ap4 p5 Ap5 p6 Ap6 p7 Ap7 p8 Ap8 x0 Ax0 x1 Ax1 x2 Ax2 x3 Ax3 x4 Ax4
                  go_wp2_with fail
                  go_roundw
                  case rel => exact ⟨k + 1, false, hlt, HN, rfl, by go_num, HP9⟩
                  case measure => simp [intOf]; omega
              · have hl1 : ¬ (k : Int) < (N : Int) := by omega
                have HE : Hid (inR (hv + 1) (h + 1) (.mk 5 ⟨#[]⟩ ⟨#[]⟩ its []) (paT IT mn mx) = (r, 0)) := by
                  show _ = _
                  rw [in_ok (pa_form HAl.out) HFM.out, pa_ag, HR.out, HNN.out, HFV.out, List.take_of_length_le (by rw [HNN.out]; omega)]
                have HC := Hid.mk (w_mIn (hv + 1) (h + 1) (.mk 5 ⟨#[]⟩ ⟨#[]⟩ its []) (paT IT mn mx) _ _ wr (arrH (HI.out.keep HP4.out.below) HNN.out hc hN2) (pa_in HP4.out.ar (HIT.out.keep HP4.out.below)) (HT.out.keep HP4.out.below))
                rw [HE.out] at HC
                have er : (r == r) = true := by simp
                have q0 : wr.cell? ⟨w1.heap.size + 1, 0, none⟩ = some (.bool false) := cell_of_row _ _ 0 _ _ _ HP4.out.bt
                have q1 : wr.cell? ⟨w1.heap.size + 1, 1, none⟩ = some (.bool false) := cell_of_row _ _ 1 _ _ _ HP4.out.bt
                have q2 : wr.cell? ⟨w1.heap.size + 1, 2, none⟩ = some (.bool false) := cell_of_row _ _ 2 _ _ _ HP4.out.bt
                have q3 : wr.cell? ⟨w1.heap.size + 1, 3, none⟩ = some (.bool false) := cell_of_row _ _ 3 _ _ _ HP4.out.bt
                have q4 : wr.cell? ⟨w1.heap.size + 1, 4, none⟩ = some (.slice none 0 0) := cell_of_row _ _ 4 _ _ _ HP4.out.bt
                have q5 : wr.cell? ⟨w1.heap.size + 1, 5, none⟩ = some (.bool false) := cell_of_row _ _ 5 _ _ _ HP4.out.bt
                have q6 : wr.cell? ⟨w1.heap.size + 1, 6, none⟩ = some (.slice none 0 0) := cell_of_row _ _ 6 _ _ _ HP4.out.bt
                have q7 : wr.cell? ⟨w1.heap.size + 1, 7, none⟩ = some (.slice (some ⟨w1.heap.size, 0, none⟩) 1 1) := cell_of_row _ _ 7 _ _ _ HP4.out.bt
                have q8 : wr.cell? ⟨w1.heap.size + 1, 8, none⟩ = some (.slice none 0 0) := cell_of_row _ _ 8 _ _ _ HP4.out.bt
                clear HR HE
                go_wp2_with fail
                refine HC.out.mono ?_
                rintro e w5 ⟨rfl, hq⟩
                have HB5 := Hid.mk (HP4.out.keep hq).below
                clear hq q0 q1 q2 q3 q4 q5 q6 q7 q8 HC
                go_wp2_with fail
                go_ret
                exact ⟨by first | rfl | simp, HB5.out⟩
          · have HFV : Hid (fitB N mn mx = false) := by show _ = _; unfold fitB; rw [decide_eq_false c2, decide_eq_false c3]; simp
            go_wp2_with fail
            go_loopw [10, 11] (fun f i wr => ∃ (k : Nat) (r : Bool), k ≤ N ∧ Hid (r = (false && (its.take k).all fun x => (agN h x IT).isNone)) ∧ f = .bool r ∧ i = .int .i64 (k : Int) ∧ Hid (PtB w w1 sa sb sc sd seo sen sec sf sgo sgn sgc sio sinn sic sjo sjn sjc mn mx wr)) (fun _ i _ => N - (intOf i).toNat)
            case atStart => exact ⟨0, false, Nat.zero_le _, rfl, by first | rfl | (rw [decide_eq_false (by omega : ¬ mx < 0), decide_eq_false (by omega : ¬ (N : Int) ≤ mx)]; rfl), rfl, HP4⟩
            case round =>
              clear HP4
              obtain ⟨k, r, hk, HR, rfl, rfl, HP4⟩ := hrel
              by_cases hlt : k < N
              · have hl1 : (k : Int) < (N : Int) := by omega
                have hl0 : (0 : Int) ≤ (k : Int) := by omega
                have hkl : k < its.length := by rw [HNN.out]; exact hlt
                obtain ⟨b, off, hko, hbl, hrow⟩ := (HI.out.keep HP4.out.below).row (by omega)
                subst hko
                obtain ⟨v0, v1, v2, v3, v4, ⟨x0, x1, x2, x3, x4⟩, htt⟩ := hrow k hkl
                obtain ⟨ik, inm, itx, iio, iN, iicap, iko, iK, ikcap, rfl, rfl, rfl, rfl, rfl⟩ := htt.shape
                have HC := Hid.mk (fun (d : Nat) (os : Array Obj) => HIn.out its[k] _ (grow (redrawn wr d) os) (HP4.out.below.trans ((below_regrown wr d os).mono HP4.out.below.size)) (htt.keep (below_regrown wr d os)))
                rw [in_ok (HFT.out _ (List.getElem_mem hkl)) HFI.out] at HC
                have HU := Hid.mk (take_up (g := fun x => (agN h x IT).isNone) hkl)
                obtain ⟨r2, hr2⟩ : ∃ r2, (agN h its[k] IT).isNone = r2 := ⟨_, rfl⟩
                simp only [hr2] at HC HU
                clear hr2 hrow htt hkl hbl
                have p0 := cell_of_row _ _ 0 _ _ _ HP4.out.it
                have p1 := cell_of_row _ _ 1 _ _ _ HP4.out.it
                have p2 := cell_of_row _ _ 2 _ _ _ HP4.out.it
                have p3 := cell_of_row _ _ 3 _ _ _ HP4.out.it
                have p4 := cell_of_row _ _ 4 _ _ _ HP4.out.it
                have p5 := cell_of_row _ _ 5 _ _ _ HP4.out.it
                have p6 := cell_of_row _ _ 6 _ _ _ HP4.out.it
                have p7 := cell_of_row _ _ 7 _ _ _ HP4.out.it
                have p8 := cell_of_row _ _ 8 _ _ _ HP4.out.it
                replace p0 : wr.cell? ⟨w.heap.size, 0, none⟩ = some (.bool sa) := p0
                have Ap0 := fun d os => cell_regrown p0 d os
                replace p1 : wr.cell? ⟨w.heap.size, 1, none⟩ = some (.bool sb) := p1
                have Ap1 := fun d os => cell_regrown p1 d os
                replace p2 : wr.cell? ⟨w.heap.size, 2, none⟩ = some (.bool sc) := p2
                have Ap2 := fun d os => cell_regrown p2 d os
                replace p3 : wr.cell? ⟨w.heap.size, 3, none⟩ = some (.bool sd) := p3
                have Ap3 := fun d os => cell_regrown p3 d os
                replace p4 : wr.cell? ⟨w.heap.size, 4, none⟩ = some (.slice seo sen sec) := p4
                have Ap4 := fun d os => cell_regrown p4 d os
                replace p5 : wr.cell? ⟨w.heap.size, 5, none⟩ = some (.bool sf) := p5
                have Ap5 := fun d os => cell_regrown p5 d os
                replace p6 : wr.cell? ⟨w.heap.size, 6, none⟩ = some (.slice sgo sgn sgc) := p6
                have Ap6 := fun d os => cell_regrown p6 d os
                replace p7 : wr.cell? ⟨w.heap.size, 7, none⟩ = some (.slice sio sinn sic) := p7
                have Ap7 := fun d os => cell_regrown p7 d os
                replace p8 : wr.cell? ⟨w.heap.size, 8, none⟩ = some (.slice sjo sjn sjc) := p8
                have Ap8 := fun d os => cell_regrown p8 d os
                have Ax0 := fun d os => cell_regrown x0 d os
                have Ax1 := fun d os => cell_regrown x1 d os
                have Ax2 := fun d os => cell_regrown x2 d os
                have Ax3 := fun d os => cell_regrown x3 d os
                have Ax4 := fun d os => cell_regrown x4 d os
                cases r with
                | true =>
                  have HN : Hid (r2 = (false && (its.take (k + 1)).all fun x => (agN h x IT).isNone)) := by
                    show _ = _
                    rw [HU.out, ← Bool.and_assoc, ← HR.out]; rfl
                  clear HU HR
                  go_wp2_with fail
                  refine wp_region_quiet_below (by kernel_rfl) (by kernel_rfl) ?_
                  repeat (go_big_quiet_step (exact Calls.regrown_of (HC.out _ _)))
                  refine wpQuiet_nil ?_
                  intro w9 hw'
                  have hb9 : Below wr.heap.size wr w9 := by
                    obtain ⟨⟨dq, osq⟩, rfl⟩ := hw'
                    exact below_regrown wr dq osq
                  have HP9 := Hid.mk (HP4.out.keep hb9)
                  clear hw' hb9 HC p0 Ap0 p1 Ap1 p2 Ap2 p3 Ap3 p4 Ap4 p5 Ap5 p6 Ap6 p7 Ap7 p8 Ap8 x0 Ax0 x1 Ax1 x2 Ax2 x3 Ax3 x4 Ax4
                  go_wp2_with fail
                  go_roundw
                  case rel => exact ⟨k + 1, r2, hlt, HN, rfl, by go_num, HP9⟩
                  case measure => simp [intOf]; omega
                | false =>
                  have HN : Hid (false = (false && (its.take (k + 1)).all fun x => (agN h x IT).isNone)) := by
                    show _ = _
                    rw [HU.out, ← Bool.and_assoc, ← HR.out]; rfl
                  clear HU HR
                  go_wp2_with fail
                  refine wp_region_quiet_below (by kernel_rfl) (by kernel_rfl) ?_
                  repeat (go_big_quiet_step (exact Calls.regrown_of (HC.out _ _)))
                  refine wpQuiet_nil ?_
                  intro w9 hw'
                  have hb9 : Below wr.heap.size wr w9 := by
                    obtain ⟨⟨dq, osq⟩, rfl⟩ := hw'
                    exact below_regrown wr dq osq
                  have HP9 := Hid.mk (HP4.out.keep hb9)
                  clear hw' hb9 HC p0 Ap0 p1 Ap1 p2 Ap2 p3 Ap3 p4 Ap4 p5 Ap5 p6 Ap6 p7 Ap7 p8 Ap8 x0 Ax0 x1 Ax1 x2 Ax2 x3 Ax3 x4 Ax4
                  go_wp2_with fail
                  go_roundw
                  case rel => exact ⟨k + 1, false, hlt, HN, rfl, by go_num, HP9⟩
                  case measure => simp [intOf]; omega
              · have hl1 : ¬ (k : Int) < (N : Int) := by omega
                have HE : Hid (inR (hv + 1) (h + 1) (.mk 5 ⟨#[]⟩ ⟨#[]⟩ its []) (paT IT mn mx) = (r, 0)) := by
                  show _ = _
                  rw [in_ok (pa_form HAl.out) HFM.out, pa_ag, HR.out, HNN.out, HFV.out, List.take_of_length_le (by rw [HNN.out]; omega)]
                have HC := Hid.mk (w_mIn (hv + 1) (h + 1) (.mk 5 ⟨#[]⟩ ⟨#[]⟩ its []) (paT IT mn mx) _ _ wr (arrH (HI.out.keep HP4.out.below) HNN.out hc hN2) (pa_in HP4.out.ar (HIT.out.keep HP4.out.below)) (HT.out.keep HP4.out.below))
                rw [HE.out] at HC
                have er : (r == r) = true := by simp
                have q0 : wr.cell? ⟨w1.heap.size + 1, 0, none⟩ = some (.bool false) := cell_of_row _ _ 0 _ _ _ HP4.out.bt
                have q1 : wr.cell? ⟨w1.heap.size + 1, 1, none⟩ = some (.bool false) := cell_of_row _ _ 1 _ _ _ HP4.out.bt
                have q2 : wr.cell? ⟨w1.heap.size + 1, 2, none⟩ = some (.bool false) := cell_of_row _ _ 2 _ _ _ HP4.out.bt
                have q3 : wr.cell? ⟨w1.heap.size + 1, 3, none⟩ = some (.bool false) := cell_of_row _ _ 3 _ _ _ HP4.out.bt
                have q4 : wr.cell? ⟨w1.heap.size + 1, 4, none⟩ = some (.slice none 0 0) := cell_of_row _ _ 4 _ _ _ HP4.out.bt
                have q5 : wr.cell? ⟨w1.heap.size + 1, 5, none⟩ = some (.bool false) := cell_of_row _ _ 5 _ _ _ HP4.out.bt
                have q6 : wr.cell? ⟨w1.heap.size + 1, 6, none⟩ = some (.slice none 0 0) := cell_of_row _ _ 6 _ _ _ HP4.out.bt
                have q7 : wr.cell? ⟨w1.heap.size + 1, 7, none⟩ = some (.slice (some ⟨w1.heap.size, 0, none⟩) 1 1) := cell_of_row _ _ 7 _ _ _ HP4.out.bt
                have q8 : wr.cell? ⟨w1.heap.size + 1, 8, none⟩ = some (.slice none 0 0) := cell_of_row _ _ 8 _ _ _ HP4.out.bt
                clear HR HE
                go_wp2_with fail
                refine HC.out.mono ?_
                rintro e w5 ⟨rfl, hq⟩
                have HB5 := Hid.mk (HP4.out.keep hq).below
                clear hq q0 q1 q2 q3 q4 q5 q6 q7 q8 HC
                go_wp2_with fail
                go_ret
                exact ⟨by first | rfl | simp, HB5.out⟩

end Go.Proofs.YtapjfocjeligiaaGreatDoor
