import Derived.Test.YtapjfocjeligiaaGreatDoorM37
import Derived.Test.YtapjfocjeligiaaGreatDoorM38
import Derived.Test.YtapjfocjeligiaaGreatDoorM36
namespace Go.Proofs.YtapjfocjeligiaaGreatDoor
open Go.RowKit Go.Shelf Go.Sort
set_option linter.unusedVariables false
set_option linter.unusedSimpArgs false
attribute [local go_sem] Oper.semAt_some

theorem w_vText (s : ByteArray) (w : World) (hs : s.size ≤ 140737488355328) : Calls Tryz.prog 33 #[.agg #[.int .i64 4, .string ⟨#[]⟩, .string s, .slice none 0 0, .slice none 0 0]] w fun e w' => e = .returned (.bool (okB s.data.toList)) ∧ Below w.heap.size w w' := by
  have hI : InH w 1 (VT.mk 4 .empty s [] []) (.agg #[.int .i64 4, .string ⟨#[]⟩, .string s, .slice none 0 0, .slice none 0 0]) :=
    ⟨none, 0, none, 0, rfl, Nat.zero_le _, hs, Nat.zero_le _, Nat.zero_le _, Nat.le_refl _, Nat.le_refl _, fun k hk => absurd hk (List.not_mem_nil), ⟨fun h => absurd h (Nat.lt_irrefl 0)⟩, fun h => absurd h (Nat.lt_irrefl 0)⟩
  have h1 := w_vFormed 1 (VT.mk 4 .empty s [] []) _ w hI
  have e1 : formN 1 (VT.mk 4 .empty s [] []) = okB s.data.toList := by
    show formV 4 .empty s 0 0 true true = _
    have e2 : bareB .empty .empty 0 0 = true := by simp [bareB, Lib.toList_data]
    unfold formV
    rw [if_neg (by omega), if_neg (by omega), if_pos rfl, e2, Bool.and_true]
  rw [e1] at h1
  exact h1

set_option maxRecDepth 100000 in
set_option maxHeartbeats 3200000 in
theorem w_sRising (ko : Option Addr) (K kcap : Nat) (keys : List ByteArray) (w : World) (hk : KIn w ko keys) (hK : keys.length = K) (hcap : K ≤ kcap) (hK2 : K ≤ 140737488355328) (hs : ∀ k ∈ keys, k.size ≤ 140737488355328) :
    Calls Tryz.prog 102 #[.slice ko K kcap] w fun e w' => e = .returned (.bool (rK keys K && oK keys K)) ∧ Below w.heap.size w w' := by
  have HK := Hid.mk hk
  have HKK := Hid.mk hK
  have HSz := Hid.mk (fun i (hi : i < keys.length) => key_size hs hi)
  clear hk hK hs
  go_enter Tryz.func102, Tryz.ntmps102
  go_wp2_with fail
  go_loopw [7] (fun i wr => ∃ k : Nat, k ≤ K ∧ i = .int .i64 (k : Int) ∧ Hid (Below w.heap.size w wr) ∧ Hid (rK keys k = true ∧ oK keys k = true)) (fun i _ => K - (intOf i).toNat)
  case atStart => exact ⟨0, Nat.zero_le _, rfl, Below.refl _ _, rfl, rfl⟩
  case round =>
    obtain ⟨k, hk, rfl, HB, HQ⟩ := hrel
    by_cases hlt : k < K
    · have hl1 : (k : Int) < (K : Int) := by omega
      have hl0 : (0 : Int) ≤ (k : Int) := by omega
      have hkl : k < keys.length := by rw [HKK.out]; exact hlt
      obtain ⟨b, off, hko, hbl, hrow⟩ := (HK.out.keep HB.out).row (by omega)
      subst hko
      have c0 := hrow k hkl
      have HC := Hid.mk (fun u => w_vText (keys.getD k .empty) u (HSz.out k hkl))
      have HUr := Hid.mk (rK_up keys k)
      have HUo := Hid.mk (oK_up keys k)
      have HNo := Hid.mk (fun h => oK_no (keys := keys) (k := k) (N := K) hlt h)
      by_cases hk0 : k = 0
      · subst hk0
        clear hrow hbl hkl
        simp only [Nat.add_zero] at c0
        generalize keys.getD 0 ByteArray.empty = s at *
        cases hf : okB s.data.toList with
        | true =>
          rw [hf] at HC
          have HN : Hid (rK keys (0 + 1) = true ∧ oK keys (0 + 1) = true) := ⟨by rw [HUr.out, HQ.out.1]; rfl, by rw [HUo.out, HQ.out.2, hf]; rfl⟩
          clear hf HUr HUo HNo
          go_wp2_with fail
          refine (HC.out _).mono ?_
          rintro e w2 ⟨rfl, hb2⟩
          have HB2 := Hid.mk (HB.out.trans (hb2.mono HB.out.size))
          clear hb2 c0
          go_wp2_with fail
          go_roundw
          case rel => exact ⟨0 + 1, hlt, by go_num, HB2, HN⟩
          case measure => simp [intOf]; omega
        | false =>
          rw [hf] at HC
          have HF : Hid ((rK keys K && oK keys K) = false) := by show _ = _; rw [HNo.out hf, Bool.and_false]
          clear hf HUr HUo HNo
          go_wp2_with fail
          refine (HC.out _).mono ?_
          rintro e w2 ⟨rfl, hb2⟩
          have HB2 := Hid.mk (HB.out.trans (hb2.mono HB.out.size))
          clear hb2 c0
          go_wp2_with fail
          go_ret
          exact ⟨by rw [HF.out]; rfl, HB2.out⟩
      · have hk1 : (0 : Int) < (k : Int) := by omega
        obtain ⟨j, rfl⟩ : ∃ j, k = j + 1 := ⟨k - 1, by omega⟩
        have c1 := hrow j (by omega)
        have hj0 : (0 : Int) ≤ (j : Int) := by omega
        have hj1 : (j : Int) < (K : Int) := by omega
        have ej : ((j + 1 : Nat) : Int) - 1 = (j : Int) := by omega
        have HRa : Hid (rA keys (j + 1) = Op.bytesLess (keys.getD j .empty).toList (keys.getD (j + 1) .empty).toList) := rfl
        have HNr := Hid.mk (fun h => rK_no (keys := keys) (k := j + 1) (N := K) hlt (by omega) h)
        clear hrow hbl hkl hk0
        generalize keys.getD j ByteArray.empty = p at *
        generalize keys.getD (j + 1) ByteArray.empty = s at *
        cases hr : Op.bytesLess p.toList s.toList with
        | false =>
          have HF : Hid ((rK keys K && oK keys K) = false) := by show _ = _; rw [HNr.out (by rw [HRa.out, hr]), Bool.false_and]
          clear HUr HUo HNo HNr
          go_wp2_with fail
          go_ret
          exact ⟨by rw [HF.out]; rfl, HB.out⟩
        | true =>
          cases hf : okB s.data.toList with
          | true =>
            rw [hf] at HC
            have HN : Hid (rK keys (j + 1 + 1) = true ∧ oK keys (j + 1 + 1) = true) := ⟨by rw [HUr.out, HQ.out.1, HRa.out, hr]; simp, by rw [HUo.out, HQ.out.2, hf]; rfl⟩
            clear hf HUr HUo HNo HNr
            go_wp2_with fail
            refine (HC.out _).mono ?_
            rintro e w2 ⟨rfl, hb2⟩
            have HB2 := Hid.mk (HB.out.trans (hb2.mono HB.out.size))
            clear hb2 c0 c1
            go_wp2_with fail
            go_roundw
            case rel => exact ⟨j + 1 + 1, hlt, by go_num, HB2, HN⟩
            case measure => simp [intOf]; omega
          | false =>
            rw [hf] at HC
            have HF : Hid ((rK keys K && oK keys K) = false) := by show _ = _; rw [HNo.out hf, Bool.and_false]
            clear hf HUr HUo HNo HNr
            go_wp2_with fail
            refine (HC.out _).mono ?_
            rintro e w2 ⟨rfl, hb2⟩
            have HB2 := Hid.mk (HB.out.trans (hb2.mono HB.out.size))
            clear hb2 c0 c1
            go_wp2_with fail
            go_ret
            exact ⟨by rw [HF.out]; rfl, HB2.out⟩
    · have hl1 : ¬ (k : Int) < (K : Int) := by omega
      have HF : Hid ((rK keys K && oK keys K) = true) := by
        have hkK : k = K := by omega
        have := HQ.out
        rw [hkK] at this
        show _ = _
        rw [this.1, this.2]; rfl
      go_wp2_with fail
      go_ret
      exact ⟨by rw [HF.out]; rfl, HB.out⟩
end Go.Proofs.YtapjfocjeligiaaGreatDoor
namespace Go.Proofs.YtapjfocjeligiaaGreatDoor
open Go.RowKit Go.Shelf Go.Sort
set_option linter.unusedVariables false
set_option linter.unusedSimpArgs false
attribute [local go_sem] Oper.semAt_some

section
variable (b0 b1 b2 b3 : Bool) (no : Option Addr) (nn nc : Nat) (b5 : Bool) (xo : Option Addr) (nx xc : Nat) (ao : Option Addr) (NA ac : Nat) (oo : Option Addr) (NO oc : Nat) (w : World) (B : Nat)

set_option maxRecDepth 100000 in
set_option maxHeartbeats 1600000 in
theorem w_allAlone (hx : AskBx w B b0 b1 b2 b3 no nn nc b5 xo nx xc ao NA ac oo NO oc) (z1 : nn ≤ 140737488355328) (z2 : nx ≤ 140737488355328) (z3 : NA ≤ 140737488355328) (z4 : NO ≤ 140737488355328) :
    Calls Tryz.prog 75 #[.pointer (some ⟨B, 0, none⟩)] w fun e w' => e = .returned (.bool (!b0 || bareT b1 b2 b3 b5 nn nx NA NO)) ∧ Below w.heap.size w w' := by
  have HX := Hid.mk hx
  obtain ⟨q0, q1, q2, q3, q4, q5, q6, q7, q8⟩ := hx.nine
  simp only [Nat.zero_add] at q1 q2 q3 q4 q5 q6 q7 q8
  have HC := Hid.mk (fun u => never_p false b1 b2 b3 no nn nc b5 xo nx xc ao NA ac oo NO oc u z1 z2 z3 z4)
  simp only [Bool.not_false, Bool.true_and] at HC
  have HAl := Hid.mk (fun o => below1 w o)
  have qa : ∀ o, (w.alloc o).cell? ⟨B, 0, none⟩ = some (.bool b0) := fun o => ((below1 w o).cell (p := ⟨B, 0, none⟩) hx.lt).trans q0
  clear hx
  cases b0 with
  | false =>
    go_enter Tryz.func75, Tryz.ntmps75
    go_wp2_with fail
    go_ret
    exact ⟨by first | rfl | simp, HAl.out _⟩
  | true =>
    go_enter Tryz.func75, Tryz.ntmps75
    go_wp2_with fail
    refine (HC.out _).mono ?_
    rintro e w1 ⟨rfl, hb1⟩
    have HB1 := Hid.mk ((HAl.out (.cells #[.bool false, .bool b1, .bool b2, .bool b3, .slice no nn nc, .bool b5, .slice xo nx xc, .slice ao NA ac, .slice oo NO oc] 29)).trans (hb1.mono (by simp)))
    clear hb1 q0 q1 q2 q3 q4 q5 q6 q7 q8 qa
    go_wp2_with fail
    go_ret
    exact ⟨by first | rfl | simp, HB1.out⟩

set_option maxRecDepth 100000 in
set_option maxHeartbeats 1600000 in
theorem w_textsFormed (hx : AskBx w B b0 b1 b2 b3 no nn nc b5 xo nx xc ao NA ac oo NO oc) (z2 : nx ≤ 140737488355328) (ri : Bool) (HRi : Hid (∀ u, Below w.heap.size w u → Calls Tryz.prog 102 #[.slice xo nx xc] u fun e w' => e = .returned (.bool ri) ∧ Below u.heap.size u w')) :
    Calls Tryz.prog 77 #[.pointer (some ⟨B, 0, none⟩)] w fun e w' => e = .returned (.bool (ri && !(b5 && decide (0 < nx)))) ∧ Below w.heap.size w w' := by
  have HX := Hid.mk hx
  obtain ⟨q0, q1, q2, q3, q4, q5, q6, q7, q8⟩ := hx.nine
  simp only [Nat.zero_add] at q1 q2 q3 q4 q5 q6 q7 q8
  clear hx
  cases ri with
  | false =>
    go_enter Tryz.func77, Tryz.ntmps77
    go_wp2_with fail
    refine (HRi.out _ (Below.refl _ _)).mono ?_
    rintro e w1 ⟨rfl, hb1⟩
    have HB1 := Hid.mk hb1
    clear hb1 q0 q1 q2 q3 q4 q5 q6 q7 q8
    go_wp2_with fail
    go_ret
    exact ⟨by first | rfl | simp, HB1.out⟩
  | true =>
    by_cases hz : 0 < nx
    · have hz1 : (0 : Int) < (nx : Int) := by omega
      have hzd := decide_eq_true hz
      cases b5
      all_goals
        go_enter Tryz.func77, Tryz.ntmps77
        go_wp2_with fail
        refine (HRi.out _ (Below.refl _ _)).mono ?_
        rintro e w1 ⟨rfl, hb1⟩
        have HX1 := HX.out.keep hb1
        have HB1 := Hid.mk hb1
        clear hb1 q0 q1 q2 q3 q4 q5 q6 q7 q8
        obtain ⟨q0, q1, q2, q3, q4, q5, q6, q7, q8⟩ := HX1.nine
        simp only [Nat.zero_add] at q1 q2 q3 q4 q5 q6 q7 q8
        go_wp2_with fail
        go_ret
        exact ⟨by first | rfl | (simp [hz]; done) | simp [hzd], HB1.out⟩
    · have hz1 : ¬ (0 : Int) < (nx : Int) := by omega
      have hzd := decide_eq_false hz
      cases b5
      all_goals
        go_enter Tryz.func77, Tryz.ntmps77
        go_wp2_with fail
        refine (HRi.out _ (Below.refl _ _)).mono ?_
        rintro e w1 ⟨rfl, hb1⟩
        have HX1 := HX.out.keep hb1
        have HB1 := Hid.mk hb1
        clear hb1 q0 q1 q2 q3 q4 q5 q6 q7 q8
        obtain ⟨q0, q1, q2, q3, q4, q5, q6, q7, q8⟩ := HX1.nine
        simp only [Nat.zero_add] at q1 q2 q3 q4 q5 q6 q7 q8
        go_wp2_with fail
        go_ret
        exact ⟨by first | rfl | (simp [hz]; done) | simp [hzd], HB1.out⟩
end

set_option maxRecDepth 100000 in
set_option maxHeartbeats 1600000 in
theorem w_pbound (s : ByteArray) (w : World) (hs : s.size ≤ 140737488355328) : Calls Tryz.prog 101 #[.string s] w fun e w' => e = .returned (.bool (bndB s)) ∧ Below w.heap.size w w' := by
  have HC := Hid.mk (fun u => w_Formed s u (by unfold maxLen; omega))
  by_cases hz : s.size = 0
  · have hl := list_none hz
    have hb : bndB s = true := by simp [bndB, hz]
    rw [hb]
    go_enter Tryz.func101, Tryz.ntmps101
    go_wp2_with fail
    go_ret
    exact ⟨by first | rfl | simp, Below.refl _ _⟩
  · have hl := list_some hz
    have hl2 : s.toList.isEmpty = false := by cases hh : s.toList with | nil => exact absurd hh hl | cons => rfl
    have hb : bndB s = Pl.formed s.data.toList := by simp [bndB, hz]
    rw [hb]
    generalize Pl.formed s.data.toList = r at *
    go_enter Tryz.func101, Tryz.ntmps101
    go_wp2_with fail
    refine (HC.out _).mono ?_
    rintro e w1 ⟨rfl, hb1⟩
    have HB1 := Hid.mk hb1
    clear hb1
    go_wp2_with fail
    go_ret
    exact ⟨by first | rfl | (simp; done) | simp [hl], HB1.out⟩
end Go.Proofs.YtapjfocjeligiaaGreatDoor
namespace Go.Proofs.YtapjfocjeligiaaGreatDoor
open Go.RowKit Go.Shelf Go.Sort
set_option linter.unusedVariables false
set_option linter.unusedSimpArgs false
attribute [local go_sem] Oper.semAt_some

theorem sp_all (ps : List (ByteArray × ByteArray)) : (ps.all spOk && decide (ps.length ≤ 1)) = spB ps := by
  match ps with
  | [] => rfl
  | [p] => simp [spB]
  | _ :: _ :: _ => simp [spB]
theorem sp_cmp {lo hi : ByteArray} (h1 : bndB lo = true) (h2 : bndB hi = true) : (lo.size == 0 || (hi.size == 0 || decide (numC lo hi ≤ 0))) = !(decide (Pl.errN lo.data.toList hi.data.toList = 0) && decide (0 < Pl.cmpN lo.data.toList hi.data.toList)) := by
  have fn : ∀ {s : ByteArray}, s.size = 0 → Pl.formed s.data.toList = false := fun {s} h => by
    have : s.data.toList = [] := List.eq_nil_of_length_eq_zero (by rw [Array.length_toList]; exact h)
    rw [this]; rfl
  unfold Pl.errN
  by_cases e1 : lo.size = 0
  · rw [fn e1, e1]; rfl
  · by_cases e2 : hi.size = 0
    · rw [fn e2, e2, Bool.and_false]; simp
    · have f1 : Pl.formed lo.data.toList = true := by simpa [bndB, e1] using h1
      have f2 : Pl.formed hi.data.toList = true := by simpa [bndB, e2] using h2
      rw [f1, f2, beq_false_of_ne e1, beq_false_of_ne e2]
      show decide (Pl.cmpN lo.data.toList hi.data.toList ≤ 0) = _
      by_cases hc : 0 < Pl.cmpN lo.data.toList hi.data.toList
      · rw [decide_eq_true hc, decide_eq_false (by omega)]; rfl
      · rw [decide_eq_false hc, decide_eq_true (by omega)]; rfl

set_option maxRecDepth 100000 in
set_option maxHeartbeats 6400000 in
theorem w_numsFormed (b0 b1 b2 b3 : Bool) (no : Option Addr) (nn nc : Nat) (b5 : Bool) (xo : Option Addr) (nx xc : Nat) (ao : Option Addr) (NA ac : Nat) (oo : Option Addr) (NO oc : Nat) (w : World) (B : Nat) (hx : AskBx w B b0 b1 b2 b3 no nn nc b5 xo nx xc ao NA ac oo NO oc) (ps : List (ByteArray × ByteArray)) (hI : SpIn w no ps) (hN : ps.length = nn) (hc : nn ≤ nc) (z1 : nn ≤ 140737488355328) (hs : ∀ p ∈ ps, p.1.size ≤ 140737488355328 ∧ p.2.size ≤ 140737488355328) :
    Calls Tryz.prog 76 #[.pointer (some ⟨B, 0, none⟩)] w fun e w' => e = .returned (.bool (spB ps)) ∧ Below w.heap.size w w' := by
  rw [← sp_all, hN]
  have HX := Hid.mk hx
  have HI := Hid.mk hI
  have HN := Hid.mk hN
  have HS := Hid.mk hs
  obtain ⟨q0, q1, q2, q3, q4, q5, q6, q7, q8⟩ := (hx).nine
  simp only [Nat.zero_add] at q1 q2 q3 q4 q5 q6 q7 q8
  clear hx hI hN hs
  go_enter Tryz.func76, Tryz.ntmps76
  go_wp2_with fail
  clear q0 q1 q2 q3 q4 q5 q6 q7 q8
  go_loopw [12] (fun i wr => ∃ k : Nat, k ≤ nn ∧ i = .int .i64 (k : Int) ∧ Hid (Below w.heap.size w wr) ∧ Hid ((ps.take k).all spOk = true)) (fun i _ => nn - (intOf i).toNat)
  case atStart => exact ⟨0, Nat.zero_le _, rfl, Below.refl _ _, rfl⟩
  case round =>
    obtain ⟨k, hk, rfl, HB, HQ⟩ := hrel
    by_cases hlt : k < nn
    · have hl1 : (k : Int) < (nn : Int) := by omega
      have hl0 : (0 : Int) ≤ (k : Int) := by omega
      have hkl : k < ps.length := by rw [HN.out]; exact hlt
      obtain ⟨b, off, hso, hbl, hrow⟩ := (HI.out.keep HB.out).row (by omega)
      subst hso
      obtain ⟨c0, c1⟩ := hrow k hkl
      obtain ⟨y1, y2⟩ := HS.out _ (List.getElem_mem hkl)
      have HU := Hid.mk (zall_up (f := spOk) hkl)
      have HNo := Hid.mk (fun hh => zall_no (f := spOk) hkl hh)
      obtain ⟨p, hp⟩ : ∃ p, ps[k] = p := ⟨_, rfl⟩
      rw [hp] at c0 c1 y1 y2 HU HNo
      obtain ⟨lo, hi⟩ := p
      dsimp only at c0 c1 y1 y2
      have HG : Hid (spOk (lo, hi) = (bndB lo && (bndB hi && (lo.size == 0 || (hi.size == 0 || decide (numC lo hi ≤ 0)))))) := rfl
      have C0 := Hid.mk (fun u => w_pbound lo u y1)
      have C1 := Hid.mk (fun u => w_pbound hi u y2)
      have C2 := Hid.mk (fun u => w_Cmp lo hi u (by unfold maxLen; omega) (by unfold maxLen; omega))
      have HE := Hid.mk (fun h1 h2 => sp_cmp (lo := lo) (hi := hi) h1 h2)
      obtain ⟨X, hX⟩ : ∃ X, wr.heap.size = X := ⟨_, rfl⟩
      obtain ⟨V, hV⟩ : ∃ V, wr.alloc (.cells #[.string lo, .string hi] 23) = V := ⟨_, rfl⟩
      have HV : Hid (Below w.heap.size w V) := by rw [← hV]; exact HB.out.trans ((below1 wr _).mono HB.out.size)
      have HXl : Hid (X < V.heap.size) := by show _ < _; rw [← hV, ← hX]; simp
      have d0 : V.cell? ⟨X, 0, none⟩ = some (.string lo) := by rw [← hV, ← hX]; simp [go_sem]
      have d1 : V.cell? ⟨X, 1, none⟩ = some (.string hi) := by rw [← hV, ← hX]; simp [go_sem]
      clear hrow hbl hkl hp y1 y2
      cases e0 : bndB lo with
      | false =>
        have HF' : Hid ((ps.all spOk && decide (nn ≤ 1)) = false) := by show _ = _; rw [HNo.out (by rw [HG.out, e0]; rfl), Bool.false_and]
        rw [e0] at C0
        go_wp2_with fail
        refine (C0.out _).mono ?_
        rintro e u1 ⟨rfl, hq⟩
        have HV1 := Hid.mk (HV.out.trans (hq.mono HV.out.size))
        have HXl1 := Hid.mk (Nat.lt_of_lt_of_le HXl.out hq.size)
        have f0 := (hq.cell (p := ⟨_, _, _⟩) HXl.out).trans d0
        have f1 := (hq.cell (p := ⟨_, _, _⟩) HXl.out).trans d1
        clear hq d0 d1 c0 c1 hV hX
        have d0 := f0
        have d1 := f1
        clear f0 f1
        go_wp2_with fail
        go_ret
        exact ⟨by first | (rw [HF'.out]; rfl) | rw [HF'.out], HV1.out⟩
      | true =>
        cases e1 : bndB hi with
        | false =>
          have HF' : Hid ((ps.all spOk && decide (nn ≤ 1)) = false) := by show _ = _; rw [HNo.out (by rw [HG.out, e0, e1]; rfl), Bool.false_and]
          rw [e0] at C0
          rw [e1] at C1
          go_wp2_with fail
          refine (C0.out _).mono ?_
          rintro e u1 ⟨rfl, hq⟩
          have HV1 := Hid.mk (HV.out.trans (hq.mono HV.out.size))
          have HXl1 := Hid.mk (Nat.lt_of_lt_of_le HXl.out hq.size)
          have f0 := (hq.cell (p := ⟨_, _, _⟩) HXl.out).trans d0
          have f1 := (hq.cell (p := ⟨_, _, _⟩) HXl.out).trans d1
          clear hq d0 d1 c0 c1 hV hX
          have d0 := f0
          have d1 := f1
          clear f0 f1
          go_wp2_with fail
          refine (C1.out _).mono ?_
          rintro e u2 ⟨rfl, hq⟩
          have HV2 := Hid.mk (HV1.out.trans (hq.mono HV1.out.size))
          have HXl2 := Hid.mk (Nat.lt_of_lt_of_le HXl1.out hq.size)
          have f0 := (hq.cell (p := ⟨_, _, _⟩) HXl1.out).trans d0
          have f1 := (hq.cell (p := ⟨_, _, _⟩) HXl1.out).trans d1
          clear hq d0 d1
          have d0 := f0
          have d1 := f1
          clear f0 f1
          go_wp2_with fail
          go_ret
          exact ⟨by first | (rw [HF'.out]; rfl) | rw [HF'.out], HV2.out⟩
        | true =>
          have HE2 : Hid (spOk (lo, hi) = !(decide (Pl.errN lo.data.toList hi.data.toList = 0) && decide (0 < Pl.cmpN lo.data.toList hi.data.toList))) := by show _ = _; rw [HG.out, e0, e1, HE.out e0 e1]; rfl
          generalize Pl.errN lo.data.toList hi.data.toList = er at C2 HE2
          generalize Pl.cmpN lo.data.toList hi.data.toList = cc at C2 HE2
          rw [e0] at C0
          rw [e1] at C1
          clear e0 e1 HE HG
          by_cases h0 : er = 0
          · by_cases h1 : 0 < cc
            · have HF' : Hid ((ps.all spOk && decide (nn ≤ 1)) = false) := by show _ = _; rw [HNo.out (by rw [HE2.out, decide_eq_true h0, decide_eq_true h1]; rfl), Bool.false_and]
              subst h0
              go_wp2_with fail
              refine (C0.out _).mono ?_
              rintro e u1 ⟨rfl, hq⟩
              have HV1 := Hid.mk (HV.out.trans (hq.mono HV.out.size))
              have HXl1 := Hid.mk (Nat.lt_of_lt_of_le HXl.out hq.size)
              have f0 := (hq.cell (p := ⟨_, _, _⟩) HXl.out).trans d0
              have f1 := (hq.cell (p := ⟨_, _, _⟩) HXl.out).trans d1
              clear hq d0 d1 c0 c1 hV hX
              have d0 := f0
              have d1 := f1
              clear f0 f1
              go_wp2_with fail
              refine (C1.out _).mono ?_
              rintro e u2 ⟨rfl, hq⟩
              have HV2 := Hid.mk (HV1.out.trans (hq.mono HV1.out.size))
              have HXl2 := Hid.mk (Nat.lt_of_lt_of_le HXl1.out hq.size)
              have f0 := (hq.cell (p := ⟨_, _, _⟩) HXl1.out).trans d0
              have f1 := (hq.cell (p := ⟨_, _, _⟩) HXl1.out).trans d1
              clear hq d0 d1
              have d0 := f0
              have d1 := f1
              clear f0 f1
              go_wp2_with fail
              refine (C2.out _).mono ?_
              rintro e u3 ⟨rfl, hq⟩
              have HV3 := Hid.mk (HV2.out.trans (hq.mono HV2.out.size))
              have HXl3 := Hid.mk (Nat.lt_of_lt_of_le HXl2.out hq.size)
              have f0 := (hq.cell (p := ⟨_, _, _⟩) HXl2.out).trans d0
              have f1 := (hq.cell (p := ⟨_, _, _⟩) HXl2.out).trans d1
              clear hq d0 d1
              have d0 := f0
              have d1 := f1
              clear f0 f1
              go_wp2_with fail
              go_ret
              exact ⟨by first | (rw [HF'.out]; rfl) | rw [HF'.out], HV3.out⟩
            · have HU' : Hid ((ps.take (k + 1)).all spOk = true) := by show _ = _; rw [HU.out, HQ.out, HE2.out, decide_eq_true h0, decide_eq_false h1]; rfl
              subst h0
              go_wp2_with fail
              refine (C0.out _).mono ?_
              rintro e u1 ⟨rfl, hq⟩
              have HV1 := Hid.mk (HV.out.trans (hq.mono HV.out.size))
              have HXl1 := Hid.mk (Nat.lt_of_lt_of_le HXl.out hq.size)
              have f0 := (hq.cell (p := ⟨_, _, _⟩) HXl.out).trans d0
              have f1 := (hq.cell (p := ⟨_, _, _⟩) HXl.out).trans d1
              clear hq d0 d1 c0 c1 hV hX
              have d0 := f0
              have d1 := f1
              clear f0 f1
              go_wp2_with fail
              refine (C1.out _).mono ?_
              rintro e u2 ⟨rfl, hq⟩
              have HV2 := Hid.mk (HV1.out.trans (hq.mono HV1.out.size))
              have HXl2 := Hid.mk (Nat.lt_of_lt_of_le HXl1.out hq.size)
              have f0 := (hq.cell (p := ⟨_, _, _⟩) HXl1.out).trans d0
              have f1 := (hq.cell (p := ⟨_, _, _⟩) HXl1.out).trans d1
              clear hq d0 d1
              have d0 := f0
              have d1 := f1
              clear f0 f1
              go_wp2_with fail
              refine (C2.out _).mono ?_
              rintro e u3 ⟨rfl, hq⟩
              have HV3 := Hid.mk (HV2.out.trans (hq.mono HV2.out.size))
              have HXl3 := Hid.mk (Nat.lt_of_lt_of_le HXl2.out hq.size)
              have f0 := (hq.cell (p := ⟨_, _, _⟩) HXl2.out).trans d0
              have f1 := (hq.cell (p := ⟨_, _, _⟩) HXl2.out).trans d1
              clear hq d0 d1
              have d0 := f0
              have d1 := f1
              clear f0 f1
              go_wp2_with fail
              go_roundw
              case rel => exact ⟨k + 1, hlt, by go_num, HV3, HU'⟩
              case measure => simp [intOf]; omega
          · have HU' : Hid ((ps.take (k + 1)).all spOk = true) := by show _ = _; rw [HU.out, HQ.out, HE2.out, decide_eq_false h0]; rfl
            have h0b : (er == 0) = false := by simpa using h0
            go_wp2_with fail
            refine (C0.out _).mono ?_
            rintro e u1 ⟨rfl, hq⟩
            have HV1 := Hid.mk (HV.out.trans (hq.mono HV.out.size))
            have HXl1 := Hid.mk (Nat.lt_of_lt_of_le HXl.out hq.size)
            have f0 := (hq.cell (p := ⟨_, _, _⟩) HXl.out).trans d0
            have f1 := (hq.cell (p := ⟨_, _, _⟩) HXl.out).trans d1
            clear hq d0 d1 c0 c1 hV hX
            have d0 := f0
            have d1 := f1
            clear f0 f1
            go_wp2_with fail
            refine (C1.out _).mono ?_
            rintro e u2 ⟨rfl, hq⟩
            have HV2 := Hid.mk (HV1.out.trans (hq.mono HV1.out.size))
            have HXl2 := Hid.mk (Nat.lt_of_lt_of_le HXl1.out hq.size)
            have f0 := (hq.cell (p := ⟨_, _, _⟩) HXl1.out).trans d0
            have f1 := (hq.cell (p := ⟨_, _, _⟩) HXl1.out).trans d1
            clear hq d0 d1
            have d0 := f0
            have d1 := f1
            clear f0 f1
            go_wp2_with fail
            refine (C2.out _).mono ?_
            rintro e u3 ⟨rfl, hq⟩
            have HV3 := Hid.mk (HV2.out.trans (hq.mono HV2.out.size))
            have HXl3 := Hid.mk (Nat.lt_of_lt_of_le HXl2.out hq.size)
            have f0 := (hq.cell (p := ⟨_, _, _⟩) HXl2.out).trans d0
            have f1 := (hq.cell (p := ⟨_, _, _⟩) HXl2.out).trans d1
            clear hq d0 d1
            have d0 := f0
            have d1 := f1
            clear f0 f1
            go_wp2_with fail
            go_roundw
            case rel => exact ⟨k + 1, hlt, by go_num, HV3, HU'⟩
            case measure => simp [intOf]; omega
    · have hl1 : ¬ (k : Int) < (nn : Int) := by omega
      have HA : Hid (ps.all spOk = true) := by show _ = _; rw [← HQ.out, List.take_of_length_le (by rw [HN.out]; omega)]
      obtain ⟨q0, q1, q2, q3, q4, q5, q6, q7, q8⟩ := (HX.out.keep HB.out).nine
      simp only [Nat.zero_add] at q1 q2 q3 q4 q5 q6 q7 q8
      by_cases h1 : nn ≤ 1
      · have h1i : (nn : Int) ≤ 1 := by omega
        have HD := Hid.mk (decide_eq_true h1)
        clear h1
        go_wp2_with fail
        go_ret
        exact ⟨by first | (rw [HA.out, HD.out]; rfl) | (rw [HA.out]; rfl) | (simp [HA.out, HD.out]; done), HB.out⟩
      · have h1i : ¬ (nn : Int) ≤ 1 := by omega
        have HD := Hid.mk (decide_eq_false h1)
        clear h1
        go_wp2_with fail
        go_ret
        exact ⟨by first | (rw [HA.out, HD.out]; rfl) | (rw [HA.out]; rfl) | (simp [HA.out, HD.out]; done), HB.out⟩

set_option maxRecDepth 100000 in
set_option maxHeartbeats 6400000 in
theorem w_arraysFormed (h : Nat) (b0 b1 b2 b3 : Bool) (no : Option Addr) (nn nc : Nat) (b5 : Bool) (xo : Option Addr) (nx xc : Nat) (ao : Option Addr) (NA ac : Nat) (oo : Option Addr) (NO oc : Nat) (w : World) (B : Nat) (hx : AskBx w B b0 b1 b2 b3 no nn nc b5 xo nx xc ao NA ac oo NO oc) (rs : List AR) (hI : ArIn w h ao rs) (hN : rs.length = NA) (hc : NA ≤ ac) (z1 : NA ≤ 140737488355328) :
    Calls Tryz.prog 78 #[.pointer (some ⟨B, 0, none⟩)] w fun e w' => e = .returned (.bool (rs.all laOk && decide (NA ≤ 1))) ∧ Below w.heap.size w w' := by
  have HX := Hid.mk hx
  have HI := Hid.mk hI
  have HN := Hid.mk hN
  obtain ⟨q0, q1, q2, q3, q4, q5, q6, q7, q8⟩ := (hx).nine
  simp only [Nat.zero_add] at q1 q2 q3 q4 q5 q6 q7 q8
  clear hx hI hN
  go_enter Tryz.func78, Tryz.ntmps78
  go_wp2_with fail
  clear q0 q1 q2 q3 q4 q5 q6 q7 q8
  go_loopw [11] (fun i wr => ∃ k : Nat, k ≤ NA ∧ i = .int .i64 (k : Int) ∧ Hid (Below w.heap.size w wr) ∧ Hid ((rs.take k).all laOk = true)) (fun i _ => NA - (intOf i).toNat)
  case atStart => exact ⟨0, Nat.zero_le _, rfl, Below.refl _ _, rfl⟩
  case round =>
    obtain ⟨k, hk, rfl, HB, HQ⟩ := hrel
    by_cases hlt : k < NA
    · have hl1 : (k : Int) < (NA : Int) := by omega
      have hl0 : (0 : Int) ≤ (k : Int) := by omega
      have hkl : k < rs.length := by rw [HN.out]; exact hlt
      obtain ⟨b, off, hso, hbl, hrow⟩ := (HI.out.keep HB.out).row (by omega)
      subst hso
      obtain ⟨v0, v1, v2, v3, v4, v5, v6, v7, v8, hc9, m0, m1, hct⟩ := hrow k hkl
      have HU := Hid.mk (zall_up (f := laOk) hkl)
      have HNo := Hid.mk (fun hh => zall_no (f := laOk) hkl hh)
      have HG : Hid (laOk rs[k] = !(decide (rs[k].min < 0) || !(decide (rs[k].max = -1) || decide (rs[k].min ≤ rs[k].max)) || (rs[k].item.never != decide (rs[k].max = 0)))) := rfl
      have HC := Hid.mk (fun (u : World) (hu : Below wr.heap.size wr u) => w_pNever h rs[k].item _ u (hct.keep hu))
      obtain ⟨sa, sb, sc, sd, ⟨seo, sen, sec⟩, sf, ⟨sgo, sgn, sgc⟩, ⟨sio, sinn, sic⟩, ⟨sjo, sjn, sjc⟩, eshs⟩ := inT_shape hct
      simp only [Value.agg.injEq, Array.mk.injEq, List.cons.injEq, and_true] at eshs
      obtain ⟨rfl, rfl, rfl, rfl, rfl, rfl, rfl, rfl, rfl⟩ := eshs
      obtain ⟨c0, c1, c2, c3, c4, c5, c6, c7, c8⟩ := hc9
      generalize laOk rs[k] = la at HG HU HNo
      generalize rs[k].item.never = g at HC HG
      generalize rs[k].min = mn at *
      generalize rs[k].max = mx at *
      obtain ⟨X, hX⟩ : ∃ X, wr.heap.size = X := ⟨_, rfl⟩
      obtain ⟨V, hV⟩ : ∃ V, wr.alloc (.cells #[.bool sa, .bool sb, .bool sc, .bool sd, .slice seo sen sec, .bool sf, .slice sgo sgn sgc, .slice sio sinn sic, .slice sjo sjn sjc, .int .i64 mn, .int .i64 mx] 31) = V := ⟨_, rfl⟩
      have hb1 : Below wr.heap.size wr V := by rw [← hV]; exact below1 wr _
      have HV := Hid.mk (HB.out.trans (hb1.mono HB.out.size))
      have d0 : V.cell? ⟨X, 0, none⟩ = some (.bool sa) := by rw [← hV, ← hX]; simp [go_sem]
      have d1 : V.cell? ⟨X, 1, none⟩ = some (.bool sb) := by rw [← hV, ← hX]; simp [go_sem]
      have d2 : V.cell? ⟨X, 2, none⟩ = some (.bool sc) := by rw [← hV, ← hX]; simp [go_sem]
      have d3 : V.cell? ⟨X, 3, none⟩ = some (.bool sd) := by rw [← hV, ← hX]; simp [go_sem]
      have d4 : V.cell? ⟨X, 4, none⟩ = some (.slice seo sen sec) := by rw [← hV, ← hX]; simp [go_sem]
      have d5 : V.cell? ⟨X, 5, none⟩ = some (.bool sf) := by rw [← hV, ← hX]; simp [go_sem]
      have d6 : V.cell? ⟨X, 6, none⟩ = some (.slice sgo sgn sgc) := by rw [← hV, ← hX]; simp [go_sem]
      have d7 : V.cell? ⟨X, 7, none⟩ = some (.slice sio sinn sic) := by rw [← hV, ← hX]; simp [go_sem]
      have d8 : V.cell? ⟨X, 8, none⟩ = some (.slice sjo sjn sjc) := by rw [← hV, ← hX]; simp [go_sem]
      have d9 : V.cell? ⟨X, 9, none⟩ = some (.int .i64 mn) := by rw [← hV, ← hX]; simp [go_sem]
      have d10 : V.cell? ⟨X, 10, none⟩ = some (.int .i64 mx) := by rw [← hV, ← hX]; simp [go_sem]
      have HC2 := Hid.mk (fun (d : Nat) (os : Array Obj) => HC.out (grow (redrawn V d) os) (hb1.trans ((below_regrown V d os).mono hb1.size)))
      clear hrow hbl hkl hct hb1 HC
      have D0 := fun d os => cell_regrown d0 d os
      have D1 := fun d os => cell_regrown d1 d os
      have D2 := fun d os => cell_regrown d2 d os
      have D3 := fun d os => cell_regrown d3 d os
      have D4 := fun d os => cell_regrown d4 d os
      have D5 := fun d os => cell_regrown d5 d os
      have D6 := fun d os => cell_regrown d6 d os
      have D7 := fun d os => cell_regrown d7 d os
      have D8 := fun d os => cell_regrown d8 d os
      have D9 := fun d os => cell_regrown d9 d os
      have D10 := fun d os => cell_regrown d10 d os
      by_cases k6 : mx = -1
      · subst k6
        have k6d : decide ((-1 : Int) = -1) = true := by decide
        have k60 : decide ((-1 : Int) = 0) = false := by decide
        by_cases k1 : mn < 0
        · have k1d := decide_eq_true k1
          have HF' : Hid ((rs.all laOk && decide (NA ≤ 1)) = false) := by show _ = _; rw [HNo.out (by rw [HG.out, k1d, k6d, k60]; first | rfl | simp), Bool.false_and]
          clear k6d k60
          go_wp2_with fail
          refine wp_region_quiet_below (by kernel_rfl) (by kernel_rfl) ?_
          repeat (go_big_quiet_step (exact Calls.regrown_of (HC2.out _ _)))
          refine wpQuiet_nil ?_
          intro w9 hw'
          have hb9 : Below V.heap.size V w9 := by
            obtain ⟨⟨dq, osq⟩, rfl⟩ := hw'
            exact below_regrown V dq osq
          have HW9 := Hid.mk (HV.out.trans (hb9.mono HV.out.size))
          clear hw' hb9 hV hX D0 d0 D1 d1 D2 d2 D3 d3 D4 d4 D5 d5 D6 d6 D7 d7 D8 d8 D9 d9 D10 d10
          go_wp2_with fail
          go_ret
          exact ⟨by first | (rw [HF'.out]; rfl) | rw [HF'.out], HW9.out⟩
        · have k1d := decide_eq_false k1
          cases g with
          | false =>
            have HU' : Hid ((rs.take (k + 1)).all laOk = true) := by show _ = _; rw [HU.out, HQ.out, HG.out, k1d, k6d, k60]; rfl
            clear k6d k60
            go_wp2_with fail
            refine wp_region_quiet_below (by kernel_rfl) (by kernel_rfl) ?_
            repeat (go_big_quiet_step (exact Calls.regrown_of (HC2.out _ _)))
            refine wpQuiet_nil ?_
            intro w9 hw'
            have hb9 : Below V.heap.size V w9 := by
              obtain ⟨⟨dq, osq⟩, rfl⟩ := hw'
              exact below_regrown V dq osq
            have HW9 := Hid.mk (HV.out.trans (hb9.mono HV.out.size))
            clear hw' hb9 hV hX D0 d0 D1 d1 D2 d2 D3 d3 D4 d4 D5 d5 D6 d6 D7 d7 D8 d8 D9 d9 D10 d10
            go_wp2_with fail
            go_roundw
            case rel => exact ⟨k + 1, hlt, by go_num, HW9, HU'⟩
            case measure => simp [intOf]; omega
          | true =>
            have HF' : Hid ((rs.all laOk && decide (NA ≤ 1)) = false) := by show _ = _; rw [HNo.out (by rw [HG.out, k1d, k6d, k60]; first | rfl | simp), Bool.false_and]
            clear k6d k60
            go_wp2_with fail
            refine wp_region_quiet_below (by kernel_rfl) (by kernel_rfl) ?_
            repeat (go_big_quiet_step (exact Calls.regrown_of (HC2.out _ _)))
            refine wpQuiet_nil ?_
            intro w9 hw'
            have hb9 : Below V.heap.size V w9 := by
              obtain ⟨⟨dq, osq⟩, rfl⟩ := hw'
              exact below_regrown V dq osq
            have HW9 := Hid.mk (HV.out.trans (hb9.mono HV.out.size))
            clear hw' hb9 hV hX D0 d0 D1 d1 D2 d2 D3 d3 D4 d4 D5 d5 D6 d6 D7 d7 D8 d8 D9 d9 D10 d10
            go_wp2_with fail
            go_ret
            exact ⟨by first | (rw [HF'.out]; rfl) | rw [HF'.out], HW9.out⟩
      · have k6' : (mx == -1) = false := by simp [k6]
        have k6d := decide_eq_false k6
        by_cases k7 : mn ≤ mx
        · have k7d := decide_eq_true k7
          by_cases k1 : mn < 0
          · have k1d := decide_eq_true k1
            have HF' : Hid ((rs.all laOk && decide (NA ≤ 1)) = false) := by show _ = _; rw [HNo.out (by rw [HG.out, k1d, k6d, k7d]; first | rfl | simp), Bool.false_and]
            go_wp2_with fail
            refine wp_region_quiet_below (by kernel_rfl) (by kernel_rfl) ?_
            repeat (go_big_quiet_step (exact Calls.regrown_of (HC2.out _ _)))
            refine wpQuiet_nil ?_
            intro w9 hw'
            have hb9 : Below V.heap.size V w9 := by
              obtain ⟨⟨dq, osq⟩, rfl⟩ := hw'
              exact below_regrown V dq osq
            have HW9 := Hid.mk (HV.out.trans (hb9.mono HV.out.size))
            clear hw' hb9 hV hX D0 d0 D1 d1 D2 d2 D3 d3 D4 d4 D5 d5 D6 d6 D7 d7 D8 d8 D9 d9 D10 d10
            go_wp2_with fail
            go_ret
            exact ⟨by first | (rw [HF'.out]; rfl) | rw [HF'.out], HW9.out⟩
          · have k1d := decide_eq_false k1
            by_cases k5 : mx = 0
            · have k5d := decide_eq_true k5
              have k5' : (mx == 0) = true := by simp [k5]
              cases g with
              | false =>
                have HF' : Hid ((rs.all laOk && decide (NA ≤ 1)) = false) := by show _ = _; rw [HNo.out (by rw [HG.out, k1d, k5d, k6d, k7d]; first | rfl | simp), Bool.false_and]
                clear k5 k5d
                go_wp2_with fail
                refine wp_region_quiet_below (by kernel_rfl) (by kernel_rfl) ?_
                repeat (go_big_quiet_step (exact Calls.regrown_of (HC2.out _ _)))
                refine wpQuiet_nil ?_
                intro w9 hw'
                have hb9 : Below V.heap.size V w9 := by
                  obtain ⟨⟨dq, osq⟩, rfl⟩ := hw'
                  exact below_regrown V dq osq
                have HW9 := Hid.mk (HV.out.trans (hb9.mono HV.out.size))
                clear hw' hb9 hV hX D0 d0 D1 d1 D2 d2 D3 d3 D4 d4 D5 d5 D6 d6 D7 d7 D8 d8 D9 d9 D10 d10
                go_wp2_with fail
                go_ret
                exact ⟨by first | (rw [HF'.out]; rfl) | rw [HF'.out], HW9.out⟩
              | true =>
                have HU' : Hid ((rs.take (k + 1)).all laOk = true) := by show _ = _; rw [HU.out, HQ.out, HG.out, k1d, k5d, k6d, k7d]; rfl
                clear k5 k5d
                go_wp2_with fail
                refine wp_region_quiet_below (by kernel_rfl) (by kernel_rfl) ?_
                repeat (go_big_quiet_step (exact Calls.regrown_of (HC2.out _ _)))
                refine wpQuiet_nil ?_
                intro w9 hw'
                have hb9 : Below V.heap.size V w9 := by
                  obtain ⟨⟨dq, osq⟩, rfl⟩ := hw'
                  exact below_regrown V dq osq
                have HW9 := Hid.mk (HV.out.trans (hb9.mono HV.out.size))
                clear hw' hb9 hV hX D0 d0 D1 d1 D2 d2 D3 d3 D4 d4 D5 d5 D6 d6 D7 d7 D8 d8 D9 d9 D10 d10
                go_wp2_with fail
                go_roundw
                case rel => exact ⟨k + 1, hlt, by go_num, HW9, HU'⟩
                case measure => simp [intOf]; omega
            · have k5d := decide_eq_false k5
              have k5' : (mx == 0) = false := by simp [k5]
              cases g with
              | false =>
                have HU' : Hid ((rs.take (k + 1)).all laOk = true) := by show _ = _; rw [HU.out, HQ.out, HG.out, k1d, k5d, k6d, k7d]; rfl
                clear k5 k5d
                go_wp2_with fail
                refine wp_region_quiet_below (by kernel_rfl) (by kernel_rfl) ?_
                repeat (go_big_quiet_step (exact Calls.regrown_of (HC2.out _ _)))
                refine wpQuiet_nil ?_
                intro w9 hw'
                have hb9 : Below V.heap.size V w9 := by
                  obtain ⟨⟨dq, osq⟩, rfl⟩ := hw'
                  exact below_regrown V dq osq
                have HW9 := Hid.mk (HV.out.trans (hb9.mono HV.out.size))
                clear hw' hb9 hV hX D0 d0 D1 d1 D2 d2 D3 d3 D4 d4 D5 d5 D6 d6 D7 d7 D8 d8 D9 d9 D10 d10
                go_wp2_with fail
                go_roundw
                case rel => exact ⟨k + 1, hlt, by go_num, HW9, HU'⟩
                case measure => simp [intOf]; omega
              | true =>
                have HF' : Hid ((rs.all laOk && decide (NA ≤ 1)) = false) := by show _ = _; rw [HNo.out (by rw [HG.out, k1d, k5d, k6d, k7d]; first | rfl | simp), Bool.false_and]
                clear k5 k5d
                go_wp2_with fail
                refine wp_region_quiet_below (by kernel_rfl) (by kernel_rfl) ?_
                repeat (go_big_quiet_step (exact Calls.regrown_of (HC2.out _ _)))
                refine wpQuiet_nil ?_
                intro w9 hw'
                have hb9 : Below V.heap.size V w9 := by
                  obtain ⟨⟨dq, osq⟩, rfl⟩ := hw'
                  exact below_regrown V dq osq
                have HW9 := Hid.mk (HV.out.trans (hb9.mono HV.out.size))
                clear hw' hb9 hV hX D0 d0 D1 d1 D2 d2 D3 d3 D4 d4 D5 d5 D6 d6 D7 d7 D8 d8 D9 d9 D10 d10
                go_wp2_with fail
                go_ret
                exact ⟨by first | (rw [HF'.out]; rfl) | rw [HF'.out], HW9.out⟩
        · have k7d := decide_eq_false k7
          by_cases k1 : mn < 0
          · have k1d := decide_eq_true k1
            have HF' : Hid ((rs.all laOk && decide (NA ≤ 1)) = false) := by show _ = _; rw [HNo.out (by rw [HG.out, k1d, k6d, k7d]; first | rfl | simp), Bool.false_and]
            go_wp2_with fail
            refine wp_region_quiet_below (by kernel_rfl) (by kernel_rfl) ?_
            repeat (go_big_quiet_step (exact Calls.regrown_of (HC2.out _ _)))
            refine wpQuiet_nil ?_
            intro w9 hw'
            have hb9 : Below V.heap.size V w9 := by
              obtain ⟨⟨dq, osq⟩, rfl⟩ := hw'
              exact below_regrown V dq osq
            have HW9 := Hid.mk (HV.out.trans (hb9.mono HV.out.size))
            clear hw' hb9 hV hX D0 d0 D1 d1 D2 d2 D3 d3 D4 d4 D5 d5 D6 d6 D7 d7 D8 d8 D9 d9 D10 d10
            go_wp2_with fail
            go_ret
            exact ⟨by first | (rw [HF'.out]; rfl) | rw [HF'.out], HW9.out⟩
          · have k1d := decide_eq_false k1
            have HF' : Hid ((rs.all laOk && decide (NA ≤ 1)) = false) := by show _ = _; rw [HNo.out (by rw [HG.out, k1d, k6d, k7d]; first | rfl | simp), Bool.false_and]
            go_wp2_with fail
            refine wp_region_quiet_below (by kernel_rfl) (by kernel_rfl) ?_
            repeat (go_big_quiet_step (exact Calls.regrown_of (HC2.out _ _)))
            refine wpQuiet_nil ?_
            intro w9 hw'
            have hb9 : Below V.heap.size V w9 := by
              obtain ⟨⟨dq, osq⟩, rfl⟩ := hw'
              exact below_regrown V dq osq
            have HW9 := Hid.mk (HV.out.trans (hb9.mono HV.out.size))
            clear hw' hb9 hV hX D0 d0 D1 d1 D2 d2 D3 d3 D4 d4 D5 d5 D6 d6 D7 d7 D8 d8 D9 d9 D10 d10
            go_wp2_with fail
            go_ret
            exact ⟨by first | (rw [HF'.out]; rfl) | rw [HF'.out], HW9.out⟩
    · have hl1 : ¬ (k : Int) < (NA : Int) := by omega
      have HA : Hid (rs.all laOk = true) := by show _ = _; rw [← HQ.out, List.take_of_length_le (by rw [HN.out]; omega)]
      obtain ⟨q0, q1, q2, q3, q4, q5, q6, q7, q8⟩ := (HX.out.keep HB.out).nine
      simp only [Nat.zero_add] at q1 q2 q3 q4 q5 q6 q7 q8
      by_cases h1 : NA ≤ 1
      · have h1i : (NA : Int) ≤ 1 := by omega
        have HD := Hid.mk (decide_eq_true h1)
        clear h1
        go_wp2_with fail
        go_ret
        exact ⟨by first | (rw [HA.out, HD.out]; rfl) | (rw [HA.out]; rfl) | (simp [HA.out, HD.out]; done), HB.out⟩
      · have h1i : ¬ (NA : Int) ≤ 1 := by omega
        have HD := Hid.mk (decide_eq_false h1)
        clear h1
        go_wp2_with fail
        go_ret
        exact ⟨by first | (rw [HA.out, HD.out]; rfl) | (rw [HA.out]; rfl) | (simp [HA.out, HD.out]; done), HB.out⟩
end Go.Proofs.YtapjfocjeligiaaGreatDoor
namespace Go.Proofs.YtapjfocjeligiaaGreatDoor
open Go.RowKit Go.Shelf Go.Sort
set_option linter.unusedVariables false
set_option linter.unusedSimpArgs false
attribute [local go_sem] Oper.semAt_some


set_option maxRecDepth 100000 in
set_option maxHeartbeats 8000000 in
theorem w_objectsFormed (h : Nat) (b0 b1 b2 b3 : Bool) (no : Option Addr) (nn nc : Nat) (b5 : Bool) (xo : Option Addr) (nx xc : Nat) (ao : Option Addr) (NA ac : Nat) (oo : Option Addr) (NO oc : Nat) (w : World) (B : Nat) (hx : AskBx w B b0 b1 b2 b3 no nn nc b5 xo nx xc ao NA ac oo NO oc) (os : List OB) (hI : ObIn w h oo os) (hN : os.length = NO) (hc : NO ≤ oc) (z1 : NO ≤ 140737488355328) :
    Calls Tryz.prog 79 #[.pointer (some ⟨B, 0, none⟩)] w fun e w' => e = .returned (.bool (os.all loOk)) ∧ Below w.heap.size w w' := by
  have HX := Hid.mk hx
  have HI := Hid.mk hI
  have HN := Hid.mk hN
  obtain ⟨q0, q1, q2, q3, q4, q5, q6, q7, q8⟩ := (hx).nine
  simp only [Nat.zero_add] at q1 q2 q3 q4 q5 q6 q7 q8
  clear hx hI hN
  obtain ⟨R, hR⟩ : ∃ R, os.all loOk = R := ⟨_, rfl⟩
  have HR := Hid.mk hR
  rw [hR]
  clear hR
  go_enter Tryz.func79, Tryz.ntmps79
  go_wp2_with fail
  clear q0 q1 q2 q3 q4 q5 q6 q7 q8
  go_loopw [12] (fun i wr => ∃ k : Nat, k ≤ NO ∧ i = .int .i64 (k : Int) ∧ Hid (Below w.heap.size w wr) ∧ Hid ((os.take k).all loOk = true)) (fun i _ => NO - (intOf i).toNat)
  case atStart => exact ⟨0, Nat.zero_le _, rfl, Below.refl _ _, rfl⟩
  case round =>
    obtain ⟨k, hk, rfl, HB, HQ⟩ := hrel
    by_cases hlt : k < NO
    · have hl1 : (k : Int) < (NO : Int) := by omega
      have hl0 : (0 : Int) ≤ (k : Int) := by omega
      have hkl : k < os.length := by rw [HN.out]; exact hlt
      obtain ⟨b, off, hso, hbl, hrow⟩ := (HI.out.keep HB.out).row (by omega)
      subst hso
      obtain ⟨ko, kc, fo, fc, mo, mc, v0, v1, v2, v3, v4, v5, v6, v7, v8, ⟨g0, g1, g2⟩, hc9, hO⟩ := hrow k hkl
      have HU := Hid.mk (zall_up (f := loOk) hkl)
      have HNo : Hid (loOk os[k] = false → R = false) := fun hh => by rw [← HR.out]; exact zall_no hkl hh
      obtain ⟨o, ho⟩ : ∃ o, os[k] = o := ⟨_, rfl⟩
      rw [ho] at g0 g1 g2 hO HU HNo
      have HG : Hid (loOk o = (decide (o.fields.length = o.names.length) && (decide (o.must.length = o.names.length) && ((rK o.names o.names.length && oK o.names o.names.length) && (o.fields.zip o.must).all fun p => !(p.2 && p.1.never))))) := rfl
      have HRi := Hid.mk (fun (u : World) (hu : Below wr.heap.size wr u) => w_sRising ko o.names.length kc o.names u (hO.nm.keep hu) rfl hO.caps.1 hO.lens.1 hO.lens.2.2.2)
      have HO := Hid.mk hO
      obtain ⟨lk1, lk2, lk3⟩ := hO.caps
      obtain ⟨ls1, ls2, ls3, _⟩ := hO.lens
      obtain ⟨sa, sb, sc, sd, ⟨seo, sen, sec⟩, sf, ⟨sgo, sgn, sgc⟩, ⟨sio, sinn, sic⟩, ⟨sjo, sjn, sjc⟩, eshs⟩ := inT_shape hO.rest
      simp only [Value.agg.injEq, Array.mk.injEq, List.cons.injEq, and_true] at eshs
      obtain ⟨rfl, rfl, rfl, rfl, rfl, rfl, rfl, rfl, rfl⟩ := eshs
      obtain ⟨c0, c1, c2, c3, c4, c5, c6, c7, c8⟩ := hc9
      obtain ⟨K, hK⟩ : ∃ n, o.names.length = n := ⟨_, rfl⟩
      have HK := Hid.mk hK
      obtain ⟨F, hF⟩ : ∃ n, o.fields.length = n := ⟨_, rfl⟩
      have HF := Hid.mk hF
      obtain ⟨M, hM⟩ : ∃ n, o.must.length = n := ⟨_, rfl⟩
      have HM := Hid.mk hM
      rw [hK] at g0 HG HRi lk1 ls1
      rw [hF] at g1 HG lk2 ls2
      rw [hM] at g2 HG lk3 ls3
      generalize loOk o = lo at HG HU HNo
      obtain ⟨ri, hri⟩ : ∃ r, (rK o.names K && oK o.names K) = r := ⟨_, rfl⟩
      rw [hri] at HG HRi
      obtain ⟨X, hX⟩ : ∃ X, wr.heap.size = X := ⟨_, rfl⟩
      obtain ⟨V, hV⟩ : ∃ V, wr.alloc (.cells #[.slice ko K kc, .slice fo F fc, .slice mo M mc, .bool sa, .bool sb, .bool sc, .bool sd, .slice seo sen sec, .bool sf, .slice sgo sgn sgc, .slice sio sinn sic, .slice sjo sjn sjc] 60) = V := ⟨_, rfl⟩
      have hb1 : Below wr.heap.size wr V := by rw [← hV]; exact below1 wr _
      have HBV := Hid.mk hb1
      have HV := Hid.mk (HB.out.trans (hb1.mono HB.out.size))
      have HXl : Hid (X < V.heap.size) := by show _ < _; rw [← hV, ← hX]; simp
      have d0 : V.cell? ⟨X, 0, none⟩ = some (.slice ko K kc) := by rw [← hV, ← hX]; simp [go_sem]
      have d1 : V.cell? ⟨X, 1, none⟩ = some (.slice fo F fc) := by rw [← hV, ← hX]; simp [go_sem]
      have d2 : V.cell? ⟨X, 2, none⟩ = some (.slice mo M mc) := by rw [← hV, ← hX]; simp [go_sem]
      clear hrow hbl hkl hO hb1 hK hF hM hri ho
      by_cases l1 : F = K
      · subst l1
        by_cases l2 : M = F
        · subst l2
          cases ri with
          | false =>
            have HF' : Hid (R = false) := HNo.out (by rw [HG.out]; simp)
            go_wp2_with fail
            refine (HRi.out _ HBV.out).mono ?_
            rintro e u1 ⟨rfl, hq⟩
            have HV1 := Hid.mk (HV.out.trans (hq.mono HV.out.size))
            clear hq hV hX d0 d1 d2 g0 g1 g2 c0 c1 c2 c3 c4 c5 c6 c7 c8
            go_wp2_with fail
            go_ret
            exact ⟨by first | (rw [HF'.out]; rfl) | rw [HF'.out], HV1.out⟩
          | true =>
            obtain ⟨zs, hzs⟩ : ∃ zs, o.fields.zip o.must = zs := ⟨_, rfl⟩
            have HZL : Hid (zs.length = M) := by show _ = _; rw [← hzs, List.length_zip, HF.out, HM.out]; omega
            have HZ : Hid (∀ j, (hj : j < zs.length) → ∃ (h1 : j < o.fields.length) (h2 : j < o.must.length), zs[j] = (o.fields[j], o.must[j])) := by
              intro j hj
              subst hzs
              have := List.length_zip (l₁ := o.fields) (l₂ := o.must)
              exact ⟨by omega, by omega, by rw [List.getElem_zip]⟩
            have HG2 : Hid (lo = zs.all fun p => !(p.2 && p.1.never)) := by show _ = _; rw [HG.out, hzs]; simp
            clear hzs HG
            go_wp2_with fail
            refine (HRi.out _ HBV.out).mono ?_
            rintro e u1 ⟨rfl, hq⟩
            have HV1 := Hid.mk (HV.out.trans (hq.mono HV.out.size))
            have HW1 := Hid.mk (HBV.out.trans (hq.mono HBV.out.size))
            have HXl1 := Hid.mk (Nat.lt_of_lt_of_le HXl.out hq.size)
            have f1 := (hq.cell (p := ⟨_, _, _⟩) HXl.out).trans d1
            have f2 := (hq.cell (p := ⟨_, _, _⟩) HXl.out).trans d2
            clear hq hV hX d0 d1 d2 g0 g1 g2 c0 c1 c2 c3 c4 c5 c6 c7 c8
            go_wp2_with fail
            have HF2 := Hid.mk f2
            clear f1 f2
            go_loopw [41] (fun i u => ∃ j : Nat, j ≤ M ∧ i = .int .i64 (j : Int) ∧ Hid (Below wr.heap.size wr u) ∧ Hid (Below w.heap.size w u) ∧ Hid (X < u.heap.size) ∧ Hid (u.cell? ⟨X, 2, none⟩ = some (.slice mo M mc)) ∧ Hid ((zs.take j).all (fun p => !(p.2 && p.1.never)) = true)) (fun i _ => M - (intOf i).toNat)
            case atStart => exact ⟨0, Nat.zero_le _, rfl, HW1, HV1, HXl1, HF2, rfl⟩
            case round =>
              clear HW1 HV1 HXl1 HF2
              obtain ⟨j, hj, rfl, HWj, HVj, HXj, HFj, HQj⟩ := hrel
              have f2 := HFj.out
              by_cases hjt : j < M
              · have hj1 : (j : Int) < (M : Int) := by omega
                have hj0 : (0 : Int) ≤ (j : Int) := by omega
                have hjl : j < zs.length := by rw [HZL.out]; exact hjt
                obtain ⟨y1, y2, hz⟩ := HZ.out j hjl
                have hIk := HO.out.keep HWj.out
                obtain ⟨fb, foff, hfo, hfl, hfd⟩ := hIk.fd (by omega)
                subst hfo
                obtain ⟨e0, e1, e2, e3, e4, e5, e6, e7, e8, he9, het⟩ := hfd j y1
                obtain ⟨mb, moff, hmo, hml, hmd⟩ := hIk.ms.row (by omega)
                subst hmo
                have m0 := hmd j y2
                have HU2 : Hid ((zs.take (j + 1)).all (fun p => !(p.2 && p.1.never)) = !(o.must[j] && o.fields[j].never)) := by show _ = _; rw [zall_up hjl, HQj.out, hz]; rfl
                have HNo2 : Hid ((!(o.must[j] && o.fields[j].never)) = false → R = false) := fun hh => HNo.out (by rw [HG2.out]; exact zall_no hjl (by rw [hz]; exact hh))
                have HC := Hid.mk (fun (x : World) (hu : Below wr.heap.size wr x) => w_pNever h o.fields[j] _ x (het.keep hu))
                obtain ⟨ta, tb, tc, td, ⟨teo, ten, tec⟩, tf, ⟨tgo, tgn, tgc⟩, ⟨tio, tinn, tic⟩, ⟨tjo, tjn, tjc⟩, esht⟩ := inT_shape het
                simp only [Value.agg.injEq, Array.mk.injEq, List.cons.injEq, and_true] at esht
                obtain ⟨rfl, rfl, rfl, rfl, rfl, rfl, rfl, rfl, rfl⟩ := esht
                obtain ⟨q0, q1, q2, q3, q4, q5, q6, q7, q8⟩ := he9
                generalize o.fields[j].never = fv at HC HU2 HNo2
                generalize o.must[j] = fm at m0 HU2 HNo2
                obtain ⟨Y, hY⟩ : ∃ Y, wr.heap.size = Y := ⟨_, rfl⟩
                obtain ⟨U, hU⟩ : ∃ U, wr.alloc (.cells #[.bool ta, .bool tb, .bool tc, .bool td, .slice teo ten tec, .bool tf, .slice tgo tgn tgc, .slice tio tinn tic, .slice tjo tjn tjc] 29) = U := ⟨_, rfl⟩
                have hb2 : Below wr.heap.size wr U := by rw [← hU]; exact below1 wr _
                have HB2 := Hid.mk hb2
                have f2u := (hb2.cell (p := ⟨_, _, _⟩) HXj.out).trans f2
                have m0u := (hb2.cell (p := ⟨_, _, _⟩) hml).trans m0
                have d0 : U.cell? ⟨Y, 0, none⟩ = some (.bool ta) := by rw [← hU, ← hY]; simp [go_sem]
                have d1 : U.cell? ⟨Y, 1, none⟩ = some (.bool tb) := by rw [← hU, ← hY]; simp [go_sem]
                have d2 : U.cell? ⟨Y, 2, none⟩ = some (.bool tc) := by rw [← hU, ← hY]; simp [go_sem]
                have d3 : U.cell? ⟨Y, 3, none⟩ = some (.bool td) := by rw [← hU, ← hY]; simp [go_sem]
                have d4 : U.cell? ⟨Y, 4, none⟩ = some (.slice teo ten tec) := by rw [← hU, ← hY]; simp [go_sem]
                have d5 : U.cell? ⟨Y, 5, none⟩ = some (.bool tf) := by rw [← hU, ← hY]; simp [go_sem]
                have d6 : U.cell? ⟨Y, 6, none⟩ = some (.slice tgo tgn tgc) := by rw [← hU, ← hY]; simp [go_sem]
                have d7 : U.cell? ⟨Y, 7, none⟩ = some (.slice tio tinn tic) := by rw [← hU, ← hY]; simp [go_sem]
                have d8 : U.cell? ⟨Y, 8, none⟩ = some (.slice tjo tjn tjc) := by rw [← hU, ← hY]; simp [go_sem]
                have HWn := Hid.mk (HWj.out.trans (hb2.mono HWj.out.size))
                have HVn := Hid.mk (HVj.out.trans (hb2.mono HVj.out.size))
                have HXn := Hid.mk (Nat.lt_of_lt_of_le HXj.out hb2.size)
                have HFn := Hid.mk f2u
                clear hIk hfd het hmd y1 y2 hz hjl hb2 HQj
                cases fm with
                | false =>
                  have HU' : Hid ((zs.take (j + 1)).all (fun p => !(p.2 && p.1.never)) = true) := by show _ = _; rw [HU2.out]; rfl
                  go_wp2_with fail
                  go_roundw
                  case rel => exact ⟨j + 1, hjt, by go_num, HWn, HVn, HXn, HFn, HU'⟩
                  case measure => simp [intOf]; omega
                | true =>
                  cases fv with
                  | false =>
                    have HU' : Hid ((zs.take (j + 1)).all (fun p => !(p.2 && p.1.never)) = true) := by show _ = _; rw [HU2.out]; rfl
                    go_wp2_with fail
                    refine (HC.out _ HB2.out).mono ?_
                    rintro e u3 ⟨rfl, hq⟩
                    have HW3 := Hid.mk (HWn.out.trans (hq.mono HWn.out.size))
                    have HV3 := Hid.mk (HVn.out.trans (hq.mono HVn.out.size))
                    have HX3 := Hid.mk (Nat.lt_of_lt_of_le HXn.out hq.size)
                    have HF3 := Hid.mk ((hq.cell (p := ⟨_, _, _⟩) HXn.out).trans HFn.out)
                    clear hq
                    clear hU hY f2 f2u m0 m0u q0 q1 q2 q3 q4 q5 q6 q7 q8 d0 d1 d2 d3 d4 d5 d6 d7 d8
                    go_wp2_with fail
                    go_roundw
                    case rel => exact ⟨j + 1, hjt, by go_num, HW3, HV3, HX3, HF3, HU'⟩
                    case measure => simp [intOf]; omega
                  | true =>
                    have HF' : Hid (R = false) := HNo2.out (by rfl)
                    go_wp2_with fail
                    refine (HC.out _ HB2.out).mono ?_
                    rintro e u3 ⟨rfl, hq⟩
                    have HW3 := Hid.mk (HWn.out.trans (hq.mono HWn.out.size))
                    have HV3 := Hid.mk (HVn.out.trans (hq.mono HVn.out.size))
                    have HX3 := Hid.mk (Nat.lt_of_lt_of_le HXn.out hq.size)
                    have HF3 := Hid.mk ((hq.cell (p := ⟨_, _, _⟩) HXn.out).trans HFn.out)
                    clear hq
                    clear hU hY f2 f2u m0 m0u q0 q1 q2 q3 q4 q5 q6 q7 q8 d0 d1 d2 d3 d4 d5 d6 d7 d8
                    go_wp2_with fail
                    go_ret
                    exact ⟨by first | (rw [HF'.out]; rfl) | rw [HF'.out], HV3.out⟩
              · have hj1 : ¬ (j : Int) < (M : Int) := by omega
                have HU' : Hid ((os.take (k + 1)).all loOk = true) := by
                  have h1 := HQj.out
                  rw [List.take_of_length_le (by rw [HZL.out]; omega)] at h1
                  show _ = _
                  rw [HU.out, HQ.out, HG2.out, h1]; rfl
                go_wp2_with fail
                go_roundw
                case rel => exact ⟨k + 1, hlt, by go_num, HVj, HU'⟩
                case measure => simp [intOf]; omega
        · have l2i : ¬ (M : Int) = (F : Int) := by omega
          have HF' : Hid (R = false) := HNo.out (by rw [HG.out, decide_eq_false l2]; simp)
          go_wp2_with fail
          go_ret
          exact ⟨by first | (rw [HF'.out]; rfl) | rw [HF'.out], HV.out⟩
      · have l1i : ¬ (F : Int) = (K : Int) := by omega
        have HF' : Hid (R = false) := HNo.out (by rw [HG.out, decide_eq_false l1]; simp)
        go_wp2_with fail
        go_ret
        exact ⟨by first | (rw [HF'.out]; rfl) | rw [HF'.out], HV.out⟩
    · have hl1 : ¬ (k : Int) < (NO : Int) := by omega
      have HF' : Hid (R = true) := by show _ = _; rw [← HR.out, ← HQ.out, List.take_of_length_le (by rw [HN.out]; omega)]
      go_wp2_with fail
      go_ret
      exact ⟨by first | (rw [HF'.out]; rfl) | rw [HF'.out], HB.out⟩
end Go.Proofs.YtapjfocjeligiaaGreatDoor
namespace Go.Proofs.YtapjfocjeligiaaGreatDoor
open Go.RowKit Go.Shelf Go.Sort
set_option linter.unusedVariables false
set_option linter.unusedSimpArgs false
attribute [local go_sem] Oper.semAt_some

set_option maxRecDepth 100000 in
theorem rul_ix0 (B : Nat) (u : World) : (Instr.index 90 (.agg #[.func (.func 75) #[.pointer (some ⟨B, 0, none⟩)] #[], .func (.func 76) #[.pointer (some ⟨B, 0, none⟩)] #[], .func (.func 77) #[.pointer (some ⟨B, 0, none⟩)] #[], .func (.func 78) #[.pointer (some ⟨B, 0, none⟩)] #[], .func (.func 79) #[.pointer (some ⟨B, 0, none⟩)] #[]]) (.int .i64 0)).run Tryz.prog u = .ok (.func (.func 75) #[.pointer (some ⟨B, 0, none⟩)] #[]) u := by kernel_rfl
set_option maxRecDepth 100000 in
theorem rul_ix1 (B : Nat) (u : World) : (Instr.index 90 (.agg #[.func (.func 75) #[.pointer (some ⟨B, 0, none⟩)] #[], .func (.func 76) #[.pointer (some ⟨B, 0, none⟩)] #[], .func (.func 77) #[.pointer (some ⟨B, 0, none⟩)] #[], .func (.func 78) #[.pointer (some ⟨B, 0, none⟩)] #[], .func (.func 79) #[.pointer (some ⟨B, 0, none⟩)] #[]]) (.int .i64 1)).run Tryz.prog u = .ok (.func (.func 76) #[.pointer (some ⟨B, 0, none⟩)] #[]) u := by kernel_rfl
set_option maxRecDepth 100000 in
theorem rul_ix2 (B : Nat) (u : World) : (Instr.index 90 (.agg #[.func (.func 75) #[.pointer (some ⟨B, 0, none⟩)] #[], .func (.func 76) #[.pointer (some ⟨B, 0, none⟩)] #[], .func (.func 77) #[.pointer (some ⟨B, 0, none⟩)] #[], .func (.func 78) #[.pointer (some ⟨B, 0, none⟩)] #[], .func (.func 79) #[.pointer (some ⟨B, 0, none⟩)] #[]]) (.int .i64 2)).run Tryz.prog u = .ok (.func (.func 77) #[.pointer (some ⟨B, 0, none⟩)] #[]) u := by kernel_rfl
set_option maxRecDepth 100000 in
theorem rul_ix3 (B : Nat) (u : World) : (Instr.index 90 (.agg #[.func (.func 75) #[.pointer (some ⟨B, 0, none⟩)] #[], .func (.func 76) #[.pointer (some ⟨B, 0, none⟩)] #[], .func (.func 77) #[.pointer (some ⟨B, 0, none⟩)] #[], .func (.func 78) #[.pointer (some ⟨B, 0, none⟩)] #[], .func (.func 79) #[.pointer (some ⟨B, 0, none⟩)] #[]]) (.int .i64 3)).run Tryz.prog u = .ok (.func (.func 78) #[.pointer (some ⟨B, 0, none⟩)] #[]) u := by kernel_rfl
set_option maxRecDepth 100000 in
theorem rul_ix4 (B : Nat) (u : World) : (Instr.index 90 (.agg #[.func (.func 75) #[.pointer (some ⟨B, 0, none⟩)] #[], .func (.func 76) #[.pointer (some ⟨B, 0, none⟩)] #[], .func (.func 77) #[.pointer (some ⟨B, 0, none⟩)] #[], .func (.func 78) #[.pointer (some ⟨B, 0, none⟩)] #[], .func (.func 79) #[.pointer (some ⟨B, 0, none⟩)] #[]]) (.int .i64 4)).run Tryz.prog u = .ok (.func (.func 79) #[.pointer (some ⟨B, 0, none⟩)] #[]) u := by kernel_rfl
set_option maxRecDepth 100000 in
set_option maxHeartbeats 1600000 in
theorem w_rules (B : Nat) (w : World) : Calls Tryz.prog 56 #[.pointer (some ⟨B, 0, none⟩)] w fun e w' => e = .returned (.agg #[.func (.func 75) #[.pointer (some ⟨B, 0, none⟩)] #[], .func (.func 76) #[.pointer (some ⟨B, 0, none⟩)] #[], .func (.func 77) #[.pointer (some ⟨B, 0, none⟩)] #[], .func (.func 78) #[.pointer (some ⟨B, 0, none⟩)] #[], .func (.func 79) #[.pointer (some ⟨B, 0, none⟩)] #[]]) ∧ Below w.heap.size w w' := by
  have HB := Hid.mk (below1 w (.cells #[.func (.func 75) #[.pointer (some ⟨B, 0, none⟩)] #[], .func (.func 76) #[.pointer (some ⟨B, 0, none⟩)] #[], .func (.func 77) #[.pointer (some ⟨B, 0, none⟩)] #[], .func (.func 78) #[.pointer (some ⟨B, 0, none⟩)] #[], .func (.func 79) #[.pointer (some ⟨B, 0, none⟩)] #[]] 90))
  go_enter Tryz.func56, Tryz.ntmps56
  go_wp2_with fail
  (try simp only [Exit.inBlock, Exit.then])
  refine bodyPost_ret (v := .agg #[.func (.func 75) #[.pointer (some ⟨B, 0, none⟩)] #[], .func (.func 76) #[.pointer (some ⟨B, 0, none⟩)] #[], .func (.func 77) #[.pointer (some ⟨B, 0, none⟩)] #[], .func (.func 78) #[.pointer (some ⟨B, 0, none⟩)] #[], .func (.func 79) #[.pointer (some ⟨B, 0, none⟩)] #[]]) (by simp [results, Tryz.results56, go_sem]) rfl ?_
  exact ⟨rfl, HB.out⟩
theorem bool_split (a bb s t v o p : Bool) : ((!(a && !bb) && (s && (t && (v && o)))) && p) = ((!a || bb) && (s && (t && (v && (o && p))))) := by
  cases a <;> cases bb <;> cases s <;> cases t <;> cases v <;> cases o <;> cases p <;> rfl
theorem put_cell {W : World} {l b j : Nat} {o o' : Obj} {v : Value} (h : W.heap[l]? = some o) (hc : o.isCells = false) (hv : W.cell? ⟨b, j, none⟩ = some v) : (W.putObj l o').cell? ⟨b, j, none⟩ = some v := by
  have hne : b ≠ l := by
    rintro rfl
    unfold World.cell? at hv
    simp only [h] at hv
    cases o <;> simp_all [Obj.isCells]
  unfold World.cell? at hv ⊢
  rw [show (W.putObj l o').heap[b]? = W.heap[b]? from by simp [World.putObj, Array.getElem?_setIfInBounds, Ne.symm hne]]
  exact hv
theorem set_other (W : World) (b D : Nat) (hne : D ≠ b) (v : Value) : (W.setCell ⟨b, 0, none⟩ v).heap[D]? = W.heap[D]? := by
  exact Below.heap_setCell W ⟨b, 0, none⟩ v D hne
theorem ownFrom_pure {α : Type} (m : Nat) (p : α → Prop) : OwnFrom m (fun x (_ : World) => p x) := fun x A B row h _ _ => h
/-- Formed answers so -/
def FpOk (h : Nat) : Prop := ∀ (T : TT) (v : Value) (u : World), InT u h T v → Calls Tryz.prog 34 #[v] u fun e w' => e = .returned (.bool (fmN h T)) ∧ Below u.heap.size u w'
/-- what lies while Formed goes on: the box, the answer's cell, the asked one's box -/
structure FBx (w u : World) (b0 b1 b2 b3 : Bool) (no : Option Addr) (nn nc : Nat) (b5 : Bool) (xo : Option Addr) (nx xc : Nat) (ao : Option Addr) (NA ac : Nat) (oo : Option Addr) (NO oc : Nat) : Prop where
  below : Below w.heap.size w u
  box : C9 u w.heap.size 0 (.bool b0) (.bool b1) (.bool b2) (.bool b3) (.slice no nn nc) (.bool b5) (.slice xo nx xc) (.slice ao NA ac) (.slice oo NO oc)
  ans : Boxed u (w.heap.size + 1) 4 (.bool false)
  ask : AskBx u (w.heap.size + 1 + 1) b0 b1 b2 b3 no nn nc b5 xo nx xc ao NA ac oo NO oc
theorem FBx.keep {w u u' : World} {b0 b1 b2 b3 : Bool} {no : Option Addr} {nn nc : Nat} {b5 : Bool} {xo : Option Addr} {nx xc : Nat} {ao : Option Addr} {NA ac : Nat} {oo : Option Addr} {NO oc : Nat} (x : FBx w u b0 b1 b2 b3 no nn nc b5 xo nx xc ao NA ac oo NO oc) (hb : Below u.heap.size u u') : FBx w u' b0 b1 b2 b3 no nn nc b5 xo nx xc ao NA ac oo NO oc :=
  ⟨x.below.trans (hb.mono x.below.size), x.box.keep hb (by have := x.ask.lt; omega), tboxed_low x.ans hb, x.ask.keep hb⟩

set_option maxRecDepth 100000 in
set_option maxHeartbeats 8000000 in
theorem formed_step (h : Nat) (ih : FpOk h) (b0 b1 b2 b3 b5 : Bool) (no xo ao oo : Option Addr) (nn nc nx xc NA ac NO oc : Nat) (az : List (TT × Value)) (os : List (List (TT × Value) × (TT × Value))) (w : World)
    (lA : az.length = NA) (lO : os.length = NO) (hA : NA ≤ ac) (hO : NO ≤ oc) (hA2 : NA ≤ 140737488355328) (hO2 : NO ≤ 140737488355328) (hin : ∀ x ∈ partsT az os, InT w h x.1 x.2)
    (hst : ∀ (W : World) (B : Nat), Below w.heap.size w W → W.cell? ⟨B, 7, none⟩ = some (.slice ao NA ac) → W.cell? ⟨B, 8, none⟩ = some (.slice oo NO oc) → InTS W w.heap.size B ao ac oo oc az os) (r0 r1 r2 r3 r4 : Bool)
    (HR0 : Hid (∀ u B, Below w.heap.size w u → AskBx u B b0 b1 b2 b3 no nn nc b5 xo nx xc ao NA ac oo NO oc → Calls Tryz.prog 75 #[.pointer (some ⟨B, 0, none⟩)] u fun e w' => e = .returned (.bool r0) ∧ Below u.heap.size u w'))
    (HR1 : Hid (∀ u B, Below w.heap.size w u → AskBx u B b0 b1 b2 b3 no nn nc b5 xo nx xc ao NA ac oo NO oc → Calls Tryz.prog 76 #[.pointer (some ⟨B, 0, none⟩)] u fun e w' => e = .returned (.bool r1) ∧ Below u.heap.size u w'))
    (HR2 : Hid (∀ u B, Below w.heap.size w u → AskBx u B b0 b1 b2 b3 no nn nc b5 xo nx xc ao NA ac oo NO oc → Calls Tryz.prog 77 #[.pointer (some ⟨B, 0, none⟩)] u fun e w' => e = .returned (.bool r2) ∧ Below u.heap.size u w'))
    (HR3 : Hid (∀ u B, Below w.heap.size w u → AskBx u B b0 b1 b2 b3 no nn nc b5 xo nx xc ao NA ac oo NO oc → Calls Tryz.prog 78 #[.pointer (some ⟨B, 0, none⟩)] u fun e w' => e = .returned (.bool r3) ∧ Below u.heap.size u w'))
    (HR4 : Hid (∀ u B, Below w.heap.size w u → AskBx u B b0 b1 b2 b3 no nn nc b5 xo nx xc ao NA ac oo NO oc → Calls Tryz.prog 79 #[.pointer (some ⟨B, 0, none⟩)] u fun e w' => e = .returned (.bool r4) ∧ Below u.heap.size u w')) :
    Calls Tryz.prog 34 #[.agg #[.bool b0, .bool b1, .bool b2, .bool b3, .slice no nn nc, .bool b5, .slice xo nx xc, .slice ao NA ac, .slice oo NO oc]] w fun e w' => e = .returned (.bool (r0 && (r1 && (r2 && (r3 && (r4 && (partsT az os).all fun x => fmN h x.1)))))) ∧ Below w.heap.size w w' := by
  have hsh : ∀ x ∈ partsT az os, ShT x.2 := fun x hx => sh_of (hin x hx)
  have HIN := Hid.mk hin
  have HST := Hid.mk hst
  have HSH := Hid.mk hsh
  have HIH := Hid.mk ih
  have HLA := Hid.mk lA
  have HLO := Hid.mk lO
  clear hin hst hsh ih lA lO
  refine (callsIn_wide (n := 5)).1 ?_
  refine callsIn_of_wp_marks Tryz.func34 rfl trivial ?_ rfl
  simp only [Tryz.ntmps34, List.size_toArray, List.length_cons, List.length_nil, Nat.reduceAdd, Nat.reduceSub, Array.replicate_succ, Array.replicate_zero, List.push_toArray, List.append_toArray, List.nil_append, List.cons_append]
  have HIS : Hid (∀ u : World, Calls Tryz.prog 57 #[.agg #[.bool b0, .bool b1, .bool b2, .bool b3, .slice no nn nc, .bool b5, .slice xo nx xc, .slice ao NA ac, .slice oo NO oc]] u fun en w' => en = .returned (.func (.func 80) #[] #[.pointer (some ⟨u.heap.size, 0, none⟩)]) ∧ w' = u.alloc (.cells #[.bool b0, .bool b1, .bool b2, .bool b3, .slice no nn nc, .bool b5, .slice xo nx xc, .slice ao NA ac, .slice oo NO oc] 29)) := by
    intro u
    obtain ⟨a, e, h⟩ := w_insideT (.agg #[.bool b0, .bool b1, .bool b2, .bool b3, .slice no nn nc, .bool b5, .slice xo nx xc, .slice ao NA ac, .slice oo NO oc]) ⟨b0, b1, b2, b3, no, nn, nc, b5, xo, nx, xc, ao, NA, ac, oo, NO, oc, rfl⟩ u
    obtain rfl := Value.agg.inj e
    exact h
  obtain ⟨W0, hW0⟩ : ∃ W0, (((w.alloc (.cells #[.bool b0, .bool b1, .bool b2, .bool b3, .slice no nn nc, .bool b5, .slice xo nx xc, .slice ao NA ac, .slice oo NO oc] 29)).alloc (.cells #[.bool false] 4)).alloc (.cells #[.bool b0, .bool b1, .bool b2, .bool b3, .slice no nn nc, .bool b5, .slice xo nx xc, .slice ao NA ac, .slice oo NO oc] 89)) = W0 := ⟨_, rfl⟩
  have HF0 : Hid (FBx w W0 b0 b1 b2 b3 no nn nc b5 xo nx xc ao NA ac oo NO oc) := by
    rw [← hW0]
    refine ⟨(((Below.refl _ w).alloc (Nat.le_refl _) _).alloc (by simp) _).alloc (by simp; omega) _, ⟨by simp [go_sem], by simp [go_sem], by simp [go_sem], by simp [go_sem], by simp [go_sem], by simp [go_sem], by simp [go_sem], by simp [go_sem], by simp [go_sem]⟩, ?_, ⟨⟨by simp [go_sem], by simp [go_sem], by simp [go_sem], by simp [go_sem], by simp [go_sem], by simp [go_sem], by simp [go_sem], by simp [go_sem], by simp [go_sem]⟩, by simp⟩⟩
    have := (Boxed.new (w.alloc (.cells #[.bool b0, .bool b1, .bool b2, .bool b3, .slice no nn nc, .bool b5, .slice xo nx xc, .slice ao NA ac, .slice oo NO oc] 29)) 4 (.bool false)).alloc (.cells #[.bool b0, .bool b1, .bool b2, .bool b3, .slice no nn nc, .bool b5, .slice xo nx xc, .slice ao NA ac, .slice oo NO oc] 89)
    simpa only [World.size_alloc] using this
  gi_wp2_with fail
  refine ⟨trivial, (callsIn_wide.2 (w_rules _ _)).mono ?_⟩
  rintro e w1 ⟨rfl, hq⟩
  have HF1 := Hid.mk (HF0.out.keep hq)
  clear hq hW0 HF0
  gi_wp2_with fail
  refine wpIn_loop_rounds 6 ?_
  rw [roundsIn_succ]
  have ix := rul_ix0 (w.heap.size + 1 + 1)
  gi_wp2_with fail
  refine ⟨trivial, (callsIn_wide.2 (HR0.out _ _ HF1.out.below HF1.out.ask)).mono ?_⟩
  rintro e w2 ⟨rfl, hq⟩
  have HF2 := Hid.mk (HF1.out.keep hq)
  clear hq HF1 ix
  cases r0 with
  | false =>
    have a0 := HF2.out.ans.cell
    have a1 := HF2.out.ans.frozen
    gi_wp2_with fail
    have s0 := (HF2.out.ans.set (.bool false)).cell
    have sB := HF2.out.below.setCell (p := ⟨w.heap.size + 1, 0, none⟩) (by show _ ≤ w.heap.size + 1; omega) (.bool false)
    exact ⟨.bool false, by simp [results, Tryz.results34, go_sem, s0], by first | rfl | simp, sB⟩
  | true =>
    gi_wp2_with fail
    rw [roundsIn_succ]
    have ix := rul_ix1 (w.heap.size + 1 + 1)
    gi_wp2_with fail
    refine ⟨trivial, (callsIn_wide.2 (HR1.out _ _ HF2.out.below HF2.out.ask)).mono ?_⟩
    rintro e w3 ⟨rfl, hq⟩
    have HF3 := Hid.mk (HF2.out.keep hq)
    clear hq HF2 ix
    cases r1 with
    | false =>
      have a0 := HF3.out.ans.cell
      have a1 := HF3.out.ans.frozen
      gi_wp2_with fail
      have s0 := (HF3.out.ans.set (.bool false)).cell
      have sB := HF3.out.below.setCell (p := ⟨w.heap.size + 1, 0, none⟩) (by show _ ≤ w.heap.size + 1; omega) (.bool false)
      exact ⟨.bool false, by simp [results, Tryz.results34, go_sem, s0], by first | rfl | simp, sB⟩
    | true =>
      gi_wp2_with fail
      rw [roundsIn_succ]
      have ix := rul_ix2 (w.heap.size + 1 + 1)
      gi_wp2_with fail
      refine ⟨trivial, (callsIn_wide.2 (HR2.out _ _ HF3.out.below HF3.out.ask)).mono ?_⟩
      rintro e w4 ⟨rfl, hq⟩
      have HF4 := Hid.mk (HF3.out.keep hq)
      clear hq HF3 ix
      cases r2 with
      | false =>
        have a0 := HF4.out.ans.cell
        have a1 := HF4.out.ans.frozen
        gi_wp2_with fail
        have s0 := (HF4.out.ans.set (.bool false)).cell
        have sB := HF4.out.below.setCell (p := ⟨w.heap.size + 1, 0, none⟩) (by show _ ≤ w.heap.size + 1; omega) (.bool false)
        exact ⟨.bool false, by simp [results, Tryz.results34, go_sem, s0], by first | rfl | simp, sB⟩
      | true =>
        gi_wp2_with fail
        rw [roundsIn_succ]
        have ix := rul_ix3 (w.heap.size + 1 + 1)
        gi_wp2_with fail
        refine ⟨trivial, (callsIn_wide.2 (HR3.out _ _ HF4.out.below HF4.out.ask)).mono ?_⟩
        rintro e w5 ⟨rfl, hq⟩
        have HF5 := Hid.mk (HF4.out.keep hq)
        clear hq HF4 ix
        cases r3 with
        | false =>
          have a0 := HF5.out.ans.cell
          have a1 := HF5.out.ans.frozen
          gi_wp2_with fail
          have s0 := (HF5.out.ans.set (.bool false)).cell
          have sB := HF5.out.below.setCell (p := ⟨w.heap.size + 1, 0, none⟩) (by show _ ≤ w.heap.size + 1; omega) (.bool false)
          exact ⟨.bool false, by simp [results, Tryz.results34, go_sem, s0], by first | rfl | simp, sB⟩
        | true =>
          gi_wp2_with fail
          rw [roundsIn_succ]
          have ix := rul_ix4 (w.heap.size + 1 + 1)
          gi_wp2_with fail
          refine ⟨trivial, (callsIn_wide.2 (HR4.out _ _ HF5.out.below HF5.out.ask)).mono ?_⟩
          rintro e w6 ⟨rfl, hq⟩
          have HF6 := Hid.mk (HF5.out.keep hq)
          clear hq HF5 ix
          cases r4 with
          | false =>
            have a0 := HF6.out.ans.cell
            have a1 := HF6.out.ans.frozen
            gi_wp2_with fail
            have s0 := (HF6.out.ans.set (.bool false)).cell
            have sB := HF6.out.below.setCell (p := ⟨w.heap.size + 1, 0, none⟩) (by show _ ≤ w.heap.size + 1; omega) (.bool false)
            exact ⟨.bool false, by simp [results, Tryz.results34, go_sem, s0], by first | rfl | simp, sB⟩
          | true =>
            gi_wp2_with fail
            rw [roundsIn_succ]
            obtain ⟨t0, t1, t2, t3, t4, t5, t6, t7, t8⟩ := HF6.out.box
            simp only [Nat.zero_add] at t1 t2 t3 t4 t5 t6 t7 t8
            gi_wp2_with fail
            refine ⟨trivial, (callsIn_wide.2 (HIS.out _)).mono ?_⟩
            rintro e w7 ⟨rfl, rfl⟩
            gi_wp2_with fail
            obtain ⟨W7, hW7⟩ : ∃ W7, w6.alloc (.cells #[.bool b0, .bool b1, .bool b2, .bool b3, .slice no nn nc, .bool b5, .slice xo nx xc, .slice ao NA ac, .slice oo NO oc] 29) = W7 := ⟨_, rfl⟩
            have h6 := HF6.out.ask.lt
            have hb6 := HF6.out.below.size
            have hsz7 : W7.heap.size = w6.heap.size + 1 := by rw [← hW7]; simp
            have hB67 : Below w6.heap.size w6 W7 := by rw [← hW7]; exact below1 w6 _
            have hB7 : Below w.heap.size w W7 := HF6.out.below.trans (hB67.mono HF6.out.below.size)
            have bS : Boxed W7 (w.heap.size + 1) 4 (.bool false) := tboxed_low HF6.out.ans hB67
            have hS0 : InTS W7 w.heap.size w6.heap.size ao ac oo oc az os := HST.out W7 _ hB7 (by rw [← hW7]; simp [go_sem]) (by rw [← hW7]; simp [go_sem])
            rw [hW7]
            clear hW7 t0 t1 t2 t3 t4 t5 t6 t7 t8 hB67 HF6
            refine wpIn_rangeFunc_ownH rfl (by omega) (gf := 80) (lb := #[.pointer (some ⟨w6.heap.size, 0, none⟩)]) rfl trivial (enters_of Tryz.func80 (by kernel_rfl) rfl)
              (insideT_stops (5 - 1) (by omega) w.heap.size w6.heap.size W7.heap.size ao ac oo oc az os (by rw [HLA.out]; exact hA) (by rw [HLO.out]; exact hO) (by rw [HLA.out]; exact hA2) (by rw [HLO.out]; exact hO2) HSH.out W7 (by omega) (Nat.le_refl _) hS0) (fun h k => h.trans k) (KpT.put (by omega)) (Below.refl _ _) (fun _ => rfl)
              (fun pre W => (Boxed W (w.heap.size + 1) 4 (.bool false) ∧ Below w.heap.size w W) ∧ ∀ x ∈ pre, fmN h x.1.1 = true)
              (fun c pre W => (Boxed W (w.heap.size + 1) 4 (.bool false) ∧ Below w.heap.size w W) ∧ (c = .ret ∧ ((partsT az os).all fun x => fmN h x.1) = false))
              (OwnFrom.and (OwnFrom.and (Own.from (boxed_own _ _ _) _) (ownFrom_below (Nat.le_refl _) (by omega))) (ownFrom_pure _ _))
              (fun c => OwnFrom.and (OwnFrom.and (Own.from (boxed_own _ _ _) _) (ownFrom_below (Nat.le_refl _) (by omega))) (ownFrom_pure _ _))
              ⟨⟨bS, hB7⟩, fun x hx => absurd hx (List.not_mem_nil)⟩
              (fun x a' W => ∃ Bx, w.heap.size + 1 < Bx ∧ IB9 W Bx x.1.2 ∧ a' = { tmps := #[.agg #[.bool b0, .bool b1, .bool b2, .bool b3, .slice no nn nc, .bool b5, .slice xo nx xc, .slice ao NA ac, .slice oo NO oc], .pointer (some ⟨w.heap.size, 0, none⟩), .pointer (some ⟨w.heap.size + 1, 0, none⟩), .pointer (some ⟨w.heap.size + 1 + 1, 0, none⟩), undef, .func (.func 79) #[.pointer (some ⟨w.heap.size + 1 + 1, 0, none⟩)] #[], .pointer (some ⟨Bx, 0, none⟩), .agg #[.bool b0, .bool b1, .bool b2, .bool b3, .slice no nn nc, .bool b5, .slice xo nx xc, .slice ao NA ac, .slice oo NO oc], .agg #[.func (.func 75) #[.pointer (some ⟨w.heap.size + 1 + 1, 0, none⟩)] #[], .func (.func 76) #[.pointer (some ⟨w.heap.size + 1 + 1, 0, none⟩)] #[], .func (.func 77) #[.pointer (some ⟨w.heap.size + 1 + 1, 0, none⟩)] #[], .func (.func 78) #[.pointer (some ⟨w.heap.size + 1 + 1, 0, none⟩)] #[], .func (.func 79) #[.pointer (some ⟨w.heap.size + 1 + 1, 0, none⟩)] #[]], .int .i64 5, .bool false, .func (.func 79) #[.pointer (some ⟨w.heap.size + 1 + 1, 0, none⟩)] #[], .func (.func 79) #[.pointer (some ⟨w.heap.size + 1 + 1, 0, none⟩)] #[], .bool true, .bool false, .int .i64 5, .agg #[.bool b0, .bool b1, .bool b2, .bool b3, .slice no nn nc, .bool b5, .slice xo nx xc, .slice ao NA ac, .slice oo NO oc], .func (.func 80) #[] #[.pointer (some ⟨w6.heap.size, 0, none⟩)], x.1.2, undef, undef, undef], defers := [] })
              (fun x a' _ X Y row hs hg hr => by
                obtain ⟨Bx, h1, h2, h3⟩ := hs
                exact ⟨Bx, h1, ib9_own _ Bx x.1.2 () X Y row h2 hg hr, h3⟩)
              ?assign ?body ?done ?stop
            case assign =>
              rintro l pre x W KK ⟨⟨bS1, hB1⟩, hfo⟩ hKK
              obtain ⟨sa, sb, sc, sd, seo, sen, sec, sf, sgo, sgn, sgc, sio, sinn, sic, sjo, sjn, sjc, hsv⟩ := HSH.out x.1 x.2
              have hI : IB9 (W.alloc (.cells #[.bool sa, .bool sb, .bool sc, .bool sd, .slice seo sen sec, .bool sf, .slice sgo sgn sgc, .slice sio sinn sic, .slice sjo sjn sjc] 29)) W.heap.size x.1.2 := ⟨_, hsv, World.alloc_heap_new W _⟩
              have FIN := hKK { tmps := #[.agg #[.bool b0, .bool b1, .bool b2, .bool b3, .slice no nn nc, .bool b5, .slice xo nx xc, .slice ao NA ac, .slice oo NO oc], .pointer (some ⟨w.heap.size, 0, none⟩), .pointer (some ⟨w.heap.size + 1, 0, none⟩), .pointer (some ⟨w.heap.size + 1 + 1, 0, none⟩), undef, .func (.func 79) #[.pointer (some ⟨w.heap.size + 1 + 1, 0, none⟩)] #[], .pointer (some ⟨W.heap.size, 0, none⟩), .agg #[.bool b0, .bool b1, .bool b2, .bool b3, .slice no nn nc, .bool b5, .slice xo nx xc, .slice ao NA ac, .slice oo NO oc], .agg #[.func (.func 75) #[.pointer (some ⟨w.heap.size + 1 + 1, 0, none⟩)] #[], .func (.func 76) #[.pointer (some ⟨w.heap.size + 1 + 1, 0, none⟩)] #[], .func (.func 77) #[.pointer (some ⟨w.heap.size + 1 + 1, 0, none⟩)] #[], .func (.func 78) #[.pointer (some ⟨w.heap.size + 1 + 1, 0, none⟩)] #[], .func (.func 79) #[.pointer (some ⟨w.heap.size + 1 + 1, 0, none⟩)] #[]], .int .i64 5, .bool false, .func (.func 79) #[.pointer (some ⟨w.heap.size + 1 + 1, 0, none⟩)] #[], .func (.func 79) #[.pointer (some ⟨w.heap.size + 1 + 1, 0, none⟩)] #[], .bool true, .bool false, .int .i64 5, .agg #[.bool b0, .bool b1, .bool b2, .bool b3, .slice no nn nc, .bool b5, .slice xo nx xc, .slice ao NA ac, .slice oo NO oc], .func (.func 80) #[] #[.pointer (some ⟨w6.heap.size, 0, none⟩)], x.1.2, undef, undef, undef], defers := [] } _ ((KeepsOthers.alloc _ _).from _) (KpT.of_below hB1.size (below1 W _)) ⟨⟨bS1.alloc _, hB1.alloc hB1.size _⟩, hfo⟩ ⟨W.heap.size, bS1.lt, hI, rfl⟩
              dsimp only
              rw [hsv] at FIN ⊢
              clear hKK hI bS1 hB1 hfo
              gi_wp2_with fail
              exact FIN
            case body =>
              rintro l pre x a' W hl ⟨r, hr⟩ ⟨⟨bS1, hB1⟩, hfo⟩ ⟨Bx, hBx, bX, rfl⟩ hlt
              obtain ⟨sa, sb, sc, sd, seo, sen, sec, sf, sgo, sgn, sgc, sio, sinn, sic, sjo, sjn, sjc, hsv⟩ := HSH.out x.1 x.2
              obtain ⟨ax, hax, hrow⟩ := bX.row
              rw [hsv] at hax
              obtain rfl := Value.agg.inj hax
              have c0 := cell_of_row _ _ 0 _ _ _ hrow
              have c1 := cell_of_row _ _ 1 _ _ _ hrow
              have c2 := cell_of_row _ _ 2 _ _ _ hrow
              have c3 := cell_of_row _ _ 3 _ _ _ hrow
              have c4 := cell_of_row _ _ 4 _ _ _ hrow
              have c5 := cell_of_row _ _ 5 _ _ _ hrow
              have c6 := cell_of_row _ _ 6 _ _ _ hrow
              have c7 := cell_of_row _ _ 7 _ _ _ hrow
              have c8 := cell_of_row _ _ 8 _ _ _ hrow
              have HCALL : Hid (Calls Tryz.prog 34 #[.agg #[.bool sa, .bool sb, .bool sc, .bool sd, .slice seo sen sec, .bool sf, .slice sgo sgn sgc, .slice sio sinn sic, .slice sjo sjn sjc]] W fun e w' => e = .returned (.bool (fmN h x.1.1)) ∧ Below W.heap.size W w') := by
                show Calls _ _ _ _ _
                rw [← hsv]
                exact HIH.out x.1.1 _ W ((HIN.out x.1 x.2).keep hB1)
              have HX : Hid (∀ w', Below W.heap.size W w' → KeepsFrom W7.heap.size W w' ∧ KpT w.heap.size w6.heap.size W7.heap.size W w' ∧ Boxed w' (w.heap.size + 1) 4 (.bool false) ∧ Below w.heap.size w w') := fun w' hb => ⟨tkeepsFrom hb, KpT.of_below hB1.size hb, tboxed_low bS1 hb, hB1.trans (hb.mono hB1.size)⟩
              have HY : Hid (∀ w', Below W.heap.size W w' → KeepsFrom W7.heap.size W (w'.setCell ⟨w.heap.size + 1, 0, none⟩ (.bool false)) ∧ Boxed (w'.setCell ⟨w.heap.size + 1, 0, none⟩ (.bool false)) (w.heap.size + 1) 4 (.bool false) ∧ Below w.heap.size w (w'.setCell ⟨w.heap.size + 1, 0, none⟩ (.bool false))) := fun w' hb => ⟨(tkeepsFrom hb).trans ((KeepsOthers.setCell _ _ _).from _), (tboxed_low bS1 hb).set _, (hB1.trans (hb.mono hB1.size)).setCell (p := ⟨w.heap.size + 1, 0, none⟩) (by show _ ≤ w.heap.size + 1; omega) _⟩
              have HA : Hid (∀ w', Below W.heap.size W w' → w'.cell? ⟨w.heap.size + 1, 0, none⟩ = some (.bool false) ∧ w'.frozen? ⟨w.heap.size + 1, 0, none⟩ = false) := fun w' hb => ⟨(tboxed_low bS1 hb).cell, (tboxed_low bS1 hb).frozen⟩
              have HFO := Hid.mk hfo
              have HXM := Hid.mk x.2
              clear bS1 hB1 bX hr hrow hsv hfo
              have h1' : 1 ≤ 5 - 1 - 1 := by omega
              cases hf : fmN h x.1.1 with
              | true =>
                have HC2 := HCALL.out
                rw [hf] at HC2
                have HN : Hid (∀ y ∈ pre ++ [x], fmN h y.1.1 = true) := fun y hy => by rcases List.mem_append.1 hy with hy | hy; exact HFO.out y hy; obtain rfl := List.mem_singleton.1 hy; exact hf
                have HCC := Hid.mk HC2
                clear HC2 hf
                gi_wp2_with fail
                refine ⟨trivial, (CallsIn.inRound l (callsIn_wide.2 HCC.out)).mono ?_⟩
                rintro e w' ⟨rfl, hbw⟩
                have HBW := Hid.mk hbw
                obtain ⟨a0, a1⟩ := HA.out w' hbw
                clear hbw c0 c1 c2 c3 c4 c5 c6 c7 c8
                gi_wp2_with fail
                have hx := HX.out w' HBW.out
                exact ⟨hx.1, hx.2.1, ⟨hx.2.2.1, hx.2.2.2⟩, HN.out⟩
              | false =>
                have HC2 := HCALL.out
                rw [hf] at HC2
                have HN : Hid (((partsT az os).all fun x => fmN h x.1) = false) := by show _ = _; rw [List.all_eq_false]; exact ⟨x.1, HXM.out, by rw [hf]; simp⟩
                have HCC := Hid.mk HC2
                clear HC2 hf
                gi_wp2_with fail
                refine ⟨trivial, (CallsIn.inRound l (callsIn_wide.2 HCC.out)).mono ?_⟩
                rintro e w' ⟨rfl, hbw⟩
                have HBW := Hid.mk hbw
                obtain ⟨a0, a1⟩ := HA.out w' hbw
                clear hbw c0 c1 c2 c3 c4 c5 c6 c7 c8
                gi_wp2_with fail
                have hx := HY.out w' HBW.out
                exact ⟨hx.1, ⟨hx.2.1, hx.2.2⟩, rfl, HN.out⟩
            case done =>
              rintro D zs W hD hz ⟨⟨bS1, hB1⟩, hfo⟩ hK
              have hfin : Hid (((partsT az os).all fun x => fmN h x.1) = true) := by
                show _ = _
                rw [List.all_eq_true]
                intro y hy
                rw [← hz] at hy
                obtain ⟨z, hz1, rfl⟩ := List.mem_map.1 hy
                exact hfo z hz1
              have a0 := bS1.cell
              have a1 := bS1.frozen
              clear hfo hz
              gi_wp2_with fail
              have s0 := (bS1.set (.bool true)).cell
              have sB := hB1.setCell (p := ⟨w.heap.size + 1, 0, none⟩) (by show _ ≤ w.heap.size + 1; omega) (.bool true)
              have hK2 : (W.setCell ⟨w.heap.size + 1, 0, none⟩ (.bool true)).heap[D]? = some (.deferred (some [])) := (set_other W (w.heap.size + 1) D (by omega) _).trans hK
              have s1 := fun o' => put_cell (o' := o') hK2 rfl s0
              refine ⟨by simp, .inl ⟨_, _, rfl, run_takeDeferred hK2, ?_⟩⟩
              exact ⟨.bool true, by simp [results, Tryz.results34, go_sem, s1], by rw [hfin.out]; rfl, sB.trans (belowK_b (w := w) (Nat.le_refl _) _ D _ _ (by omega) hK2 rfl rfl)⟩
            case stop =>
              rintro D c pre W hD _ ⟨⟨bS1, hB1⟩, rfl, hno⟩ hK
              have HNO := Hid.mk hno
              clear hno
              gi_wp2_with fail
              have s1 := fun o' => put_cell (o' := o') hK rfl bS1.cell
              refine ⟨by simp, .inl ⟨_, _, rfl, run_takeDeferred hK, ?_⟩⟩
              exact ⟨.bool false, by simp [results, Tryz.results34, go_sem, s1], by rw [HNO.out]; rfl, hB1.trans (belowK_b (w := w) (Nat.le_refl _) _ D _ _ (by omega) hK rfl rfl)⟩

/-- THE PROGRAM'S FORMED, of every type -/
theorem w_pFormed : ∀ h, FpOk h := by
  intro h
  induction h with
  | zero => intro T v w hI; exact hI.elim
  | succ h ih =>
    intro T v w hI
    have hI2 := hI
    obtain ⟨no, nc, xo, xc, ao, ac, oo, oc, rfl, ⟨a1, a2, a3, a4⟩, ⟨a5, a6, a7, a8⟩, z1, z2, hs, hk, ha, ho⟩ := hI
    obtain ⟨az, os, lA, lO, hA, hO, hA2, hO2, hmap, hin, hst⟩ := parts_open hI2
    have hAr : ArIn w h ao T.arrs := ⟨ha⟩
    have hOb : ObIn w h oo T.objs := ⟨fun h0 => by
      obtain ⟨b, off, e, hl, hc⟩ := ho h0
      refine ⟨b, off, e, hl, fun i hi => ?_⟩
      obtain ⟨ko, kc, fo, fc, mo, mc, c0, c1, c2, c3, c4, c5, c6, c7, c8, g, h1, h2, h3, h4, h5, h6, h7⟩ := hc i hi
      exact ⟨ko, kc, fo, fc, mo, mc, c0, c1, c2, c3, c4, c5, c6, c7, c8, g, h1, ⟨h2, h3, h4, h5, h6, h7⟩⟩⟩
    have key := formed_step h ih T.all T.nul T.fls T.tru T.any no xo ao oo T.nums.length nc T.texts.length xc T.arrs.length ac T.objs.length oc az os w lA lO hA hO hA2 hO2 hin hst _ _ _ _ _
      (Hid.mk fun u B hu hx => w_allAlone _ _ _ _ _ _ _ _ _ _ _ _ _ _ _ _ _ u B hx a5 a6 a7 a8)
      (Hid.mk fun u B hu hx => w_numsFormed _ _ _ _ _ _ _ _ _ _ _ _ _ _ _ _ _ u B hx T.nums (hs.keep hu) rfl a1 a5 z1)
      (Hid.mk fun u B hu hx => w_textsFormed _ _ _ _ _ _ _ _ _ _ _ _ _ _ _ _ _ u B hx a6 _ (Hid.mk fun x hxx => w_sRising xo _ xc T.texts x (hk.keep (hu.trans (hxx.mono hu.size))) rfl a2 a6 z2))
      (Hid.mk fun u B hu hx => w_arraysFormed h _ _ _ _ _ _ _ _ _ _ _ _ _ _ _ _ _ u B hx T.arrs (hAr.keep hu) rfl a3 a7)
      (Hid.mk fun u B hu hx => w_objectsFormed h _ _ _ _ _ _ _ _ _ _ _ _ _ _ _ _ _ u B hx T.objs (hOb.keep hu) rfl a4 a8)
    have e : fmN (h + 1) T = ((!T.all || bareT T.nul T.fls T.tru T.any T.nums.length T.texts.length T.arrs.length T.objs.length) && (spB T.nums && (((rK T.texts T.texts.length && oK T.texts T.texts.length) && !(T.any && decide (0 < T.texts.length))) && ((T.arrs.all laOk && decide (T.arrs.length ≤ 1)) && (T.objs.all loOk && (partsT az os).all fun x => fmN h x.1))))) := by
      rw [fm_split, ← hmap, List.all_map]
      exact bool_split _ _ _ _ _ _ _
    rw [e]
    exact key

end Go.Proofs.YtapjfocjeligiaaGreatDoor
