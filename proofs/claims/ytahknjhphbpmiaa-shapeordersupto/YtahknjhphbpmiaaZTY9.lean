import Derived.Test.YtahknjhphbpmiaaM25
namespace Go.Proofs.Ytahknjhphbpmiaa
open Go.RowKit Go.Shelf Go.Sort
set_option linter.unusedVariables false
set_option linter.unusedSimpArgs false
attribute [local go_sem] Oper.semAt_some

/-- an array's type is as it must be -/
def arOk (f : TT → Bool) (a : AR) : Bool := !(decide (a.min < 0) || decide (a.max < -1) || (decide (0 ≤ a.max) && decide (a.max < a.min))) && (f a.item && (a.item.never == decide (a.max = 0)))
/-- arrays' types are as they must be -/
def arB (f : TT → Bool) : List AR → Bool
  | [] => true
  | [a] => arOk f a
  | _ => false
/-- a field and whether it must be there are as they must be -/
def fdOk (f : TT → Bool) (t : TT) (m : Bool) : Bool := f t && !(m && t.never)
/-- an alternative is as it must be -/
def obOk (f : TT → Bool) (o : OB) : Bool := decide (o.names.length = o.fields.length) && (decide (o.names.length = o.must.length) && ((rK o.names o.names.length && oK o.names o.names.length) && (f o.rest && (o.fields.zip o.must).all fun p => fdOk f p.1 p.2)))
/-- a type is well shaped -/
def fmN : Nat → TT → Bool
  | 0, _ => false
  | h + 1, T => !(T.all && !T.bare) && ((rK T.texts T.texts.length && oK T.texts T.texts.length) && (!(T.any && decide (0 < T.texts.length)) && (spB T.nums && (arB (fmN h) T.arrs && T.objs.all (obOk (fmN h))))))
/-- Formed answers so -/
def FtOk (h : Nat) : Prop := ∀ (T : TT) (v : Value) (u : World), InT u h T v → Calls Try.prog 7 #[v] u fun e w' => e = .returned (.bool (fmN h T)) ∧ Below u.heap.size u w'
/-- a row of arrays' types, as it lies -/
structure ArIn (W : World) (h : Nat) (ao : Option Addr) (rs : List AR) : Prop where
  row : 0 < rs.length → ∃ b off, ao = some ⟨b, off, none⟩ ∧ b < W.heap.size ∧ ∀ i, (hi : i < rs.length) → ∃ c0 c1 c2 c3 c4 c5 c6 c7 c8 : Value,
        C9 W b (off + i * 11) c0 c1 c2 c3 c4 c5 c6 c7 c8 ∧ W.cell? ⟨b, off + i * 11 + 9, none⟩ = some (.int .i64 rs[i].min) ∧ W.cell? ⟨b, off + i * 11 + 10, none⟩ = some (.int .i64 rs[i].max) ∧
        InT W h rs[i].item (.agg #[c0, c1, c2, c3, c4, c5, c6, c7, c8])
theorem ArIn.keep {W W' : World} {h : Nat} {ao : Option Addr} {rs : List AR} (x : ArIn W h ao rs) (hb : Below W.heap.size W W') : ArIn W' h ao rs := by
  refine ⟨fun h0 => ?_⟩
  obtain ⟨b, off, e2, hl, hc⟩ := x.row h0
  refine ⟨b, off, e2, Nat.lt_of_lt_of_le hl hb.size, fun i hi => ?_⟩
  obtain ⟨c0, c1, c2, c3, c4, c5, c6, c7, c8, h1, h2, h3, h4⟩ := hc i hi
  exact ⟨c0, c1, c2, c3, c4, c5, c6, c7, c8, h1.keep hb hl, (hb.cell (p := ⟨_, _, _⟩) hl).trans h2, (hb.cell (p := ⟨_, _, _⟩) hl).trans h3, h4.keep hb⟩

set_option maxRecDepth 100000 in
set_option maxHeartbeats 3200000 in
theorem w_rarrays (h : Nat) (ih : FtOk h) (ao : Option Addr) (N cap : Nat) (rs : List AR) (w : World) (hI : ArIn w h ao rs) (hN : rs.length = N) (hc : N ≤ cap) (hN2 : N ≤ 140737488355328) :
    Calls Try.prog 19 #[.slice ao N cap] w fun e w' => e = .returned (.bool (arB (fmN h) rs)) ∧ Below w.heap.size w w' := by
  by_cases h1 : 1 < N
  · have hf : arB (fmN h) rs = false := by
      match rs, hN with
      | [], h => simp at h; omega
      | [p], h => simp at h; omega
      | _ :: _ :: _, _ => rfl
    rw [hf]
    have h1' : (1 : Int) < (N : Int) := by omega
    clear hI hN h1 hf
    go_enter Try.func19, Try.ntmps19
    go_wp2_with fail
    go_ret
    exact ⟨rfl, Below.refl _ _⟩
  · have h1' : ¬ (1 : Int) < (N : Int) := by omega
    have HI := Hid.mk hI
    have HN := Hid.mk hN
    have HIh := Hid.mk ih
    clear hI hN ih
    go_enter Try.func19, Try.ntmps19
    go_wp2_with fail
    go_loopw [3] (fun i wr => ∃ k : Nat, k ≤ N ∧ i = .int .i64 (k : Int) ∧ Hid (Below w.heap.size w wr) ∧ Hid (k = N → arB (fmN h) rs = true)) (fun i _ => N - (intOf i).toNat)
    case atStart =>
      refine ⟨0, Nat.zero_le _, rfl, Below.refl _ _, fun h0 => ?_⟩
      have : rs = [] := List.eq_nil_of_length_eq_zero (by rw [HN.out]; exact h0.symm)
      rw [this]; rfl
    case round =>
      obtain ⟨k, hk, rfl, HB, HQ⟩ := hrel
      by_cases hlt : k < N
      · have hl1 : (k : Int) < (N : Int) := by omega
        have hl0 : (0 : Int) ≤ (k : Int) := by omega
        have hkl : k < rs.length := by rw [HN.out]; exact hlt
        obtain ⟨p, hp⟩ : ∃ p, rs = [p] := by
          match rs, HN.out, hkl with
          | [], _, h => cases h
          | [p], _, _ => exact ⟨p, rfl⟩
          | _ :: _ :: _, h, _ => simp at h; omega
        obtain ⟨b, off, hso, hbl, hrow⟩ := (HI.out.keep HB.out).row (by omega)
        subst hso
        subst hp
        have hk0 : k = 0 := by omega
        subst hk0
        have hl1 : (0 : Int) < (N : Int) := by omega
        clear hl0
        have hrow0 := hrow 0 hkl
        dsimp only [List.getElem_cons_zero] at hrow0
        obtain ⟨c0, c1, c2, c3, c4, c5, c6, c7, c8, hc9, m0, m1, hct⟩ := hrow0
        simp only [Nat.zero_mul, Nat.add_zero] at hc9 m0 m1
        have HF := Hid.mk (fun (u : World) (hu : Below wr.heap.size wr u) => HIh.out p.item _ u (hct.keep hu))
        have HV := Hid.mk (fun (u : World) (hu : Below wr.heap.size wr u) => w_rNever h p.item _ u (hct.keep hu))
        obtain ⟨e0, e1, e2, e3, e4, e5, e6, e7, e8, esh⟩ := inT_shape hct
        simp only [Value.agg.injEq, Array.mk.injEq, List.cons.injEq, and_true] at esh
        obtain ⟨rfl, rfl, rfl, rfl, rfl, rfl, rfl, rfl, rfl⟩ := esh
        obtain ⟨q0, q1, q2, q3, q4, q5, q6, q7, q8⟩ := hc9
        have HG : Hid (arB (fmN h) [p] = (!(decide (p.min < 0) || decide (p.max < -1) || (decide (0 ≤ p.max) && decide (p.max < p.min))) && (fmN h p.item && (p.item.never == decide (p.max = 0))))) := rfl
        generalize fmN h p.item = f at HF HG
        generalize p.item.never = g at HV HG
        generalize p.min = mn at *
        generalize p.max = mx at *
        clear HQ hrow hkl HI hct
        -- the walk
        by_cases k1 : mn < 0
        · have k1d := decide_eq_true k1
          have HG' : Hid (arB (fmN h) [p] = false) := by show _ = _; rw [HG.out, k1d]; rfl
          have M0 := fun d os => cell_regrown m0 d os
          have M1 := fun d os => cell_regrown m1 d os
          go_wp2_with fail
          refine wp_region_quiet_below (by kernel_rfl) (by kernel_rfl) ?_
          repeat (go_big_quiet_step (fail))
          refine wpQuiet_nil ?_
          intro u6 hw'
          have hu6 : Below wr.heap.size wr u6 := by
            obtain ⟨⟨dq, osq⟩, rfl⟩ := hw'
            exact below_regrown wr dq osq
          clear hw' M0 M1
          have HB6 := Hid.mk (HB.out.trans (hu6.mono HB.out.size))
          clear hu6
          go_wp2_with fail
          go_ret
          exact ⟨by first | (rw [HG'.out]; rfl) | rw [HG'.out], HB6.out⟩
        · have k1d := decide_eq_false k1
          by_cases k2 : mx < -1
          · have k2d := decide_eq_true k2
            have HG' : Hid (arB (fmN h) [p] = false) := by show _ = _; rw [HG.out, k1d, k2d]; rfl
            have M0 := fun d os => cell_regrown m0 d os
            have M1 := fun d os => cell_regrown m1 d os
            go_wp2_with fail
            refine wp_region_quiet_below (by kernel_rfl) (by kernel_rfl) ?_
            repeat (go_big_quiet_step (fail))
            refine wpQuiet_nil ?_
            intro u6 hw'
            have hu6 : Below wr.heap.size wr u6 := by
              obtain ⟨⟨dq, osq⟩, rfl⟩ := hw'
              exact below_regrown wr dq osq
            clear hw' M0 M1
            have HB6 := Hid.mk (HB.out.trans (hu6.mono HB.out.size))
            clear hu6
            go_wp2_with fail
            go_ret
            exact ⟨by first | (rw [HG'.out]; rfl) | rw [HG'.out], HB6.out⟩
          · have k2d := decide_eq_false k2
            by_cases k3 : 0 ≤ mx
            · have k3d := decide_eq_true k3
              by_cases k4 : mx < mn
              · have k4d := decide_eq_true k4
                have HG' : Hid (arB (fmN h) [p] = false) := by show _ = _; rw [HG.out, k1d, k2d, k3d, k4d]; rfl
                have M0 := fun d os => cell_regrown m0 d os
                have M1 := fun d os => cell_regrown m1 d os
                go_wp2_with fail
                refine wp_region_quiet_below (by kernel_rfl) (by kernel_rfl) ?_
                repeat (go_big_quiet_step (fail))
                refine wpQuiet_nil ?_
                intro u6 hw'
                have hu6 : Below wr.heap.size wr u6 := by
                  obtain ⟨⟨dq, osq⟩, rfl⟩ := hw'
                  exact below_regrown wr dq osq
                clear hw' M0 M1
                have HB6 := Hid.mk (HB.out.trans (hu6.mono HB.out.size))
                clear hu6
                go_wp2_with fail
                go_ret
                exact ⟨by first | (rw [HG'.out]; rfl) | rw [HG'.out], HB6.out⟩
              · have k4d := decide_eq_false k4
                have M0 := fun d os => cell_regrown m0 d os
                have M1 := fun d os => cell_regrown m1 d os
                go_wp2_with fail
                refine wp_region_quiet_below (by kernel_rfl) (by kernel_rfl) ?_
                repeat (go_big_quiet_step (fail))
                refine wpQuiet_nil ?_
                intro u6 hw'
                have hu6 : Below wr.heap.size wr u6 := by
                  obtain ⟨⟨dq, osq⟩, rfl⟩ := hw'
                  exact below_regrown wr dq osq
                clear hw' M0 M1
                have HB6 := Hid.mk (HB.out.trans (hu6.mono HB.out.size))
                have q0u := (hu6.cell (p := ⟨_, _, _⟩) hbl).trans q0
                have q1u := (hu6.cell (p := ⟨_, _, _⟩) hbl).trans q1
                have q2u := (hu6.cell (p := ⟨_, _, _⟩) hbl).trans q2
                have q3u := (hu6.cell (p := ⟨_, _, _⟩) hbl).trans q3
                have q4u := (hu6.cell (p := ⟨_, _, _⟩) hbl).trans q4
                have q5u := (hu6.cell (p := ⟨_, _, _⟩) hbl).trans q5
                have q6u := (hu6.cell (p := ⟨_, _, _⟩) hbl).trans q6
                have q7u := (hu6.cell (p := ⟨_, _, _⟩) hbl).trans q7
                have q8u := (hu6.cell (p := ⟨_, _, _⟩) hbl).trans q8
                have m1u := (hu6.cell (p := ⟨_, _, _⟩) hbl).trans m1
                have HF6 := Hid.mk (fun (d : Nat) (os : Array Obj) => HF.out (grow (redrawn u6 d) os) (hu6.trans ((below_regrown u6 d os).mono hu6.size)))
                have HV6 := Hid.mk (fun (d : Nat) (os : Array Obj) => HV.out (grow (redrawn u6 d) os) (hu6.trans ((below_regrown u6 d os).mono hu6.size)))
                clear hu6 HF HV m0 m1 q0 q1 q2 q3 q4 q5 q6 q7 q8
                go_wp2_with fail
                have Q0 := fun d os => cell_regrown q0u d os
                have Q1 := fun d os => cell_regrown q1u d os
                have Q2 := fun d os => cell_regrown q2u d os
                have Q3 := fun d os => cell_regrown q3u d os
                have Q4 := fun d os => cell_regrown q4u d os
                have Q5 := fun d os => cell_regrown q5u d os
                have Q6 := fun d os => cell_regrown q6u d os
                have Q7 := fun d os => cell_regrown q7u d os
                have Q8 := fun d os => cell_regrown q8u d os
                have M1 := fun d os => cell_regrown m1u d os
                cases f with
                | false =>
                  have HG' : Hid (arB (fmN h) [p] = false) := by show _ = _; rw [HG.out, k1d, k2d, k3d, k4d]; rfl
                  refine wp_region_quiet_below (by kernel_rfl) (by kernel_rfl) ?_
                  repeat (go_big_quiet_step (first | exact Calls.regrown_of (HF6.out _ _) | exact Calls.regrown_of (HV6.out _ _)))
                  refine wpQuiet_nil ?_
                  intro u8 hw'
                  have hu8 : Below u6.heap.size u6 u8 := by
                    obtain ⟨⟨dq, osq⟩, rfl⟩ := hw'
                    exact below_regrown u6 dq osq
                  clear hw' M1 Q0 Q1 Q2 Q3 Q4 Q5 Q6 Q7 Q8 m1u q0u q1u q2u q3u q4u q5u q6u q7u q8u
                  have HB8 := Hid.mk (HB6.out.trans (hu8.mono HB6.out.size))
                  clear hu8
                  go_wp2_with fail
                  go_ret
                  exact ⟨by first | (rw [HG'.out]; rfl) | rw [HG'.out], HB8.out⟩
                | true =>
                  cases g with
                  | false =>
                    by_cases k5 : mx = 0
                    · have k5d := decide_eq_true k5
                      have k5' : (mx == 0) = true := by simp [k5]
                      have HG' : Hid (arB (fmN h) [p] = false) := by show _ = _; rw [HG.out, k1d, k2d, k3d, k4d, k5d]; rfl
                      clear k5d
                      refine wp_region_quiet_below (by kernel_rfl) (by kernel_rfl) ?_
                      repeat (go_big_quiet_step (first | exact Calls.regrown_of (HF6.out _ _) | exact Calls.regrown_of (HV6.out _ _)))
                      refine wpQuiet_nil ?_
                      intro u8 hw'
                      have hu8 : Below u6.heap.size u6 u8 := by
                        obtain ⟨⟨dq, osq⟩, rfl⟩ := hw'
                        exact below_regrown u6 dq osq
                      clear hw' M1 Q0 Q1 Q2 Q3 Q4 Q5 Q6 Q7 Q8 m1u q0u q1u q2u q3u q4u q5u q6u q7u q8u
                      have HB8 := Hid.mk (HB6.out.trans (hu8.mono HB6.out.size))
                      clear hu8
                      go_wp2_with fail
                      go_ret
                      exact ⟨by first | (rw [HG'.out]; rfl) | rw [HG'.out], HB8.out⟩
                    · have k5d := decide_eq_false k5
                      have k5' : (mx == 0) = false := by simp [k5]
                      have HG' : Hid (arB (fmN h) [p] = true) := by show _ = _; rw [HG.out, k1d, k2d, k3d, k4d, k5d]; rfl
                      clear k5d
                      refine wp_region_quiet_below (by kernel_rfl) (by kernel_rfl) ?_
                      repeat (go_big_quiet_step (first | exact Calls.regrown_of (HF6.out _ _) | exact Calls.regrown_of (HV6.out _ _)))
                      refine wpQuiet_nil ?_
                      intro u8 hw'
                      have hu8 : Below u6.heap.size u6 u8 := by
                        obtain ⟨⟨dq, osq⟩, rfl⟩ := hw'
                        exact below_regrown u6 dq osq
                      clear hw' M1 Q0 Q1 Q2 Q3 Q4 Q5 Q6 Q7 Q8 m1u q0u q1u q2u q3u q4u q5u q6u q7u q8u
                      have HB8 := Hid.mk (HB6.out.trans (hu8.mono HB6.out.size))
                      clear hu8
                      go_wp2_with fail
                      go_roundw
                      case rel => exact ⟨0 + 1, hlt, by go_num, HB8, fun _ => HG'.out⟩
                      case measure => simp [intOf]; omega
                  | true =>
                    by_cases k5 : mx = 0
                    · have k5d := decide_eq_true k5
                      have k5' : (mx == 0) = true := by simp [k5]
                      have HG' : Hid (arB (fmN h) [p] = true) := by show _ = _; rw [HG.out, k1d, k2d, k3d, k4d, k5d]; rfl
                      clear k5d
                      refine wp_region_quiet_below (by kernel_rfl) (by kernel_rfl) ?_
                      repeat (go_big_quiet_step (first | exact Calls.regrown_of (HF6.out _ _) | exact Calls.regrown_of (HV6.out _ _)))
                      refine wpQuiet_nil ?_
                      intro u8 hw'
                      have hu8 : Below u6.heap.size u6 u8 := by
                        obtain ⟨⟨dq, osq⟩, rfl⟩ := hw'
                        exact below_regrown u6 dq osq
                      clear hw' M1 Q0 Q1 Q2 Q3 Q4 Q5 Q6 Q7 Q8 m1u q0u q1u q2u q3u q4u q5u q6u q7u q8u
                      have HB8 := Hid.mk (HB6.out.trans (hu8.mono HB6.out.size))
                      clear hu8
                      go_wp2_with fail
                      go_roundw
                      case rel => exact ⟨0 + 1, hlt, by go_num, HB8, fun _ => HG'.out⟩
                      case measure => simp [intOf]; omega
                    · have k5d := decide_eq_false k5
                      have k5' : (mx == 0) = false := by simp [k5]
                      have HG' : Hid (arB (fmN h) [p] = false) := by show _ = _; rw [HG.out, k1d, k2d, k3d, k4d, k5d]; rfl
                      clear k5d
                      refine wp_region_quiet_below (by kernel_rfl) (by kernel_rfl) ?_
                      repeat (go_big_quiet_step (first | exact Calls.regrown_of (HF6.out _ _) | exact Calls.regrown_of (HV6.out _ _)))
                      refine wpQuiet_nil ?_
                      intro u8 hw'
                      have hu8 : Below u6.heap.size u6 u8 := by
                        obtain ⟨⟨dq, osq⟩, rfl⟩ := hw'
                        exact below_regrown u6 dq osq
                      clear hw' M1 Q0 Q1 Q2 Q3 Q4 Q5 Q6 Q7 Q8 m1u q0u q1u q2u q3u q4u q5u q6u q7u q8u
                      have HB8 := Hid.mk (HB6.out.trans (hu8.mono HB6.out.size))
                      clear hu8
                      go_wp2_with fail
                      go_ret
                      exact ⟨by first | (rw [HG'.out]; rfl) | rw [HG'.out], HB8.out⟩
            · have k3d := decide_eq_false k3
              have M0 := fun d os => cell_regrown m0 d os
              have M1 := fun d os => cell_regrown m1 d os
              go_wp2_with fail
              refine wp_region_quiet_below (by kernel_rfl) (by kernel_rfl) ?_
              repeat (go_big_quiet_step (fail))
              refine wpQuiet_nil ?_
              intro u6 hw'
              have hu6 : Below wr.heap.size wr u6 := by
                obtain ⟨⟨dq, osq⟩, rfl⟩ := hw'
                exact below_regrown wr dq osq
              clear hw' M0 M1
              have HB6 := Hid.mk (HB.out.trans (hu6.mono HB.out.size))
              have q0u := (hu6.cell (p := ⟨_, _, _⟩) hbl).trans q0
              have q1u := (hu6.cell (p := ⟨_, _, _⟩) hbl).trans q1
              have q2u := (hu6.cell (p := ⟨_, _, _⟩) hbl).trans q2
              have q3u := (hu6.cell (p := ⟨_, _, _⟩) hbl).trans q3
              have q4u := (hu6.cell (p := ⟨_, _, _⟩) hbl).trans q4
              have q5u := (hu6.cell (p := ⟨_, _, _⟩) hbl).trans q5
              have q6u := (hu6.cell (p := ⟨_, _, _⟩) hbl).trans q6
              have q7u := (hu6.cell (p := ⟨_, _, _⟩) hbl).trans q7
              have q8u := (hu6.cell (p := ⟨_, _, _⟩) hbl).trans q8
              have m1u := (hu6.cell (p := ⟨_, _, _⟩) hbl).trans m1
              have HF6 := Hid.mk (fun (d : Nat) (os : Array Obj) => HF.out (grow (redrawn u6 d) os) (hu6.trans ((below_regrown u6 d os).mono hu6.size)))
              have HV6 := Hid.mk (fun (d : Nat) (os : Array Obj) => HV.out (grow (redrawn u6 d) os) (hu6.trans ((below_regrown u6 d os).mono hu6.size)))
              clear hu6 HF HV m0 m1 q0 q1 q2 q3 q4 q5 q6 q7 q8
              go_wp2_with fail
              have Q0 := fun d os => cell_regrown q0u d os
              have Q1 := fun d os => cell_regrown q1u d os
              have Q2 := fun d os => cell_regrown q2u d os
              have Q3 := fun d os => cell_regrown q3u d os
              have Q4 := fun d os => cell_regrown q4u d os
              have Q5 := fun d os => cell_regrown q5u d os
              have Q6 := fun d os => cell_regrown q6u d os
              have Q7 := fun d os => cell_regrown q7u d os
              have Q8 := fun d os => cell_regrown q8u d os
              have M1 := fun d os => cell_regrown m1u d os
              cases f with
              | false =>
                have HG' : Hid (arB (fmN h) [p] = false) := by show _ = _; rw [HG.out, k1d, k2d, k3d]; rfl
                refine wp_region_quiet_below (by kernel_rfl) (by kernel_rfl) ?_
                repeat (go_big_quiet_step (first | exact Calls.regrown_of (HF6.out _ _) | exact Calls.regrown_of (HV6.out _ _)))
                refine wpQuiet_nil ?_
                intro u8 hw'
                have hu8 : Below u6.heap.size u6 u8 := by
                  obtain ⟨⟨dq, osq⟩, rfl⟩ := hw'
                  exact below_regrown u6 dq osq
                clear hw' M1 Q0 Q1 Q2 Q3 Q4 Q5 Q6 Q7 Q8 m1u q0u q1u q2u q3u q4u q5u q6u q7u q8u
                have HB8 := Hid.mk (HB6.out.trans (hu8.mono HB6.out.size))
                clear hu8
                go_wp2_with fail
                go_ret
                exact ⟨by first | (rw [HG'.out]; rfl) | rw [HG'.out], HB8.out⟩
              | true =>
                cases g with
                | false =>
                  by_cases k5 : mx = 0
                  · exact absurd k5 (by omega)
                  · have k5d := decide_eq_false k5
                    have k5' : (mx == 0) = false := by simp [k5]
                    have HG' : Hid (arB (fmN h) [p] = true) := by show _ = _; rw [HG.out, k1d, k2d, k3d, k5d]; rfl
                    clear k5d
                    refine wp_region_quiet_below (by kernel_rfl) (by kernel_rfl) ?_
                    repeat (go_big_quiet_step (first | exact Calls.regrown_of (HF6.out _ _) | exact Calls.regrown_of (HV6.out _ _)))
                    refine wpQuiet_nil ?_
                    intro u8 hw'
                    have hu8 : Below u6.heap.size u6 u8 := by
                      obtain ⟨⟨dq, osq⟩, rfl⟩ := hw'
                      exact below_regrown u6 dq osq
                    clear hw' M1 Q0 Q1 Q2 Q3 Q4 Q5 Q6 Q7 Q8 m1u q0u q1u q2u q3u q4u q5u q6u q7u q8u
                    have HB8 := Hid.mk (HB6.out.trans (hu8.mono HB6.out.size))
                    clear hu8
                    go_wp2_with fail
                    go_roundw
                    case rel => exact ⟨0 + 1, hlt, by go_num, HB8, fun _ => HG'.out⟩
                    case measure => simp [intOf]; omega
                | true =>
                  by_cases k5 : mx = 0
                  · exact absurd k5 (by omega)
                  · have k5d := decide_eq_false k5
                    have k5' : (mx == 0) = false := by simp [k5]
                    have HG' : Hid (arB (fmN h) [p] = false) := by show _ = _; rw [HG.out, k1d, k2d, k3d, k5d]; rfl
                    clear k5d
                    refine wp_region_quiet_below (by kernel_rfl) (by kernel_rfl) ?_
                    repeat (go_big_quiet_step (first | exact Calls.regrown_of (HF6.out _ _) | exact Calls.regrown_of (HV6.out _ _)))
                    refine wpQuiet_nil ?_
                    intro u8 hw'
                    have hu8 : Below u6.heap.size u6 u8 := by
                      obtain ⟨⟨dq, osq⟩, rfl⟩ := hw'
                      exact below_regrown u6 dq osq
                    clear hw' M1 Q0 Q1 Q2 Q3 Q4 Q5 Q6 Q7 Q8 m1u q0u q1u q2u q3u q4u q5u q6u q7u q8u
                    have HB8 := Hid.mk (HB6.out.trans (hu8.mono HB6.out.size))
                    clear hu8
                    go_wp2_with fail
                    go_ret
                    exact ⟨by first | (rw [HG'.out]; rfl) | rw [HG'.out], HB8.out⟩
        -- so far
      · have hkN : k = N := by omega
        have HQ' := Hid.mk (HQ.out hkN)
        have hl1 : ¬ (k : Int) < (N : Int) := by omega
        clear HQ hkN
        go_wp2_with fail
        go_ret
        exact ⟨by first | (rw [HQ'.out]; rfl) | rw [HQ'.out], HB.out⟩
end Go.Proofs.Ytahknjhphbpmiaa
