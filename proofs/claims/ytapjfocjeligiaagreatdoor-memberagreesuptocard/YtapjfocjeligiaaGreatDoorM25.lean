import Derived.Test.YtapjfocjeligiaaGreatDoorM21
import Derived.Test.YtapjfocjeligiaaGreatDoorM24
import Derived.Test.YtapjfocjeligiaaGreatDoorM12
namespace Go.Proofs.YtapjfocjeligiaaGreatDoor
open Go.RowKit Go.Shelf Go.Sort
set_option linter.unusedVariables false
set_option linter.unusedSimpArgs false
attribute [local go_sem] Oper.semAt_some

/-- a span is as it must be -/
def spOk (p : ByteArray × ByteArray) : Bool := bndB p.1 && (bndB p.2 && (p.1.size == 0 || (p.2.size == 0 || decide (numC p.1 p.2 ≤ 0))))
/-- spans are as they must be -/
def spB : List (ByteArray × ByteArray) → Bool
  | [] => true
  | [p] => spOk p
  | _ => false
theorem list_none {s : ByteArray} (h : s.size = 0) : s.toList = [] := by
  rw [Lib.toList_data]
  exact List.eq_nil_of_length_eq_zero (by rw [Array.length_toList]; exact h)
theorem list_some {s : ByteArray} (h : ¬ s.size = 0) : ¬ s.toList = [] := fun h0 => h (by
  rw [Lib.toList_data] at h0
  have h2 := congrArg List.length h0
  rw [Array.length_toList] at h2
  exact h2)

set_option maxRecDepth 100000 in
set_option maxHeartbeats 1600000 in
theorem w_rSpans (so : Option Addr) (N cap : Nat) (ps : List (ByteArray × ByteArray)) (w : World) (hI : SpIn w so ps) (hN : ps.length = N) (hc : N ≤ cap) (hN2 : N ≤ 140737488355328) (hs : ∀ p ∈ ps, p.1.size ≤ 140737488355328 ∧ p.2.size ≤ 140737488355328) :
    Calls Tryz.prog 27 #[.slice so N cap] w fun e w' => e = .returned (.bool (spB ps)) ∧ Below w.heap.size w w' := by
  by_cases h1 : 1 < N
  · have hf : spB ps = false := by
      match ps, hN with
      | [], h => simp at h; omega
      | [p], h => simp at h; omega
      | _ :: _ :: _, _ => rfl
    rw [hf]
    have h1' : (1 : Int) < (N : Int) := by omega
    clear hI hN hs h1 hf
    go_enter Tryz.func27, Tryz.ntmps27
    go_wp2_with fail
    go_ret
    exact ⟨rfl, Below.refl _ _⟩
  · have h1' : ¬ (1 : Int) < (N : Int) := by omega
    have HI := Hid.mk hI
    have HN := Hid.mk hN
    have HS := Hid.mk hs
    clear hI hN hs
    go_enter Tryz.func27, Tryz.ntmps27
    go_wp2_with fail
    go_loopw [3] (fun i wr => ∃ k : Nat, k ≤ N ∧ i = .int .i64 (k : Int) ∧ Hid (Below w.heap.size w wr) ∧ Hid (k = N → spB ps = true)) (fun i _ => N - (intOf i).toNat)
    case atStart =>
      refine ⟨0, Nat.zero_le _, rfl, Below.refl _ _, fun h0 => ?_⟩
      have : ps = [] := List.eq_nil_of_length_eq_zero (by rw [HN.out]; exact h0.symm)
      rw [this]; rfl
    case round =>
      obtain ⟨k, hk, rfl, HB, HQ⟩ := hrel
      by_cases hlt : k < N
      · have hl1 : (k : Int) < (N : Int) := by omega
        have hl0 : (0 : Int) ≤ (k : Int) := by omega
        have hkl : k < ps.length := by rw [HN.out]; exact hlt
        obtain ⟨p, hp⟩ : ∃ p, ps = [p] := by
          match ps, HN.out, hkl with
          | [], _, h => cases h
          | [p], _, _ => exact ⟨p, rfl⟩
          | _ :: _ :: _, h, _ => simp at h; omega
        obtain ⟨b, off, hso, hbl, hrow⟩ := (HI.out.keep HB.out).row (by omega)
        subst hso
        subst hp
        have hk0 : k = 0 := by omega
        subst hk0
        have hl1 : (0 : Int) < (N : Int) := by omega
        clear hl0
        have hrow0 := hrow 0 hkl
        obtain ⟨z1, z2⟩ := HS.out p (List.mem_singleton.2 rfl)
        obtain ⟨lo, hi⟩ := p
        dsimp only [List.getElem_cons_zero] at hrow0 z1 z2
        obtain ⟨c0, c1⟩ := hrow0
        simp only [Nat.zero_mul, Nat.add_zero] at c0 c1
        have HC0 := Hid.mk (fun u => w_rbound lo u z1)
        have HC1 := Hid.mk (fun u => w_rbound hi u z2)
        have HG : Hid (spB [(lo, hi)] = (bndB lo && (bndB hi && (lo.size == 0 || (hi.size == 0 || decide (numC lo hi ≤ 0)))))) := rfl
        clear HQ hrow hkl HS HI
        cases e0 : bndB lo with
        | false =>
          have HG' : Hid (spB [(lo, hi)] = false) := by show _ = _; rw [HG.out, e0]; rfl
          rw [e0] at HC0
          clear e0
          go_wp2_with fail
          refine (HC0.out _).mono ?_
          rintro e w1 ⟨rfl, rfl⟩
          go_wp2_with fail
          go_ret
          exact ⟨by first | (rw [HG'.out]; rfl) | rw [HG'.out], HB.out⟩
        | true =>
          cases e1 : bndB hi with
          | false =>
            have HG' : Hid (spB [(lo, hi)] = false) := by show _ = _; rw [HG.out, e0, e1]; rfl
            rw [e0] at HC0
            rw [e1] at HC1
            clear e0 e1
            go_wp2_with fail
            refine (HC0.out _).mono ?_
            rintro e w1 ⟨rfl, rfl⟩
            go_wp2_with fail
            refine (HC1.out _).mono ?_
            rintro e w2 ⟨rfl, rfl⟩
            go_wp2_with fail
            go_ret
            exact ⟨by first | (rw [HG'.out]; rfl) | rw [HG'.out], HB.out⟩
          | true =>
            have HE := Hid.mk (And.intro e0 e1)
            rw [e0] at HC0
            rw [e1] at HC1
            clear e0 e1
            go_wp2_with fail
            refine (HC0.out _).mono ?_
            rintro e w1 ⟨rfl, rfl⟩
            go_wp2_with fail
            refine (HC1.out _).mono ?_
            rintro e w2 ⟨rfl, rfl⟩
            go_wp2_with fail
            by_cases hz1 : lo.size = 0
            · have hn1 := list_none hz1
              have HG' : Hid (spB [(lo, hi)] = true) := by show _ = _; rw [HG.out, HE.out.1, HE.out.2, hz1]; rfl
              clear hz1
              go_quiet (fail)
              have HB2 : Hid (Below w.heap.size w (w2.drewN nq)) := below_drewN HB.out _
              go_wp2_with fail
              go_roundw
              case rel => exact ⟨0 + 1, hlt, by go_num, HB2, fun _ => HG'.out⟩
              case measure => simp [intOf]; omega
            · have hn1 : lo.toList.isEmpty = false := by have := list_some hz1; cases hh : lo.toList with | nil => exact absurd hh this | cons => rfl
              by_cases hz2 : hi.size = 0
              · have hn2 : hi.toList.isEmpty = true := by rw [list_none hz2]; rfl
                have HG' : Hid (spB [(lo, hi)] = true) := by show _ = _; rw [HG.out, HE.out.1, HE.out.2, hz2, beq_false_of_ne hz1]; rfl
                clear hz1 hz2
                have A0 := fun d os => cell_regrown c0 d os
                have A1 := fun d os => cell_regrown c1 d os
                refine wp_region_quiet_below (by kernel_rfl) (by kernel_rfl) ?_
                repeat (go_big_quiet_step (fail))
                refine wpQuiet_nil ?_
                intro w9 hw'
                have hb9 : Below w2.heap.size w2 w9 := by
                  obtain ⟨⟨dq, osq⟩, rfl⟩ := hw'
                  exact below_regrown w2 dq osq
                have HB2 : Hid (Below w.heap.size w w9) := HB.out.trans (hb9.mono HB.out.size)
                clear hw' hb9 A0 A1 c0 c1
                go_wp2_with fail
                go_roundw
                case rel => exact ⟨0 + 1, hlt, by go_num, HB2, fun _ => HG'.out⟩
                case measure => simp [intOf]; omega
              · have hn2 : hi.toList.isEmpty = false := by have := list_some hz2; cases hh : hi.toList with | nil => exact absurd hh this | cons => rfl
                have f1 : Pl.formed lo.data.toList = true := by have := HE.out.1; simpa [bndB, hz1] using this
                have f2 : Pl.formed hi.data.toList = true := by have := HE.out.2; simpa [bndB, hz2] using this
                have HC2 := Hid.mk (fun (d : Nat) (os : Array Obj) => w_Numbers lo hi (grow (redrawn w2 d) os) f1 f2 z1 z2)
                have HG2 : Hid (spB [(lo, hi)] = decide (numC lo hi ≤ 0)) := by show _ = _; rw [HG.out, HE.out.1, HE.out.2, beq_false_of_ne hz1, beq_false_of_ne hz2]; rfl
                generalize numC lo hi = c at HC2 HG2
                clear hz1 hz2 f1 f2
                have A0 := fun d os => cell_regrown c0 d os
                have A1 := fun d os => cell_regrown c1 d os
                by_cases hcz : c ≤ 0
                · have HG' : Hid (spB [(lo, hi)] = true) := by show _ = _; rw [HG2.out]; exact decide_eq_true hcz
                  have hcz' : ¬ 0 < c := by omega
                  clear hcz
                  refine wp_region_quiet_below (by kernel_rfl) (by kernel_rfl) ?_
                  repeat (go_big_quiet_step (exact Calls.regrown_of (HC2.out _ _)))
                  refine wpQuiet_nil ?_
                  intro w9 hw'
                  have hb9 : Below w2.heap.size w2 w9 := by
                    obtain ⟨⟨dq, osq⟩, rfl⟩ := hw'
                    exact below_regrown w2 dq osq
                  have HB2 : Hid (Below w.heap.size w w9) := HB.out.trans (hb9.mono HB.out.size)
                  clear hw' hb9 A0 A1 c0 c1
                  go_wp2_with fail
                  go_roundw
                  case rel => exact ⟨0 + 1, hlt, by go_num, HB2, fun _ => HG'.out⟩
                  case measure => simp [intOf]; omega
                · have HG' : Hid (spB [(lo, hi)] = false) := by show _ = _; rw [HG2.out]; exact decide_eq_false hcz
                  have hcz' : 0 < c := by omega
                  clear hcz
                  refine wp_region_quiet_below (by kernel_rfl) (by kernel_rfl) ?_
                  repeat (go_big_quiet_step (exact Calls.regrown_of (HC2.out _ _)))
                  refine wpQuiet_nil ?_
                  intro w9 hw'
                  have hb9 : Below w2.heap.size w2 w9 := by
                    obtain ⟨⟨dq, osq⟩, rfl⟩ := hw'
                    exact below_regrown w2 dq osq
                  have HB2 : Hid (Below w.heap.size w w9) := HB.out.trans (hb9.mono HB.out.size)
                  clear hw' hb9 A0 A1 c0 c1
                  go_wp2_with fail
                  go_ret
                  exact ⟨by first | (rw [HG'.out]; rfl) | rw [HG'.out], HB2.out⟩
      · have hkN : k = N := by omega
        have HQ' := Hid.mk (HQ.out hkN)
        have hl1 : ¬ (k : Int) < (N : Int) := by omega
        clear HQ hkN
        go_wp2_with fail
        go_ret
        exact ⟨by first | (rw [HQ'.out]; rfl) | rw [HQ'.out], HB.out⟩
end Go.Proofs.YtapjfocjeligiaaGreatDoor
namespace Go.Proofs.YtapjfocjeligiaaGreatDoor
open Go.RowKit Go.Shelf Go.Sort
set_option linter.unusedVariables false
set_option linter.unusedSimpArgs false
attribute [local go_sem] Oper.semAt_some

/-- an array's type is as it must be -/
def arOk (f : TT → Bool) (a : AR) : Bool := !(decide (a.min < 0) || decide (a.max < -1) || (decide (0 ≤ a.max) && decide (a.max < a.min))) && (f a.item && (a.item.never == decide (a.max = 0)))
/-- arrays' types are as they must be -/
def arB (f : TT → Bool) : List AR → Bool
  | [] => true
  | [a] => arOk f a
  | _ => false
/-- a field and whether it must be there are as they must be -/
def fdOk (f : TT → Bool) (t : TT) (m : Bool) : Bool := f t && !(m && t.never)
/-- an alternative is as it must be -/
def obOk (f : TT → Bool) (o : OB) : Bool := decide (o.names.length = o.fields.length) && (decide (o.names.length = o.must.length) && ((rK o.names o.names.length && oK o.names o.names.length) && (f o.rest && (o.fields.zip o.must).all fun p => fdOk f p.1 p.2)))
/-- a type is well shaped -/
def fmN : Nat → TT → Bool
  | 0, _ => false
  | h + 1, T => !(T.all && !T.bare) && ((rK T.texts T.texts.length && oK T.texts T.texts.length) && (!(T.any && decide (0 < T.texts.length)) && (spB T.nums && (arB (fmN h) T.arrs && T.objs.all (obOk (fmN h))))))
/-- Formed answers so -/
def FtOk (h : Nat) : Prop := ∀ (T : TT) (v : Value) (u : World), InT u h T v → Calls Tryz.prog 14 #[v] u fun e w' => e = .returned (.bool (fmN h T)) ∧ Below u.heap.size u w'
/-- a row of arrays' types, as it lies -/
structure ArIn (W : World) (h : Nat) (ao : Option Addr) (rs : List AR) : Prop where
  row : 0 < rs.length → ∃ b off, ao = some ⟨b, off, none⟩ ∧ b < W.heap.size ∧ ∀ i, (hi : i < rs.length) → ∃ c0 c1 c2 c3 c4 c5 c6 c7 c8 : Value,
        C9 W b (off + i * 11) c0 c1 c2 c3 c4 c5 c6 c7 c8 ∧ W.cell? ⟨b, off + i * 11 + 9, none⟩ = some (.int .i64 rs[i].min) ∧ W.cell? ⟨b, off + i * 11 + 10, none⟩ = some (.int .i64 rs[i].max) ∧
        InT W h rs[i].item (.agg #[c0, c1, c2, c3, c4, c5, c6, c7, c8])
theorem ArIn.keep {W W' : World} {h : Nat} {ao : Option Addr} {rs : List AR} (x : ArIn W h ao rs) (hb : Below W.heap.size W W') : ArIn W' h ao rs := by
  refine ⟨fun h0 => ?_⟩
  obtain ⟨b, off, e2, hl, hc⟩ := x.row h0
  refine ⟨b, off, e2, Nat.lt_of_lt_of_le hl hb.size, fun i hi => ?_⟩
  obtain ⟨c0, c1, c2, c3, c4, c5, c6, c7, c8, h1, h2, h3, h4⟩ := hc i hi
  exact ⟨c0, c1, c2, c3, c4, c5, c6, c7, c8, h1.keep hb hl, (hb.cell (p := ⟨_, _, _⟩) hl).trans h2, (hb.cell (p := ⟨_, _, _⟩) hl).trans h3, h4.keep hb⟩

set_option maxRecDepth 100000 in
set_option maxHeartbeats 3200000 in
theorem w_rarrays (h : Nat) (ih : FtOk h) (ao : Option Addr) (N cap : Nat) (rs : List AR) (w : World) (hI : ArIn w h ao rs) (hN : rs.length = N) (hc : N ≤ cap) (hN2 : N ≤ 140737488355328) :
    Calls Tryz.prog 28 #[.slice ao N cap] w fun e w' => e = .returned (.bool (arB (fmN h) rs)) ∧ Below w.heap.size w w' := by
  by_cases h1 : 1 < N
  · have hf : arB (fmN h) rs = false := by
      match rs, hN with
      | [], h => simp at h; omega
      | [p], h => simp at h; omega
      | _ :: _ :: _, _ => rfl
    rw [hf]
    have h1' : (1 : Int) < (N : Int) := by omega
    clear hI hN h1 hf
    go_enter Tryz.func28, Tryz.ntmps28
    go_wp2_with fail
    go_ret
    exact ⟨rfl, Below.refl _ _⟩
  · have h1' : ¬ (1 : Int) < (N : Int) := by omega
    have HI := Hid.mk hI
    have HN := Hid.mk hN
    have HIh := Hid.mk ih
    clear hI hN ih
    go_enter Tryz.func28, Tryz.ntmps28
    go_wp2_with fail
    go_loopw [3] (fun i wr => ∃ k : Nat, k ≤ N ∧ i = .int .i64 (k : Int) ∧ Hid (Below w.heap.size w wr) ∧ Hid (k = N → arB (fmN h) rs = true)) (fun i _ => N - (intOf i).toNat)
    case atStart =>
      refine ⟨0, Nat.zero_le _, rfl, Below.refl _ _, fun h0 => ?_⟩
      have : rs = [] := List.eq_nil_of_length_eq_zero (by rw [HN.out]; exact h0.symm)
      rw [this]; rfl
    case round =>
      obtain ⟨k, hk, rfl, HB, HQ⟩ := hrel
      by_cases hlt : k < N
      · have hl1 : (k : Int) < (N : Int) := by omega
        have hl0 : (0 : Int) ≤ (k : Int) := by omega
        have hkl : k < rs.length := by rw [HN.out]; exact hlt
        obtain ⟨p, hp⟩ : ∃ p, rs = [p] := by
          match rs, HN.out, hkl with
          | [], _, h => cases h
          | [p], _, _ => exact ⟨p, rfl⟩
          | _ :: _ :: _, h, _ => simp at h; omega
        obtain ⟨b, off, hso, hbl, hrow⟩ := (HI.out.keep HB.out).row (by omega)
        subst hso
        subst hp
        have hk0 : k = 0 := by omega
        subst hk0
        have hl1 : (0 : Int) < (N : Int) := by omega
        clear hl0
        have hrow0 := hrow 0 hkl
        dsimp only [List.getElem_cons_zero] at hrow0
        obtain ⟨c0, c1, c2, c3, c4, c5, c6, c7, c8, hc9, m0, m1, hct⟩ := hrow0
        simp only [Nat.zero_mul, Nat.add_zero] at hc9 m0 m1
        have HF := Hid.mk (fun (u : World) (hu : Below wr.heap.size wr u) => HIh.out p.item _ u (hct.keep hu))
        have HV := Hid.mk (fun (u : World) (hu : Below wr.heap.size wr u) => w_rNever h p.item _ u (hct.keep hu))
        obtain ⟨e0, e1, e2, e3, e4, e5, e6, e7, e8, esh⟩ := inT_shape hct
        simp only [Value.agg.injEq, Array.mk.injEq, List.cons.injEq, and_true] at esh
        obtain ⟨rfl, rfl, rfl, rfl, rfl, rfl, rfl, rfl, rfl⟩ := esh
        obtain ⟨q0, q1, q2, q3, q4, q5, q6, q7, q8⟩ := hc9
        have HG : Hid (arB (fmN h) [p] = (!(decide (p.min < 0) || decide (p.max < -1) || (decide (0 ≤ p.max) && decide (p.max < p.min))) && (fmN h p.item && (p.item.never == decide (p.max = 0))))) := rfl
        generalize fmN h p.item = f at HF HG
        generalize p.item.never = g at HV HG
        generalize p.min = mn at *
        generalize p.max = mx at *
        clear HQ hrow hkl HI hct
        -- the walk
        by_cases k1 : mn < 0
        · have k1d := decide_eq_true k1
          have HG' : Hid (arB (fmN h) [p] = false) := by show _ = _; rw [HG.out, k1d]; rfl
          have M0 := fun d os => cell_regrown m0 d os
          have M1 := fun d os => cell_regrown m1 d os
          go_wp2_with fail
          refine wp_region_quiet_below (by kernel_rfl) (by kernel_rfl) ?_
          repeat (go_big_quiet_step (fail))
          refine wpQuiet_nil ?_
          intro u6 hw'
          have hu6 : Below wr.heap.size wr u6 := by
            obtain ⟨⟨dq, osq⟩, rfl⟩ := hw'
            exact below_regrown wr dq osq
          clear hw' M0 M1
          have HB6 := Hid.mk (HB.out.trans (hu6.mono HB.out.size))
          clear hu6
          go_wp2_with fail
          go_ret
          exact ⟨by first | (rw [HG'.out]; rfl) | rw [HG'.out], HB6.out⟩
        · have k1d := decide_eq_false k1
          by_cases k2 : mx < -1
          · have k2d := decide_eq_true k2
            have HG' : Hid (arB (fmN h) [p] = false) := by show _ = _; rw [HG.out, k1d, k2d]; rfl
            have M0 := fun d os => cell_regrown m0 d os
            have M1 := fun d os => cell_regrown m1 d os
            go_wp2_with fail
            refine wp_region_quiet_below (by kernel_rfl) (by kernel_rfl) ?_
            repeat (go_big_quiet_step (fail))
            refine wpQuiet_nil ?_
            intro u6 hw'
            have hu6 : Below wr.heap.size wr u6 := by
              obtain ⟨⟨dq, osq⟩, rfl⟩ := hw'
              exact below_regrown wr dq osq
            clear hw' M0 M1
            have HB6 := Hid.mk (HB.out.trans (hu6.mono HB.out.size))
            clear hu6
            go_wp2_with fail
            go_ret
            exact ⟨by first | (rw [HG'.out]; rfl) | rw [HG'.out], HB6.out⟩
          · have k2d := decide_eq_false k2
            by_cases k3 : 0 ≤ mx
            · have k3d := decide_eq_true k3
              by_cases k4 : mx < mn
              · have k4d := decide_eq_true k4
                have HG' : Hid (arB (fmN h) [p] = false) := by show _ = _; rw [HG.out, k1d, k2d, k3d, k4d]; rfl
                have M0 := fun d os => cell_regrown m0 d os
                have M1 := fun d os => cell_regrown m1 d os
                go_wp2_with fail
                refine wp_region_quiet_below (by kernel_rfl) (by kernel_rfl) ?_
                repeat (go_big_quiet_step (fail))
                refine wpQuiet_nil ?_
                intro u6 hw'
                have hu6 : Below wr.heap.size wr u6 := by
                  obtain ⟨⟨dq, osq⟩, rfl⟩ := hw'
                  exact below_regrown wr dq osq
                clear hw' M0 M1
                have HB6 := Hid.mk (HB.out.trans (hu6.mono HB.out.size))
                clear hu6
                go_wp2_with fail
                go_ret
                exact ⟨by first | (rw [HG'.out]; rfl) | rw [HG'.out], HB6.out⟩
              · have k4d := decide_eq_false k4
                have M0 := fun d os => cell_regrown m0 d os
                have M1 := fun d os => cell_regrown m1 d os
                go_wp2_with fail
                refine wp_region_quiet_below (by kernel_rfl) (by kernel_rfl) ?_
                repeat (go_big_quiet_step (fail))
                refine wpQuiet_nil ?_
                intro u6 hw'
                have hu6 : Below wr.heap.size wr u6 := by
                  obtain ⟨⟨dq, osq⟩, rfl⟩ := hw'
                  exact below_regrown wr dq osq
                clear hw' M0 M1
                have HB6 := Hid.mk (HB.out.trans (hu6.mono HB.out.size))
                have q0u := (hu6.cell (p := ⟨_, _, _⟩) hbl).trans q0
                have q1u := (hu6.cell (p := ⟨_, _, _⟩) hbl).trans q1
                have q2u := (hu6.cell (p := ⟨_, _, _⟩) hbl).trans q2
                have q3u := (hu6.cell (p := ⟨_, _, _⟩) hbl).trans q3
                have q4u := (hu6.cell (p := ⟨_, _, _⟩) hbl).trans q4
                have q5u := (hu6.cell (p := ⟨_, _, _⟩) hbl).trans q5
                have q6u := (hu6.cell (p := ⟨_, _, _⟩) hbl).trans q6
                have q7u := (hu6.cell (p := ⟨_, _, _⟩) hbl).trans q7
                have q8u := (hu6.cell (p := ⟨_, _, _⟩) hbl).trans q8
                have m1u := (hu6.cell (p := ⟨_, _, _⟩) hbl).trans m1
                have HF6 := Hid.mk (fun (d : Nat) (os : Array Obj) => HF.out (grow (redrawn u6 d) os) (hu6.trans ((below_regrown u6 d os).mono hu6.size)))
                have HV6 := Hid.mk (fun (d : Nat) (os : Array Obj) => HV.out (grow (redrawn u6 d) os) (hu6.trans ((below_regrown u6 d os).mono hu6.size)))
                clear hu6 HF HV m0 m1 q0 q1 q2 q3 q4 q5 q6 q7 q8
                go_wp2_with fail
                have Q0 := fun d os => cell_regrown q0u d os
                have Q1 := fun d os => cell_regrown q1u d os
                have Q2 := fun d os => cell_regrown q2u d os
                have Q3 := fun d os => cell_regrown q3u d os
                have Q4 := fun d os => cell_regrown q4u d os
                have Q5 := fun d os => cell_regrown q5u d os
                have Q6 := fun d os => cell_regrown q6u d os
                have Q7 := fun d os => cell_regrown q7u d os
                have Q8 := fun d os => cell_regrown q8u d os
                have M1 := fun d os => cell_regrown m1u d os
                cases f with
                | false =>
                  have HG' : Hid (arB (fmN h) [p] = false) := by show _ = _; rw [HG.out, k1d, k2d, k3d, k4d]; rfl
                  refine wp_region_quiet_below (by kernel_rfl) (by kernel_rfl) ?_
                  repeat (go_big_quiet_step (first | exact Calls.regrown_of (HF6.out _ _) | exact Calls.regrown_of (HV6.out _ _)))
                  refine wpQuiet_nil ?_
                  intro u8 hw'
                  have hu8 : Below u6.heap.size u6 u8 := by
                    obtain ⟨⟨dq, osq⟩, rfl⟩ := hw'
                    exact below_regrown u6 dq osq
                  clear hw' M1 Q0 Q1 Q2 Q3 Q4 Q5 Q6 Q7 Q8 m1u q0u q1u q2u q3u q4u q5u q6u q7u q8u
                  have HB8 := Hid.mk (HB6.out.trans (hu8.mono HB6.out.size))
                  clear hu8
                  go_wp2_with fail
                  go_ret
                  exact ⟨by first | (rw [HG'.out]; rfl) | rw [HG'.out], HB8.out⟩
                | true =>
                  cases g with
                  | false =>
                    by_cases k5 : mx = 0
                    · have k5d := decide_eq_true k5
                      have k5' : (mx == 0) = true := by simp [k5]
                      have HG' : Hid (arB (fmN h) [p] = false) := by show _ = _; rw [HG.out, k1d, k2d, k3d, k4d, k5d]; rfl
                      clear k5d
                      refine wp_region_quiet_below (by kernel_rfl) (by kernel_rfl) ?_
                      repeat (go_big_quiet_step (first | exact Calls.regrown_of (HF6.out _ _) | exact Calls.regrown_of (HV6.out _ _)))
                      refine wpQuiet_nil ?_
                      intro u8 hw'
                      have hu8 : Below u6.heap.size u6 u8 := by
                        obtain ⟨⟨dq, osq⟩, rfl⟩ := hw'
                        exact below_regrown u6 dq osq
                      clear hw' M1 Q0 Q1 Q2 Q3 Q4 Q5 Q6 Q7 Q8 m1u q0u q1u q2u q3u q4u q5u q6u q7u q8u
                      have HB8 := Hid.mk (HB6.out.trans (hu8.mono HB6.out.size))
                      clear hu8
                      go_wp2_with fail
                      go_ret
                      exact ⟨by first | (rw [HG'.out]; rfl) | rw [HG'.out], HB8.out⟩
                    · have k5d := decide_eq_false k5
                      have k5' : (mx == 0) = false := by simp [k5]
                      have HG' : Hid (arB (fmN h) [p] = true) := by show _ = _; rw [HG.out, k1d, k2d, k3d, k4d, k5d]; rfl
                      clear k5d
                      refine wp_region_quiet_below (by kernel_rfl) (by kernel_rfl) ?_
                      repeat (go_big_quiet_step (first | exact Calls.regrown_of (HF6.out _ _) | exact Calls.regrown_of (HV6.out _ _)))
                      refine wpQuiet_nil ?_
                      intro u8 hw'
                      have hu8 : Below u6.heap.size u6 u8 := by
                        obtain ⟨⟨dq, osq⟩, rfl⟩ := hw'
                        exact below_regrown u6 dq osq
                      clear hw' M1 Q0 Q1 Q2 Q3 Q4 Q5 Q6 Q7 Q8 m1u q0u q1u q2u q3u q4u q5u q6u q7u q8u
                      have HB8 := Hid.mk (HB6.out.trans (hu8.mono HB6.out.size))
                      clear hu8
                      go_wp2_with fail
                      go_roundw
                      case rel => exact ⟨0 + 1, hlt, by go_num, HB8, fun _ => HG'.out⟩
                      case measure => simp [intOf]; omega
                  | true =>
                    by_cases k5 : mx = 0
                    · have k5d := decide_eq_true k5
                      have k5' : (mx == 0) = true := by simp [k5]
                      have HG' : Hid (arB (fmN h) [p] = true) := by show _ = _; rw [HG.out, k1d, k2d, k3d, k4d, k5d]; rfl
                      clear k5d
                      refine wp_region_quiet_below (by kernel_rfl) (by kernel_rfl) ?_
                      repeat (go_big_quiet_step (first | exact Calls.regrown_of (HF6.out _ _) | exact Calls.regrown_of (HV6.out _ _)))
                      refine wpQuiet_nil ?_
                      intro u8 hw'
                      have hu8 : Below u6.heap.size u6 u8 := by
                        obtain ⟨⟨dq, osq⟩, rfl⟩ := hw'
                        exact below_regrown u6 dq osq
                      clear hw' M1 Q0 Q1 Q2 Q3 Q4 Q5 Q6 Q7 Q8 m1u q0u q1u q2u q3u q4u q5u q6u q7u q8u
                      have HB8 := Hid.mk (HB6.out.trans (hu8.mono HB6.out.size))
                      clear hu8
                      go_wp2_with fail
                      go_roundw
                      case rel => exact ⟨0 + 1, hlt, by go_num, HB8, fun _ => HG'.out⟩
                      case measure => simp [intOf]; omega
                    · have k5d := decide_eq_false k5
                      have k5' : (mx == 0) = false := by simp [k5]
                      have HG' : Hid (arB (fmN h) [p] = false) := by show _ = _; rw [HG.out, k1d, k2d, k3d, k4d, k5d]; rfl
                      clear k5d
                      refine wp_region_quiet_below (by kernel_rfl) (by kernel_rfl) ?_
                      repeat (go_big_quiet_step (first | exact Calls.regrown_of (HF6.out _ _) | exact Calls.regrown_of (HV6.out _ _)))
                      refine wpQuiet_nil ?_
                      intro u8 hw'
                      have hu8 : Below u6.heap.size u6 u8 := by
                        obtain ⟨⟨dq, osq⟩, rfl⟩ := hw'
                        exact below_regrown u6 dq osq
                      clear hw' M1 Q0 Q1 Q2 Q3 Q4 Q5 Q6 Q7 Q8 m1u q0u q1u q2u q3u q4u q5u q6u q7u q8u
                      have HB8 := Hid.mk (HB6.out.trans (hu8.mono HB6.out.size))
                      clear hu8
                      go_wp2_with fail
                      go_ret
                      exact ⟨by first | (rw [HG'.out]; rfl) | rw [HG'.out], HB8.out⟩
            · have k3d := decide_eq_false k3
              have M0 := fun d os => cell_regrown m0 d os
              have M1 := fun d os => cell_regrown m1 d os
              go_wp2_with fail
              refine wp_region_quiet_below (by kernel_rfl) (by kernel_rfl) ?_
              repeat (go_big_quiet_step (fail))
              refine wpQuiet_nil ?_
              intro u6 hw'
              have hu6 : Below wr.heap.size wr u6 := by
                obtain ⟨⟨dq, osq⟩, rfl⟩ := hw'
                exact below_regrown wr dq osq
              clear hw' M0 M1
              have HB6 := Hid.mk (HB.out.trans (hu6.mono HB.out.size))
              have q0u := (hu6.cell (p := ⟨_, _, _⟩) hbl).trans q0
              have q1u := (hu6.cell (p := ⟨_, _, _⟩) hbl).trans q1
              have q2u := (hu6.cell (p := ⟨_, _, _⟩) hbl).trans q2
              have q3u := (hu6.cell (p := ⟨_, _, _⟩) hbl).trans q3
              have q4u := (hu6.cell (p := ⟨_, _, _⟩) hbl).trans q4
              have q5u := (hu6.cell (p := ⟨_, _, _⟩) hbl).trans q5
              have q6u := (hu6.cell (p := ⟨_, _, _⟩) hbl).trans q6
              have q7u := (hu6.cell (p := ⟨_, _, _⟩) hbl).trans q7
              have q8u := (hu6.cell (p := ⟨_, _, _⟩) hbl).trans q8
              have m1u := (hu6.cell (p := ⟨_, _, _⟩) hbl).trans m1
              have HF6 := Hid.mk (fun (d : Nat) (os : Array Obj) => HF.out (grow (redrawn u6 d) os) (hu6.trans ((below_regrown u6 d os).mono hu6.size)))
              have HV6 := Hid.mk (fun (d : Nat) (os : Array Obj) => HV.out (grow (redrawn u6 d) os) (hu6.trans ((below_regrown u6 d os).mono hu6.size)))
              clear hu6 HF HV m0 m1 q0 q1 q2 q3 q4 q5 q6 q7 q8
              go_wp2_with fail
              have Q0 := fun d os => cell_regrown q0u d os
              have Q1 := fun d os => cell_regrown q1u d os
              have Q2 := fun d os => cell_regrown q2u d os
              have Q3 := fun d os => cell_regrown q3u d os
              have Q4 := fun d os => cell_regrown q4u d os
              have Q5 := fun d os => cell_regrown q5u d os
              have Q6 := fun d os => cell_regrown q6u d os
              have Q7 := fun d os => cell_regrown q7u d os
              have Q8 := fun d os => cell_regrown q8u d os
              have M1 := fun d os => cell_regrown m1u d os
              cases f with
              | false =>
                have HG' : Hid (arB (fmN h) [p] = false) := by show _ = _; rw [HG.out, k1d, k2d, k3d]; rfl
                refine wp_region_quiet_below (by kernel_rfl) (by kernel_rfl) ?_
                repeat (go_big_quiet_step (first | exact Calls.regrown_of (HF6.out _ _) | exact Calls.regrown_of (HV6.out _ _)))
                refine wpQuiet_nil ?_
                intro u8 hw'
                have hu8 : Below u6.heap.size u6 u8 := by
                  obtain ⟨⟨dq, osq⟩, rfl⟩ := hw'
                  exact below_regrown u6 dq osq
                clear hw' M1 Q0 Q1 Q2 Q3 Q4 Q5 Q6 Q7 Q8 m1u q0u q1u q2u q3u q4u q5u q6u q7u q8u
                have HB8 := Hid.mk (HB6.out.trans (hu8.mono HB6.out.size))
                clear hu8
                go_wp2_with fail
                go_ret
                exact ⟨by first | (rw [HG'.out]; rfl) | rw [HG'.out], HB8.out⟩
              | true =>
                cases g with
                | false =>
                  by_cases k5 : mx = 0
                  · exact absurd k5 (by omega)
                  · have k5d := decide_eq_false k5
                    have k5' : (mx == 0) = false := by simp [k5]
                    have HG' : Hid (arB (fmN h) [p] = true) := by show _ = _; rw [HG.out, k1d, k2d, k3d, k5d]; rfl
                    clear k5d
                    refine wp_region_quiet_below (by kernel_rfl) (by kernel_rfl) ?_
                    repeat (go_big_quiet_step (first | exact Calls.regrown_of (HF6.out _ _) | exact Calls.regrown_of (HV6.out _ _)))
                    refine wpQuiet_nil ?_
                    intro u8 hw'
                    have hu8 : Below u6.heap.size u6 u8 := by
                      obtain ⟨⟨dq, osq⟩, rfl⟩ := hw'
                      exact below_regrown u6 dq osq
                    clear hw' M1 Q0 Q1 Q2 Q3 Q4 Q5 Q6 Q7 Q8 m1u q0u q1u q2u q3u q4u q5u q6u q7u q8u
                    have HB8 := Hid.mk (HB6.out.trans (hu8.mono HB6.out.size))
                    clear hu8
                    go_wp2_with fail
                    go_roundw
                    case rel => exact ⟨0 + 1, hlt, by go_num, HB8, fun _ => HG'.out⟩
                    case measure => simp [intOf]; omega
                | true =>
                  by_cases k5 : mx = 0
                  · exact absurd k5 (by omega)
                  · have k5d := decide_eq_false k5
                    have k5' : (mx == 0) = false := by simp [k5]
                    have HG' : Hid (arB (fmN h) [p] = false) := by show _ = _; rw [HG.out, k1d, k2d, k3d, k5d]; rfl
                    clear k5d
                    refine wp_region_quiet_below (by kernel_rfl) (by kernel_rfl) ?_
                    repeat (go_big_quiet_step (first | exact Calls.regrown_of (HF6.out _ _) | exact Calls.regrown_of (HV6.out _ _)))
                    refine wpQuiet_nil ?_
                    intro u8 hw'
                    have hu8 : Below u6.heap.size u6 u8 := by
                      obtain ⟨⟨dq, osq⟩, rfl⟩ := hw'
                      exact below_regrown u6 dq osq
                    clear hw' M1 Q0 Q1 Q2 Q3 Q4 Q5 Q6 Q7 Q8 m1u q0u q1u q2u q3u q4u q5u q6u q7u q8u
                    have HB8 := Hid.mk (HB6.out.trans (hu8.mono HB6.out.size))
                    clear hu8
                    go_wp2_with fail
                    go_ret
                    exact ⟨by first | (rw [HG'.out]; rfl) | rw [HG'.out], HB8.out⟩
        -- so far
      · have hkN : k = N := by omega
        have HQ' := Hid.mk (HQ.out hkN)
        have hl1 : ¬ (k : Int) < (N : Int) := by omega
        clear HQ hkN
        go_wp2_with fail
        go_ret
        exact ⟨by first | (rw [HQ'.out]; rfl) | rw [HQ'.out], HB.out⟩
end Go.Proofs.YtapjfocjeligiaaGreatDoor
namespace Go.Proofs.YtapjfocjeligiaaGreatDoor
open Go.RowKit Go.Shelf Go.Sort
set_option linter.unusedVariables false
set_option linter.unusedSimpArgs false
attribute [local go_sem] Oper.semAt_some


/-- an alternative's box -/
structure OBx (w u : World) (a0 a1 a2 a3 a4 a5 a6 a7 a8 a9 a10 a11 : Value) : Prop where
  below : Below w.heap.size w u
  c0 : u.cell? ⟨w.heap.size, 0, none⟩ = some a0
  c1 : u.cell? ⟨w.heap.size, 1, none⟩ = some a1
  c2 : u.cell? ⟨w.heap.size, 2, none⟩ = some a2
  c3 : u.cell? ⟨w.heap.size, 3, none⟩ = some a3
  c4 : u.cell? ⟨w.heap.size, 4, none⟩ = some a4
  c5 : u.cell? ⟨w.heap.size, 5, none⟩ = some a5
  c6 : u.cell? ⟨w.heap.size, 6, none⟩ = some a6
  c7 : u.cell? ⟨w.heap.size, 7, none⟩ = some a7
  c8 : u.cell? ⟨w.heap.size, 8, none⟩ = some a8
  c9 : u.cell? ⟨w.heap.size, 9, none⟩ = some a9
  c10 : u.cell? ⟨w.heap.size, 10, none⟩ = some a10
  c11 : u.cell? ⟨w.heap.size, 11, none⟩ = some a11
  lt : w.heap.size < u.heap.size
theorem OBx.keep {w u u' : World} {a0 a1 a2 a3 a4 a5 a6 a7 a8 a9 a10 a11 : Value} (x : OBx w u a0 a1 a2 a3 a4 a5 a6 a7 a8 a9 a10 a11) (hb : Below u.heap.size u u') : OBx w u' a0 a1 a2 a3 a4 a5 a6 a7 a8 a9 a10 a11 :=
  ⟨x.below.trans (hb.mono x.below.size), (hb.cell (p := ⟨_, _, _⟩) x.lt).trans x.c0, (hb.cell (p := ⟨_, _, _⟩) x.lt).trans x.c1, (hb.cell (p := ⟨_, _, _⟩) x.lt).trans x.c2, (hb.cell (p := ⟨_, _, _⟩) x.lt).trans x.c3, (hb.cell (p := ⟨_, _, _⟩) x.lt).trans x.c4, (hb.cell (p := ⟨_, _, _⟩) x.lt).trans x.c5, (hb.cell (p := ⟨_, _, _⟩) x.lt).trans x.c6, (hb.cell (p := ⟨_, _, _⟩) x.lt).trans x.c7, (hb.cell (p := ⟨_, _, _⟩) x.lt).trans x.c8, (hb.cell (p := ⟨_, _, _⟩) x.lt).trans x.c9, (hb.cell (p := ⟨_, _, _⟩) x.lt).trans x.c10, (hb.cell (p := ⟨_, _, _⟩) x.lt).trans x.c11, Nat.lt_of_lt_of_le x.lt hb.size⟩
theorem obx_new (w : World) (a0 a1 a2 a3 a4 a5 a6 a7 a8 a9 a10 a11 : Value) : OBx w (w.alloc (.cells #[a0, a1, a2, a3, a4, a5, a6, a7, a8, a9, a10, a11] 60)) a0 a1 a2 a3 a4 a5 a6 a7 a8 a9 a10 a11 :=
  ⟨(Below.refl _ _).alloc (Nat.le_refl _) _, by simp [go_sem], by simp [go_sem], by simp [go_sem], by simp [go_sem], by simp [go_sem], by simp [go_sem], by simp [go_sem], by simp [go_sem], by simp [go_sem], by simp [go_sem], by simp [go_sem], by simp [go_sem], by simp⟩
/-- an alternative, as a value -/
structure InO (W : World) (h : Nat) (o : OB) (ko : Option Addr) (kc : Nat) (fo : Option Addr) (fc : Nat) (mo : Option Addr) (mc : Nat) (c0 c1 c2 c3 c4 c5 c6 c7 c8 : Value) : Prop where
  caps : o.names.length ≤ kc ∧ o.fields.length ≤ fc ∧ o.must.length ≤ mc
  lens : o.names.length ≤ 140737488355328 ∧ o.fields.length ≤ 140737488355328 ∧ o.must.length ≤ 140737488355328 ∧ ∀ k ∈ o.names, k.size ≤ 140737488355328
  nm : KIn W ko o.names
  ms : BoIn W mo o.must
  fd : 0 < o.fields.length → ∃ b2 off2, fo = some ⟨b2, off2, none⟩ ∧ b2 < W.heap.size ∧ ∀ j, (hj : j < o.fields.length) → ∃ d0 d1 d2 d3 d4 d5 d6 d7 d8 : Value,
    C9 W b2 (off2 + j * 9) d0 d1 d2 d3 d4 d5 d6 d7 d8 ∧ InT W h o.fields[j] (.agg #[d0, d1, d2, d3, d4, d5, d6, d7, d8])
  rest : InT W h o.rest (.agg #[c0, c1, c2, c3, c4, c5, c6, c7, c8])
theorem InO.keep {W W' : World} {h : Nat} {o : OB} {ko : Option Addr} {kc : Nat} {fo : Option Addr} {fc : Nat} {mo : Option Addr} {mc : Nat} {c0 c1 c2 c3 c4 c5 c6 c7 c8 : Value} (x : InO W h o ko kc fo fc mo mc c0 c1 c2 c3 c4 c5 c6 c7 c8) (hb : Below W.heap.size W W') : InO W' h o ko kc fo fc mo mc c0 c1 c2 c3 c4 c5 c6 c7 c8 := by
  refine ⟨x.caps, x.lens, x.nm.keep hb, x.ms.keep hb, fun hf => ?_, x.rest.keep hb⟩
  obtain ⟨b2, off2, e3, hl2, hd⟩ := x.fd hf
  refine ⟨b2, off2, e3, Nat.lt_of_lt_of_le hl2 hb.size, fun j hj => ?_⟩
  obtain ⟨d0, d1, d2, d3, d4, d5, d6, d7, d8, k1, k2⟩ := hd j hj
  exact ⟨d0, d1, d2, d3, d4, d5, d6, d7, d8, k1.keep hb hl2, k2.keep hb⟩
theorem zall_up {α : Type} {l : List α} {f : α → Bool} {k : Nat} (hk : k < l.length) : (l.take (k + 1)).all f = ((l.take k).all f && f l[k]) := by
  rw [List.take_add_one, List.getElem?_eq_getElem hk, List.all_append]; simp only [Option.toList_some, List.all_cons, List.all_nil, Bool.and_true]
theorem zall_no {α : Type} {l : List α} {f : α → Bool} {k : Nat} (hk : k < l.length) (h : f l[k] = false) : l.all f = false := by
  rw [← Bool.not_eq_true]; intro h2
  have := List.all_eq_true.1 h2 _ (List.getElem_mem hk)
  rw [h] at this; cases this

set_option maxRecDepth 100000 in
set_option maxHeartbeats 6400000 in
theorem w_robject (h : Nat) (ih : FtOk h) (o : OB) (ko : Option Addr) (kc : Nat) (fo : Option Addr) (fc : Nat) (mo : Option Addr) (mc : Nat) (c0 c1 c2 c3 c4 c5 c6 c7 c8 : Value) (w : World) (hI : InO w h o ko kc fo fc mo mc c0 c1 c2 c3 c4 c5 c6 c7 c8) :
    Calls Tryz.prog 47 #[.agg #[.slice ko o.names.length kc, .slice fo o.fields.length fc, .slice mo o.must.length mc, c0, c1, c2, c3, c4, c5, c6, c7, c8]] w fun e w' => e = .returned (.bool (obOk (fmN h) o)) ∧ Below w.heap.size w w' := by
  obtain ⟨e0, e1, e2, e3, ⟨e4, e4n, e4c⟩, e5, ⟨e6, e6n, e6c⟩, ⟨e7, e7n, e7c⟩, ⟨e8, e8n, e8c⟩, esh⟩ := inT_shape hI.rest
  simp only [Value.agg.injEq, Array.mk.injEq, List.cons.injEq, and_true] at esh
  obtain ⟨rfl, rfl, rfl, rfl, rfl, rfl, rfl, rfl, rfl⟩ := esh
  have HI := Hid.mk hI
  have HIh := Hid.mk ih
  obtain ⟨hk1, hk2, hk3⟩ := hI.caps
  obtain ⟨hs1, hs2, hs3, hs4⟩ := hI.lens
  have HS4 := Hid.mk hs4
  have HG : Hid (obOk (fmN h) o = (decide (o.names.length = o.fields.length) && (decide (o.names.length = o.must.length) && ((rK o.names o.names.length && oK o.names o.names.length) && (fmN h o.rest && (o.fields.zip o.must).all fun p => fdOk (fmN h) p.1 p.2))))) := rfl
  have HRi := Hid.mk (fun (u : World) (hu : Below w.heap.size w u) => w_Rise ko o.names.length kc o.names u (hI.nm.keep hu) rfl hk1 hs1 hs4)
  have HRe := Hid.mk (fun (u : World) (hu : Below w.heap.size w u) => ih o.rest _ u (hI.rest.keep hu))
  obtain ⟨K, hK⟩ : ∃ K, o.names.length = K := ⟨_, rfl⟩
  obtain ⟨F, hF⟩ : ∃ F, o.fields.length = F := ⟨_, rfl⟩
  obtain ⟨M, hM⟩ : ∃ M, o.must.length = M := ⟨_, rfl⟩
  have HF := Hid.mk hF
  have HM := Hid.mk hM
  rw [hK] at HG HRi hk1 hs1 ⊢
  rw [hF] at HG hk2 hs2 ⊢
  rw [hM] at HG hk3 hs3 ⊢
  obtain ⟨R, hR⟩ : ∃ R, obOk (fmN h) o = R := ⟨_, rfl⟩
  rw [hR] at HG ⊢
  obtain ⟨ri, hri⟩ : ∃ r, (rK o.names K && oK o.names K) = r := ⟨_, rfl⟩
  rw [hri] at HG HRi
  obtain ⟨re, hre⟩ : ∃ r, fmN h o.rest = r := ⟨_, rfl⟩
  rw [hre] at HG HRe
  have HX := Hid.mk (obx_new w (.slice ko K kc) (.slice fo F fc) (.slice mo M mc) (.bool e0) (.bool e1) (.bool e2) (.bool e3) (.slice e4 e4n e4c) (.bool e5) (.slice e6 e6n e6c) (.slice e7 e7n e7c) (.slice e8 e8n e8c))
  obtain ⟨W0, hW0⟩ : ∃ W0, W0 = w.alloc (.cells #[.slice ko K kc, .slice fo F fc, .slice mo M mc, .bool e0, .bool e1, .bool e2, .bool e3, .slice e4 e4n e4c, .bool e5, .slice e6 e6n e6c, .slice e7 e7n e7c, .slice e8 e8n e8c] 60) := ⟨_, rfl⟩
  rw [← hW0] at HX
  have hW0' := hW0.symm
  clear hI ih hs4 hK hF hM hR hri hre hW0
  obtain ⟨_, x0, x1, x2, x3, x4, x5, x6, x7, x8, x9, x10, x11, _⟩ := HX.out
  by_cases l1 : K = F
  · subst l1
    by_cases l2 : K = M
    · subst l2
      cases ri with
      | false =>
        have HG' : Hid (R = false) := by show _ = _; rw [HG.out, Bool.false_and, Bool.and_false, Bool.and_false]; try rfl
        go_enter Tryz.func47, Tryz.ntmps47
        go_wp2_with fail
        refine (HRi.out _ HX.out.below).mono ?_
        rintro e v1 ⟨rfl, hq⟩
        have HX1 := Hid.mk (HX.out.keep hq)
        clear hq x0 x1 x2 x3 x4 x5 x6 x7 x8 x9 x10 x11 hW0'
        obtain ⟨_, x0, x1, x2, x3, x4, x5, x6, x7, x8, x9, x10, x11, _⟩ := HX1.out
        go_wp2_with fail
        go_ret
        exact ⟨by first | (rw [HG'.out]; rfl) | rw [HG'.out], HX1.out.below⟩
      | true =>
        cases re with
        | false =>
          have HG' : Hid (R = false) := by show _ = _; rw [HG.out, Bool.false_and, Bool.and_false, Bool.and_false, Bool.and_false]; try rfl
          go_enter Tryz.func47, Tryz.ntmps47
          go_wp2_with fail
          refine (HRi.out _ HX.out.below).mono ?_
          rintro e v1 ⟨rfl, hq⟩
          have HX1 := Hid.mk (HX.out.keep hq)
          clear hq x0 x1 x2 x3 x4 x5 x6 x7 x8 x9 x10 x11 hW0'
          obtain ⟨_, x0, x1, x2, x3, x4, x5, x6, x7, x8, x9, x10, x11, _⟩ := HX1.out
          go_wp2_with fail
          refine (HRe.out _ HX1.out.below).mono ?_
          rintro e v2 ⟨rfl, hq⟩
          have HX2 := Hid.mk (HX1.out.keep hq)
          clear hq x0 x1 x2 x3 x4 x5 x6 x7 x8 x9 x10 x11
          obtain ⟨_, x0, x1, x2, x3, x4, x5, x6, x7, x8, x9, x10, x11, _⟩ := HX2.out
          go_wp2_with fail
          go_ret
          exact ⟨by first | (rw [HG'.out]; rfl) | rw [HG'.out], HX2.out.below⟩
        | true =>
          obtain ⟨zs, hzs⟩ : ∃ zs, o.fields.zip o.must = zs := ⟨_, rfl⟩
          have HZL : Hid (zs.length = K) := by show _ = _; rw [← hzs, List.length_zip, HF.out, HM.out]; omega
          have HZ : Hid (∀ j, (hj : j < zs.length) → ∃ (h1 : j < o.fields.length) (h2 : j < o.must.length), zs[j] = (o.fields[j], o.must[j])) := by
            intro j hj
            subst hzs
            have := List.length_zip (l₁ := o.fields) (l₂ := o.must)
            exact ⟨by omega, by omega, by rw [List.getElem_zip]⟩
          have HG' : Hid (R = zs.all fun p => fdOk (fmN h) p.1 p.2) := by show _ = _; rw [HG.out, hzs]; simp
          clear hzs HG
          go_enter Tryz.func47, Tryz.ntmps47
          go_wp2_with fail
          refine (HRi.out _ HX.out.below).mono ?_
          rintro e v1 ⟨rfl, hq⟩
          have HX1 := Hid.mk (HX.out.keep hq)
          clear hq x0 x1 x2 x3 x4 x5 x6 x7 x8 x9 x10 x11 hW0'
          obtain ⟨_, x0, x1, x2, x3, x4, x5, x6, x7, x8, x9, x10, x11, _⟩ := HX1.out
          go_wp2_with fail
          refine (HRe.out _ HX1.out.below).mono ?_
          rintro e v2 ⟨rfl, hq⟩
          have HX2 := Hid.mk (HX1.out.keep hq)
          clear hq x0 x1 x2 x3 x4 x5 x6 x7 x8 x9 x10 x11
          obtain ⟨_, x0, x1, x2, x3, x4, x5, x6, x7, x8, x9, x10, x11, _⟩ := HX2.out
          go_wp2_with fail
          clear x0 x1 x2 x3 x4 x5 x6 x7 x8 x9 x10 x11
          go_loopw [3] (fun i wr => ∃ k : Nat, k ≤ K ∧ i = .int .i64 (k : Int) ∧ Hid (OBx w wr (.slice ko K kc) (.slice fo K fc) (.slice mo K mc) (.bool e0) (.bool e1) (.bool e2) (.bool e3) (.slice e4 e4n e4c) (.bool e5) (.slice e6 e6n e6c) (.slice e7 e7n e7c) (.slice e8 e8n e8c)) ∧ Hid ((zs.take k).all (fun p => fdOk (fmN h) p.1 p.2) = true)) (fun i _ => K - (intOf i).toNat)
          case atStart => exact ⟨0, Nat.zero_le _, rfl, HX2, rfl⟩
          case round =>
            clear HX HX1 HX2
            obtain ⟨k, hk, rfl, HB, HQ⟩ := hrel
            obtain ⟨_, x0, x1, x2, x3, x4, x5, x6, x7, x8, x9, x10, x11, _⟩ := HB.out
            by_cases hlt : k < K
            · have hl1 : (k : Int) < (K : Int) := by omega
              have hl0 : (0 : Int) ≤ (k : Int) := by omega
              have hkl : k < zs.length := by rw [HZL.out]; exact hlt
              obtain ⟨z1, z2, hz⟩ := HZ.out k hkl
              have hIk := HI.out.keep HB.out.below
              obtain ⟨fb, foff, hfo, hfl, hfd⟩ := hIk.fd (by omega)
              subst hfo
              obtain ⟨d0, d1, d2, d3, d4, d5, d6, d7, d8, hc9, hct⟩ := hfd k z1
              obtain ⟨mb, moff, hmo, hml, hmd⟩ := hIk.ms.row (by omega)
              subst hmo
              have y0 := hmd k z2
              have HC := Hid.mk (fun (u : World) (hu : Below wr.heap.size wr u) => HIh.out o.fields[k] _ u (hct.keep hu))
              have HV := Hid.mk (fun (u : World) (hu : Below wr.heap.size wr u) => w_rNever h o.fields[k] _ u (hct.keep hu))
              have HU : Hid ((zs.take (k + 1)).all (fun p => fdOk (fmN h) p.1 p.2) = (fmN h o.fields[k] && !(o.must[k] && o.fields[k].never))) := by
                show _ = _
                rw [zall_up hkl, HQ.out, hz]; rfl
              have HNo : Hid ((fmN h o.fields[k] && !(o.must[k] && o.fields[k].never)) = false → R = false) := fun hh => by
                rw [HG'.out]; exact zall_no hkl (by rw [hz]; exact hh)
              obtain ⟨g0, g1, g2, g3, ⟨g4, g4n, g4c⟩, g5, ⟨g6, g6n, g6c⟩, ⟨g7, g7n, g7c⟩, ⟨g8, g8n, g8c⟩, esh⟩ := inT_shape hct
              simp only [Value.agg.injEq, Array.mk.injEq, List.cons.injEq, and_true] at esh
              obtain ⟨rfl, rfl, rfl, rfl, rfl, rfl, rfl, rfl, rfl⟩ := esh
              obtain ⟨q0, q1, q2, q3, q4, q5, q6, q7, q8⟩ := hc9
              generalize fmN h o.fields[k] = ff at HC HU HNo
              generalize o.fields[k].never = fv at HV HU HNo
              generalize o.must[k] = fm at y0 HU HNo
              clear hIk hfd hct hmd z1 z2 hz hkl HQ
              cases ff with
              | false =>
                have HF' : Hid (R = false) := HNo.out (by simp)
                go_wp2_with fail
                refine (HC.out _ (Below.refl _ _)).mono ?_
                rintro e v3 ⟨rfl, hq⟩
                have HX3 := Hid.mk (HB.out.keep hq)
                clear hq x0 x1 x2 x3 x4 x5 x6 x7 x8 x9 x10 x11 y0 q0 q1 q2 q3 q4 q5 q6 q7 q8
                obtain ⟨_, x0, x1, x2, x3, x4, x5, x6, x7, x8, x9, x10, x11, _⟩ := HX3.out
                go_wp2_with fail
                go_ret
                exact ⟨by first | (rw [HF'.out]; rfl) | rw [HF'.out], HX3.out.below⟩
              | true =>
                cases fm with
                | false =>
                  have HU' : Hid ((zs.take (k + 1)).all (fun p => fdOk (fmN h) p.1 p.2) = true) := by show _ = _; rw [HU.out]; rfl
                  go_wp2_with fail
                  refine (HC.out _ (Below.refl _ _)).mono ?_
                  rintro e v3 ⟨rfl, hq⟩
                  have HX3 := Hid.mk (HB.out.keep hq)
                  have y0n := (hq.cell (p := ⟨_, _, _⟩) hml).trans y0
                  have q0n := (hq.cell (p := ⟨_, _, _⟩) hfl).trans q0
                  have q1n := (hq.cell (p := ⟨_, _, _⟩) hfl).trans q1
                  have q2n := (hq.cell (p := ⟨_, _, _⟩) hfl).trans q2
                  have q3n := (hq.cell (p := ⟨_, _, _⟩) hfl).trans q3
                  have q4n := (hq.cell (p := ⟨_, _, _⟩) hfl).trans q4
                  have q5n := (hq.cell (p := ⟨_, _, _⟩) hfl).trans q5
                  have q6n := (hq.cell (p := ⟨_, _, _⟩) hfl).trans q6
                  have q7n := (hq.cell (p := ⟨_, _, _⟩) hfl).trans q7
                  have q8n := (hq.cell (p := ⟨_, _, _⟩) hfl).trans q8
                  have HV2 := Hid.mk (fun (u : World) (hu : Below v3.heap.size v3 u) => HV.out u (hq.trans (hu.mono hq.size)))
                  have hb3 := Below.refl v3.heap.size v3
                  clear hq x0 x1 x2 x3 x4 x5 x6 x7 x8 x9 x10 x11 y0 q0 q1 q2 q3 q4 q5 q6 q7 q8
                  obtain ⟨_, x0, x1, x2, x3, x4, x5, x6, x7, x8, x9, x10, x11, _⟩ := HX3.out
                  go_wp2_with fail
                  go_roundw
                  case rel => exact ⟨k + 1, hlt, by go_num, HX3, HU'⟩
                  case measure => simp [intOf]; omega
                | true =>
                  cases fv with
                  | false =>
                    have HU' : Hid ((zs.take (k + 1)).all (fun p => fdOk (fmN h) p.1 p.2) = true) := by show _ = _; rw [HU.out]; rfl
                    go_wp2_with fail
                    refine (HC.out _ (Below.refl _ _)).mono ?_
                    rintro e v3 ⟨rfl, hq⟩
                    have HX3 := Hid.mk (HB.out.keep hq)
                    have y0n := (hq.cell (p := ⟨_, _, _⟩) hml).trans y0
                    have q0n := (hq.cell (p := ⟨_, _, _⟩) hfl).trans q0
                    have q1n := (hq.cell (p := ⟨_, _, _⟩) hfl).trans q1
                    have q2n := (hq.cell (p := ⟨_, _, _⟩) hfl).trans q2
                    have q3n := (hq.cell (p := ⟨_, _, _⟩) hfl).trans q3
                    have q4n := (hq.cell (p := ⟨_, _, _⟩) hfl).trans q4
                    have q5n := (hq.cell (p := ⟨_, _, _⟩) hfl).trans q5
                    have q6n := (hq.cell (p := ⟨_, _, _⟩) hfl).trans q6
                    have q7n := (hq.cell (p := ⟨_, _, _⟩) hfl).trans q7
                    have q8n := (hq.cell (p := ⟨_, _, _⟩) hfl).trans q8
                    have HV2 := Hid.mk (fun (u : World) (hu : Below v3.heap.size v3 u) => HV.out u (hq.trans (hu.mono hq.size)))
                    have hb3 := Below.refl v3.heap.size v3
                    clear hq x0 x1 x2 x3 x4 x5 x6 x7 x8 x9 x10 x11 y0 q0 q1 q2 q3 q4 q5 q6 q7 q8
                    obtain ⟨_, x0, x1, x2, x3, x4, x5, x6, x7, x8, x9, x10, x11, _⟩ := HX3.out
                    go_wp2_with fail
                    refine (HV2.out _ (Below.refl _ _)).mono ?_
                    rintro e v4 ⟨rfl, hq⟩
                    have HX4 := Hid.mk (HX3.out.keep hq)
                    clear hq x0 x1 x2 x3 x4 x5 x6 x7 x8 x9 x10 x11 y0n q0n q1n q2n q3n q4n q5n q6n q7n q8n
                    obtain ⟨_, x0, x1, x2, x3, x4, x5, x6, x7, x8, x9, x10, x11, _⟩ := HX4.out
                    go_wp2_with fail
                    go_roundw
                    case rel => exact ⟨k + 1, hlt, by go_num, HX4, HU'⟩
                    case measure => simp [intOf]; omega
                  | true =>
                    have HF' : Hid (R = false) := HNo.out (by simp)
                    go_wp2_with fail
                    refine (HC.out _ (Below.refl _ _)).mono ?_
                    rintro e v3 ⟨rfl, hq⟩
                    have HX3 := Hid.mk (HB.out.keep hq)
                    have y0n := (hq.cell (p := ⟨_, _, _⟩) hml).trans y0
                    have q0n := (hq.cell (p := ⟨_, _, _⟩) hfl).trans q0
                    have q1n := (hq.cell (p := ⟨_, _, _⟩) hfl).trans q1
                    have q2n := (hq.cell (p := ⟨_, _, _⟩) hfl).trans q2
                    have q3n := (hq.cell (p := ⟨_, _, _⟩) hfl).trans q3
                    have q4n := (hq.cell (p := ⟨_, _, _⟩) hfl).trans q4
                    have q5n := (hq.cell (p := ⟨_, _, _⟩) hfl).trans q5
                    have q6n := (hq.cell (p := ⟨_, _, _⟩) hfl).trans q6
                    have q7n := (hq.cell (p := ⟨_, _, _⟩) hfl).trans q7
                    have q8n := (hq.cell (p := ⟨_, _, _⟩) hfl).trans q8
                    have HV2 := Hid.mk (fun (u : World) (hu : Below v3.heap.size v3 u) => HV.out u (hq.trans (hu.mono hq.size)))
                    have hb3 := Below.refl v3.heap.size v3
                    clear hq x0 x1 x2 x3 x4 x5 x6 x7 x8 x9 x10 x11 y0 q0 q1 q2 q3 q4 q5 q6 q7 q8
                    obtain ⟨_, x0, x1, x2, x3, x4, x5, x6, x7, x8, x9, x10, x11, _⟩ := HX3.out
                    go_wp2_with fail
                    refine (HV2.out _ (Below.refl _ _)).mono ?_
                    rintro e v4 ⟨rfl, hq⟩
                    have HX4 := Hid.mk (HX3.out.keep hq)
                    clear hq x0 x1 x2 x3 x4 x5 x6 x7 x8 x9 x10 x11 y0n q0n q1n q2n q3n q4n q5n q6n q7n q8n
                    obtain ⟨_, x0, x1, x2, x3, x4, x5, x6, x7, x8, x9, x10, x11, _⟩ := HX4.out
                    go_wp2_with fail
                    go_ret
                    exact ⟨by first | (rw [HF'.out]; rfl) | rw [HF'.out], HX4.out.below⟩
            · have hl1 : ¬ (k : Int) < (K : Int) := by omega
              have HF' : Hid (R = true) := by show _ = _; rw [HG'.out, ← HQ.out, List.take_of_length_le (by rw [HZL.out]; omega)]
              go_wp2_with fail
              go_ret
              exact ⟨by first | (rw [HF'.out]; rfl) | rw [HF'.out], HB.out.below⟩
    · have l2i : ¬ (K : Int) = (M : Int) := by omega
      have HG' : Hid (R = false) := by show _ = _; rw [HG.out, decide_eq_false l2, Bool.false_and, Bool.and_false]; try rfl
      go_enter Tryz.func47, Tryz.ntmps47
      go_wp2_with fail
      go_ret
      exact ⟨by first | (rw [HG'.out]; rfl) | rw [HG'.out], HX.out.below⟩
  · have l1i : ¬ (K : Int) = (F : Int) := by omega
    have HG' : Hid (R = false) := by show _ = _; rw [HG.out, decide_eq_false l1, Bool.false_and]; try rfl
    go_enter Tryz.func47, Tryz.ntmps47
    go_wp2_with fail
    go_ret
    exact ⟨by first | (rw [HG'.out]; rfl) | rw [HG'.out], HX.out.below⟩
end Go.Proofs.YtapjfocjeligiaaGreatDoor
namespace Go.Proofs.YtapjfocjeligiaaGreatDoor
open Go.RowKit Go.Shelf Go.Sort
set_option linter.unusedVariables false
set_option linter.unusedSimpArgs false
attribute [local go_sem] Oper.semAt_some

/-- two texts are one -/
def eqS (a b : ByteArray) : Bool := a.toList == b.toList
def eqB (a b : Bool) : Bool := a == b
/-- two lists are alike, part by part -/
def sameL {α : Type} (f : α → α → Bool) (xs ys : List α) : Bool := decide (xs.length = ys.length) && (xs.zip ys).all fun p => f p.1 p.2
def sSp (p q : ByteArray × ByteArray) : Bool := eqS p.1 q.1 && eqS p.2 q.2
def sAr (f : TT → TT → Bool) (a b : AR) : Bool := decide (a.min = b.min) && (decide (a.max = b.max) && f a.item b.item)
def sOb (f : TT → TT → Bool) (a b : OB) : Bool := sameL eqS a.names b.names && (sameL f a.fields b.fields && (sameL eqB a.must b.must && f a.rest b.rest))
/-- two types are alike, part by part -/
def sameT : Nat → TT → TT → Bool
  | 0, _, _ => false
  | h + 1, A, B => eqB A.all B.all && (eqB A.nul B.nul && (eqB A.fls B.fls && (eqB A.tru B.tru && (eqB A.any B.any && (sameL sSp A.nums B.nums && (sameL eqS A.texts B.texts && (sameL (sAr (sameT h)) A.arrs B.arrs && sameL (sOb (sameT h)) A.objs B.objs)))))))
end Go.Proofs.YtapjfocjeligiaaGreatDoor
namespace Go.Proofs.YtapjfocjeligiaaGreatDoor
open Go.RowKit
set_option linter.unusedVariables false
set_option linter.unusedSimpArgs false

/-- two bools in order -/
def setC (a b : Bool) : Int := if a = b then 0 else if b then -1 else 1
/-- a number without sign -/
def uiN (a : Int) : Int := a % 18446744073709551616
def maxC (a b : Int) : Int := Pl.cmpI (uiN a) (uiN b)
/-- two bounds of one end -/
def bdC (a b : ByteArray) (en : Int) : Int := if eqS a b then 0 else if a.toList.isEmpty then en else if b.toList.isEmpty then -en else Pl.cmpN a.data.toList b.data.toList
def spC (p q : ByteArray × ByteArray) : Int := Pl.orI (bdC p.1 q.1 (-1)) (bdC p.2 q.2 1)
def arC (f : TT → TT → Int) (a b : AR) : Int := Pl.orI (Pl.orI (Pl.cmpI a.min b.min) (maxC a.max b.max)) (f a.item b.item)
def obC (f : TT → TT → Int) (a b : OB) : Int := Pl.orI (Pl.orI (listC keyC a.names b.names) (listC setC a.must b.must)) (Pl.orI (listC f a.fields b.fields) (f a.rest b.rest))
def flC (A B : TT) : Int := Pl.orI (setC A.all B.all) (Pl.orI (setC A.nul B.nul) (Pl.orI (setC A.fls B.fls) (setC A.tru B.tru)))
/-- two types in order -/
def cmpTy : Nat → TT → TT → Int
  | 0, _, _ => 0
  | h + 1, A, B => Pl.orI (flC A B) (Pl.orI (listC spC A.nums B.nums) (Pl.orI (setC A.any B.any) (Pl.orI (listC keyC A.texts B.texts) (Pl.orI (listC (arC (cmpTy h)) A.arrs B.arrs) (listC (obC (cmpTy h)) A.objs B.objs)))))

/-- a bound as it must be -/
def bdk (s : ByteArray) : Prop := s.size = 0 ∨ Pl.formed s.data.toList = true
/-- the numbers of items are an int's -/
def rgT : Nat → TT → Prop
  | 0, _ => True
  | h + 1, T => (∀ a ∈ T.arrs, (-9223372036854775808 ≤ a.min ∧ a.min < 9223372036854775808) ∧ (-9223372036854775808 ≤ a.max ∧ a.max < 9223372036854775808) ∧ rgT h a.item) ∧ ∀ o ∈ T.objs, (∀ f ∈ o.fields, rgT h f) ∧ rgT h o.rest
/-- what of a type its order asks -/
def goodT : Nat → TT → Prop
  | 0, _ => False
  | h + 1, T => (∀ p ∈ T.nums, bdk p.1 ∧ bdk p.2) ∧ (∀ a ∈ T.arrs, (-1 ≤ a.max ∧ a.max < 9223372036854775808) ∧ goodT h a.item) ∧ ∀ o ∈ T.objs, (o.names.length = o.fields.length ∧ o.names.length = o.must.length) ∧ (∀ f ∈ o.fields, goodT h f) ∧ goodT h o.rest

theorem bdk_of {s : ByteArray} (h : bndB s = true) : bdk s := by
  unfold bndB at h
  rw [Bool.or_eq_true, beq_iff_eq] at h
  exact h
theorem good_of : ∀ {h : Nat} {T : TT}, fmN h T = true → rgT h T → goodT h T
  | 0, _, h, _ => by cases h
  | h + 1, T, hf, hr => by
    unfold fmN at hf
    simp only [Bool.and_eq_true] at hf
    obtain ⟨_, _, _, hn, ha, ho⟩ := hf
    refine ⟨fun p hp => ?_, fun a hm => ?_, fun o hm => ?_⟩
    · match hT : T.nums, hn, hp with
      | [q], hn, hp =>
        obtain rfl := List.mem_singleton.1 hp
        have hq : spOk p = true := hn
        unfold spOk at hq
        simp only [Bool.and_eq_true] at hq
        exact ⟨bdk_of hq.1, bdk_of hq.2.1⟩
    · have hra := hr.1 a hm
      match hT : T.arrs, ha, hm with
      | [q], ha, hm =>
        obtain rfl := List.mem_singleton.1 hm
        have hq : arOk (fmN h) a = true := ha
        unfold arOk at hq
        simp only [Bool.and_eq_true, Bool.not_eq_true', Bool.or_eq_false_iff, decide_eq_false_iff_not] at hq
        exact ⟨⟨by omega, hra.2.1.2⟩, good_of hq.2.1 hra.2.2⟩
    · have hro := hr.2 o hm
      have hq := List.all_eq_true.1 ho o hm
      unfold obOk at hq
      simp only [Bool.and_eq_true, decide_eq_true_eq] at hq
      obtain ⟨h1, h2, _, h3, h4⟩ := hq
      refine ⟨⟨h1, h2⟩, fun f hfm => ?_, good_of h3 hro.2⟩
      obtain ⟨i, hi, rfl⟩ := List.getElem_of_mem hfm
      have hi2 : i < o.must.length := by omega
      have hz : i < (o.fields.zip o.must).length := by rw [List.length_zip]; omega
      have := List.all_eq_true.1 h4 _ (List.getElem_mem hz)
      rw [List.getElem_zip] at this
      unfold fdOk at this
      rw [Bool.and_eq_true] at this
      exact good_of this.1 (hro.1 _ hfm)

theorem setC_ord : Ord (fun _ : Bool => True) setC :=
  ⟨fun x y _ _ => by cases x <;> cases y <;> decide, fun x y _ _ => by cases x <;> cases y <;> decide, fun x y _ _ => by cases x <;> cases y <;> decide, fun x y z _ _ _ => by cases x <;> cases y <;> cases z <;> decide⟩
theorem cmpI_ord : Ord (fun _ : Int => True) Pl.cmpI := by
  refine ⟨fun x y _ _ => ?_, fun x y _ _ => ?_, fun x y _ _ h => ?_, fun x y z _ _ _ h1 h2 => ?_⟩
  all_goals unfold Pl.cmpI at *
  · repeat' split
    all_goals omega
  · repeat' split
    all_goals omega
  · repeat' split at h
    all_goals omega
  · repeat' split at h1
    all_goals repeat' split at h2
    all_goals repeat' split
    all_goals omega
theorem maxC_ord : Ord (fun a : Int => -1 ≤ a ∧ a < 9223372036854775808) maxC := by
  have inj : ∀ a b : Int, -1 ≤ a ∧ a < 9223372036854775808 → -1 ≤ b ∧ b < 9223372036854775808 → uiN a = uiN b → a = b := fun a b ha hb h => by unfold uiN at h; omega
  refine ⟨fun x y _ _ => cmpI_ord.bd _ _ trivial trivial, fun x y _ _ => cmpI_ord.sw _ _ trivial trivial, fun x y hx hy h => inj x y hx hy (cmpI_ord.zr _ _ trivial trivial h), fun x y z _ _ _ h1 h2 => cmpI_ord.tr _ _ _ trivial trivial trivial h1 h2⟩
theorem emp_size (s : ByteArray) : s.toList.isEmpty = decide (s.size = 0) := by
  rw [Lib.toList_data, Bool.eq_iff_iff, List.isEmpty_iff, decide_eq_true_eq]
  constructor
  · intro h; show s.data.size = 0; rw [← Array.length_toList, h]; rfl
  · intro h; exact List.eq_nil_of_length_eq_zero (by rw [Array.length_toList]; exact h)
theorem eqS_iff (a b : ByteArray) : eqS a b = true ↔ a = b := by
  unfold eqS
  rw [beq_iff_eq, Lib.toList_data, Lib.toList_data]
  exact ⟨fun h => Pl.eq_of_toList h, fun h => by rw [h]⟩
theorem size0_eq {a b : ByteArray} (ha : a.size = 0) (hb : b.size = 0) : a = b := by
  have h : ∀ s : ByteArray, s.size = 0 → s.data.toList = [] := fun s h => List.eq_nil_of_length_eq_zero (by rw [Array.length_toList]; exact h)
  exact Pl.eq_of_toList (by rw [h a ha, h b hb])
theorem bdC_is {a b : ByteArray} (en : Int) (ha : bdk a) (hb : bdk b) : bdC a b en = if a.size = 0 then (if b.size = 0 then 0 else en) else if b.size = 0 then -en else numC a b := by
  unfold bdC
  rw [emp_size, emp_size]
  by_cases h : eqS a b = true
  · rw [if_pos h]
    obtain rfl := (eqS_iff a b).1 h
    by_cases h0 : a.size = 0
    · rw [if_pos h0, if_pos h0]
    · rw [if_neg h0, if_neg h0]
      exact (numC_ord.rf (ha.resolve_left h0)).symm
  · rw [if_neg h]
    by_cases h0 : a.size = 0
    · by_cases h1 : b.size = 0
      · exact absurd ((eqS_iff a b).2 (size0_eq h0 h1)) h
      · simp [h0, h1]
    · by_cases h1 : b.size = 0
      · simp [h0, h1]
      · simp [h0, h1]; rfl
theorem bdC_ord (en : Int) (he : en = -1 ∨ en = 1) : Ord bdk (fun a b => bdC a b en) := by
  refine ⟨fun x y hx hy => ?_, fun x y hx hy => ?_, fun x y hx hy h => ?_, fun x y z hx hy hz h1 h2 => ?_⟩
  · show -1 ≤ bdC x y en ∧ bdC x y en ≤ 1
    rw [bdC_is en hx hy]
    have := Pl.cmpN_bd x.data.toList y.data.toList
    unfold numC
    repeat' split
    all_goals omega
  · show bdC y x en = - bdC x y en
    rw [bdC_is en hx hy, bdC_is en hy hx]
    by_cases h0 : x.size = 0 <;> by_cases h1 : y.size = 0
    · simp [h0, h1]
    · simp [h0, h1]
    · simp [h0, h1]
    · simp only [h0, h1, if_false]
      exact numC_ord.sw _ _ (hx.resolve_left h0) (hy.resolve_left h1)
  · have h' : bdC x y en = 0 := h
    rw [bdC_is en hx hy] at h'
    by_cases h0 : x.size = 0 <;> by_cases h1 : y.size = 0
    · exact size0_eq h0 h1
    · simp only [h0, h1, if_true, if_false] at h'; omega
    · simp only [h0, h1, if_true, if_false] at h'; omega
    · simp only [h0, h1, if_false] at h'
      exact numC_ord.zr _ _ (hx.resolve_left h0) (hy.resolve_left h1) h'
  · have h1' : bdC x y en ≤ 0 := h1
    have h2' : bdC y z en ≤ 0 := h2
    show bdC x z en ≤ 0
    rw [bdC_is en hx hy] at h1'
    rw [bdC_is en hy hz] at h2'
    rw [bdC_is en hx hz]
    by_cases a : x.size = 0 <;> by_cases b : y.size = 0 <;> by_cases c : z.size = 0 <;> simp only [a, b, c, if_true, if_false] at h1' h2' ⊢
    all_goals first | omega | exact numC_ord.tr _ _ _ (hx.resolve_left a) (hy.resolve_left b) (hz.resolve_left c) h1' h2'
theorem spC_ord : Ord (fun p : ByteArray × ByteArray => bdk p.1 ∧ bdk p.2) spC := (bdC_ord (-1) (.inl rfl)).pair (bdC_ord 1 (.inr rfl))
theorem arC_ord {P : TT → Prop} {f : TT → TT → Int} (o : Ord P f) : Ord (fun a : AR => (-1 ≤ a.max ∧ a.max < 9223372036854775808) ∧ P a.item) (arC f) :=
  Ord.map ((cmpI_ord.pair maxC_ord).pair o) (fun n => .mk n.2 n.1.1 n.1.2) (fun x hx => by cases x with | mk i m n => exact ⟨((m, n), i), rfl, ⟨trivial, hx.1⟩, hx.2⟩) (fun n m _ _ => rfl)
theorem obC_ord {P : TT → Prop} {f : TT → TT → Int} (o : Ord P f) : Ord (fun x : OB => (x.names.length = x.fields.length ∧ x.names.length = x.must.length) ∧ (∀ f ∈ x.fields, P f) ∧ P x.rest) (obC f) :=
  Ord.map (((listC_ord keyC_ord).pair (listC_ord setC_ord)).pair ((listC_ord o).pair o)) (fun n => .mk n.1.1 n.2.1 n.1.2 n.2.2) (fun x hx => by cases x with | mk ns fs ms r => exact ⟨((ns, ms), (fs, r)), rfl, ⟨fun _ _ => trivial, fun _ _ => trivial⟩, hx.2⟩) (fun n m _ _ => rfl)
theorem cmpTy_ord : ∀ h, Ord (goodT h) (cmpTy h)
  | 0 => ⟨fun _ _ h => h.elim, fun _ _ h => h.elim, fun _ _ h => h.elim, fun _ _ _ h => h.elim⟩
  | h + 1 =>
    have o := cmpTy_ord h
    Ord.map ((setC_ord.pair (setC_ord.pair (setC_ord.pair setC_ord))).pair ((listC_ord spC_ord).pair (setC_ord.pair ((listC_ord keyC_ord).pair ((listC_ord (arC_ord o)).pair (listC_ord (obC_ord o)))))))
      (fun x => TT.mk x.1.1 x.1.2.1 x.1.2.2.1 x.1.2.2.2 x.2.2.1 x.2.1 x.2.2.2.1 x.2.2.2.2.1 x.2.2.2.2.2)
      (fun x hx => by
        cases x with
        | mk a b c d e ns ts rs os => exact ⟨((a, b, c, d), ns, e, ts, rs, os), rfl, ⟨trivial, trivial, trivial, trivial⟩, hx.1, trivial, fun _ _ => trivial, hx.2.1, hx.2.2⟩)
      (fun n m _ _ => rfl)

theorem sameL_eq {α : Type} {f : α → α → Bool} : ∀ (xs ys : List α), (∀ x ∈ xs, ∀ y, f x y = true → x = y) → sameL f xs ys = true → xs = ys
  | [], [], _, _ => rfl
  | [], _ :: _, _, h => by simp [sameL] at h
  | _ :: _, [], _, h => by simp [sameL] at h
  | x :: xs, y :: ys, hf, h => by
    have ih := sameL_eq xs ys (fun z hz => hf z (List.mem_cons_of_mem _ hz))
    unfold sameL at h ih
    simp only [List.length_cons, List.zip_cons_cons, List.all_cons, Bool.and_eq_true, decide_eq_true_eq] at h ih
    rw [hf x (List.mem_cons_self ..) y h.2.1, ih ⟨by omega, h.2.2⟩]
theorem sameL_refl {α : Type} {f : α → α → Bool} : ∀ (xs : List α), (∀ x ∈ xs, f x x = true) → sameL f xs xs = true
  | [], _ => rfl
  | x :: xs, hf => by
    have ih := sameL_refl xs (fun z hz => hf z (List.mem_cons_of_mem _ hz))
    unfold sameL at ih ⊢
    simp only [List.length_cons, List.zip_cons_cons, List.all_cons, Bool.and_eq_true, decide_eq_true_eq] at ih ⊢
    exact ⟨trivial, hf x (List.mem_cons_self ..), ih.2⟩
theorem eqB_iff (a b : Bool) : eqB a b = true ↔ a = b := by cases a <;> cases b <;> decide
theorem sameT_eq : ∀ (h : Nat) (A B : TT), sameT h A B = true → A = B
  | 0, _, _, h => by cases h
  | h + 1, A, B, hs => by
    have ih := sameT_eq h
    unfold sameT at hs
    simp only [Bool.and_eq_true, eqB_iff] at hs
    obtain ⟨e1, e2, e3, e4, e5, e6, e7, e8, e9⟩ := hs
    have e6' := sameL_eq _ _ (fun x _ y hxy => by unfold sSp at hxy; rw [Bool.and_eq_true, eqS_iff, eqS_iff] at hxy; exact Prod.ext hxy.1 hxy.2) e6
    have e7' := sameL_eq _ _ (fun x _ y hxy => (eqS_iff x y).1 hxy) e7
    have e8' := sameL_eq _ _ (fun x _ y hxy => by
      unfold sAr at hxy
      simp only [Bool.and_eq_true, decide_eq_true_eq] at hxy
      cases x; cases y
      have := ih _ _ hxy.2.2
      simp only [AR.min, AR.max, AR.item] at hxy this
      rw [hxy.1, hxy.2.1, this]) e8
    have e9' := sameL_eq _ _ (fun x _ y hxy => by
      unfold sOb at hxy
      simp only [Bool.and_eq_true] at hxy
      obtain ⟨f1, f2, f3, f4⟩ := hxy
      have g1 := sameL_eq _ _ (fun x _ y hxy => (eqS_iff x y).1 hxy) f1
      have g2 := sameL_eq _ _ (fun x _ y hxy => ih x y hxy) f2
      have g3 := sameL_eq _ _ (fun x _ y hxy => (eqB_iff x y).1 hxy) f3
      have g4 := ih _ _ f4
      cases x; cases y
      simp only [OB.names, OB.fields, OB.must, OB.rest] at g1 g2 g3 g4
      rw [g1, g2, g3, g4]) e9
    cases A; cases B
    simp only [TT.all, TT.nul, TT.fls, TT.tru, TT.any, TT.nums, TT.texts, TT.arrs, TT.objs] at e1 e2 e3 e4 e5 e6' e7' e8' e9'
    rw [e1, e2, e3, e4, e5, e6', e7', e8', e9']
theorem sameT_refl : ∀ (h : Nat) (A : TT), goodT h A → sameT h A A = true
  | 0, _, h => h.elim
  | h + 1, A, hg => by
    have ih := sameT_refl h
    unfold sameT
    simp only [Bool.and_eq_true, eqB_iff]
    refine ⟨trivial, trivial, trivial, trivial, trivial, sameL_refl _ (fun x _ => ?_), sameL_refl _ (fun x _ => (eqS_iff x x).2 rfl), sameL_refl _ (fun x hx => ?_), sameL_refl _ (fun x hx => ?_)⟩
    · unfold sSp; rw [Bool.and_eq_true, eqS_iff, eqS_iff]; exact ⟨rfl, rfl⟩
    · unfold sAr
      simp only [Bool.and_eq_true, decide_eq_true_eq]
      exact ⟨trivial, trivial, ih _ (hg.2.1 x hx).2⟩
    · unfold sOb
      simp only [Bool.and_eq_true]
      exact ⟨sameL_refl _ (fun x _ => (eqS_iff x x).2 rfl), sameL_refl _ (fun f hf => ih f ((hg.2.2 x hx).2.1 f hf)), sameL_refl _ (fun x _ => (eqB_iff x x).2 rfl), ih _ (hg.2.2 x hx).2.2⟩
theorem sameT_cmp {h : Nat} {A B : TT} (ha : goodT h A) (hb : goodT h B) : sameT h A B = decide (cmpTy h A B = 0) := by
  rw [Bool.eq_iff_iff, decide_eq_true_eq]
  constructor
  · intro e
    obtain rfl := sameT_eq h A B e
    exact (cmpTy_ord h).rf ha
  · intro e
    obtain rfl := (cmpTy_ord h).zr A B ha hb e
    exact sameT_refl h A ha
end Go.Proofs.YtapjfocjeligiaaGreatDoor
