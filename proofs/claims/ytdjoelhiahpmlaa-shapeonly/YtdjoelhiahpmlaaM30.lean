import Derived.Test.YtdjoelhiahpmlaaM29
import Derived.Test.YtdjoelhiahpmlaaM24
import Derived.Laws.Rows
namespace Go.Proofs.Ytdjoelhiahpmlaa
open Go.RowKit Go.Shelf Go.Sort
set_option linter.unusedVariables false
set_option linter.unusedSimpArgs false
attribute [local go_sem] Oper.semAt_some

/-- SameType answers so -/
def SaOk (h : Nat) : Prop := ∀ (A B : TT) (va vb : Value) (u : World), InT u h A va → InT u h B vb → Calls Try.prog 14 #[va, vb] u fun e w' => e = .returned (.bool (sameT h A B)) ∧ Below u.heap.size u w'
/-- two boxes -/
structure Bx2 (w u : World) (xs ys : Array Value) : Prop where
  below : Below w.heap.size w u
  one : ∀ j, u.cell? ⟨w.heap.size, j, none⟩ = xs[j]?
  two : ∀ j, u.cell? ⟨w.heap.size + 1, j, none⟩ = ys[j]?
  lt : w.heap.size + 1 < u.heap.size
theorem Bx2.keep {w u u' : World} {xs ys : Array Value} (x : Bx2 w u xs ys) (hb : Below u.heap.size u u') : Bx2 w u' xs ys :=
  ⟨x.below.trans (hb.mono x.below.size), fun j => (hb.cell (p := ⟨_, _, _⟩) (by have := x.lt; show w.heap.size < _; omega)).trans (x.one j), fun j => (hb.cell (p := ⟨_, _, _⟩) x.lt).trans (x.two j), Nat.lt_of_lt_of_le x.lt hb.size⟩
theorem bx2_new (w : World) (xs ys : Array Value) (t : TypeId) : Bx2 w ((w.alloc (.cells xs t)).alloc (.cells ys t)) xs ys := by
  refine ⟨((Below.refl _ _).alloc (Nat.le_refl _) _).alloc (by simp) _, fun j => ?_, fun j => ?_, by simp⟩
  · exact cell_of_row _ _ j xs t (0, 0) ((Below.heap_alloc _ _ _ (by simp)).trans (World.alloc_heap_new w _))
  · have h := World.alloc_heap_new (w.alloc (.cells xs t)) (.cells ys t)
    rw [World.size_alloc] at h
    exact cell_of_row _ _ j ys t (0, 0) h
/-- a row of types, as it lies -/
structure TyIn (W : World) (h : Nat) (fo : Option Addr) (fs : List TT) : Prop where
  row : 0 < fs.length → ∃ b2 off2, fo = some ⟨b2, off2, none⟩ ∧ b2 < W.heap.size ∧ ∀ j, (hj : j < fs.length) → ∃ d0 d1 d2 d3 d4 d5 d6 d7 d8 : Value,
    C9 W b2 (off2 + j * 9) d0 d1 d2 d3 d4 d5 d6 d7 d8 ∧ InT W h fs[j] (.agg #[d0, d1, d2, d3, d4, d5, d6, d7, d8])
theorem TyIn.keep {W W' : World} {h : Nat} {fo : Option Addr} {fs : List TT} (x : TyIn W h fo fs) (hb : Below W.heap.size W W') : TyIn W' h fo fs := by
  refine ⟨fun hf => ?_⟩
  obtain ⟨b2, off2, e3, hl2, hd⟩ := x.row hf
  refine ⟨b2, off2, e3, Nat.lt_of_lt_of_le hl2 hb.size, fun j hj => ?_⟩
  obtain ⟨d0, d1, d2, d3, d4, d5, d6, d7, d8, k1, k2⟩ := hd j hj
  exact ⟨d0, d1, d2, d3, d4, d5, d6, d7, d8, k1.keep hb hl2, k2.keep hb⟩

set_option maxRecDepth 100000 in
set_option maxHeartbeats 6400000 in
theorem w_kSameTypes (h : Nat) (ih : SaOk h) (ao : Option Addr) (M ac : Nat) (xs : List TT) (bo : Option Addr) (N bc : Nat) (ys : List TT) (w : World) (ha : TyIn w h ao xs) (hb : TyIn w h bo ys) (hM : xs.length = M) (hN : ys.length = N) (h1 : M ≤ ac) (h2 : N ≤ bc) (h3 : M ≤ 140737488355328) (h4 : N ≤ 140737488355328) :
    Calls Try.prog 53 #[.slice ao M ac, .slice bo N bc] w fun e w' => e = .returned (.bool (sameL (sameT h) xs ys)) ∧ Below w.heap.size w w' := by
  by_cases hMN : M = N
  · subst hMN
    obtain ⟨R, hR⟩ : ∃ R, sameL (sameT h) xs ys = R := ⟨_, rfl⟩
    obtain ⟨zs, hzs⟩ : ∃ zs, xs.zip ys = zs := ⟨_, rfl⟩
    have HR : Hid (R = zs.all fun p => (sameT h) p.1 p.2) := by show _ = _; rw [← hR, ← hzs]; unfold sameL; rw [hM, hN, decide_eq_true rfl, Bool.true_and]
    have HZL : Hid (zs.length = M) := by show _ = _; rw [← hzs, List.length_zip, hM, hN, Nat.min_self]
    have HZ : Hid (∀ j, (hj : j < zs.length) → ∃ (h1 : j < xs.length) (h2 : j < ys.length), zs[j] = (xs[j], ys[j])) := by
      intro j hj
      subst hzs
      have := List.length_zip (l₁ := xs) (l₂ := ys)
      exact ⟨by omega, by omega, by rw [List.getElem_zip]⟩
    rw [hR]
    have HIh := Hid.mk ih
    have HA := Hid.mk ha
    have HB := Hid.mk hb
    clear ha hb hM hN hR hzs ih
    go_enter Try.func53, Try.ntmps53
    go_wp2_with fail
    go_loopw [5] (fun i wr => ∃ k : Nat, k ≤ M ∧ i = .int .i64 (k : Int) ∧ Hid (Below w.heap.size w wr) ∧ Hid ((zs.take k).all (fun p => (sameT h) p.1 p.2) = true)) (fun i _ => M - (intOf i).toNat)
    case atStart => exact ⟨0, Nat.zero_le _, rfl, Below.refl _ _, rfl⟩
    case round =>
      obtain ⟨k, hk, rfl, HW, HQ⟩ := hrel
      by_cases hlt : k < M
      · have hl1 : (k : Int) < (M : Int) := by omega
        have hl0 : (0 : Int) ≤ (k : Int) := by omega
        have hkl : k < zs.length := by rw [HZL.out]; exact hlt
        obtain ⟨z1, z2, hz⟩ := HZ.out k hkl
        obtain ⟨b1, off1, hp1, hbl1, hrow1⟩ := (HA.out.keep HW.out).row (by omega)
        subst hp1
        obtain ⟨xc0, xc1, xc2, xc3, xc4, xc5, xc6, xc7, xc8, hc1, hct1⟩ := hrow1 k z1
        obtain ⟨x0, x1, x2, x3, x4, x5, x6, x7, x8⟩ := hc1
        obtain ⟨b2, off2, hp2, hbl2, hrow2⟩ := (HB.out.keep HW.out).row (by omega)
        subst hp2
        obtain ⟨yc0, yc1, yc2, yc3, yc4, yc5, yc6, yc7, yc8, hc2, hct2⟩ := hrow2 k z2
        obtain ⟨y0, y1, y2, y3, y4, y5, y6, y7, y8⟩ := hc2
        have HC := Hid.mk (fun (d : Nat) (os : Array Obj) => HIh.out xs[k] ys[k] _ _ (grow (redrawn wr d) os) (hct1.keep (below_regrown wr d os)) (hct2.keep (below_regrown wr d os)))
        obtain ⟨sa, sb, sc, sd, ⟨seo, sen, sec⟩, sf, ⟨sgo, sgn, sgc⟩, ⟨sio, sinn, sic⟩, ⟨sjo, sjn, sjc⟩, eshs⟩ := inT_shape hct1
        simp only [Value.agg.injEq, Array.mk.injEq, List.cons.injEq, and_true] at eshs
        obtain ⟨rfl, rfl, rfl, rfl, rfl, rfl, rfl, rfl, rfl⟩ := eshs
        obtain ⟨ta, tb, tc, td, ⟨teo, ten, tec⟩, tf, ⟨tgo, tgn, tgc⟩, ⟨tio, tinn, tic⟩, ⟨tjo, tjn, tjc⟩, esht⟩ := inT_shape hct2
        simp only [Value.agg.injEq, Array.mk.injEq, List.cons.injEq, and_true] at esht
        obtain ⟨rfl, rfl, rfl, rfl, rfl, rfl, rfl, rfl, rfl⟩ := esht
        clear hct1 hct2 hrow1 hrow2
        have HU : Hid ((zs.take (k + 1)).all (fun p => (sameT h) p.1 p.2) = (sameT h) xs[k] ys[k]) := by show _ = _; rw [zall_up hkl, HQ.out, hz]; rfl
        have HNo : Hid ((sameT h) xs[k] ys[k] = false → R = false) := fun hh => by rw [HR.out]; exact zall_no hkl (by rw [hz]; exact hh)
        obtain ⟨r, hr⟩ : ∃ r, (sameT h) xs[k] ys[k] = r := ⟨_, rfl⟩
        rw [hr] at HU HNo
        rw [hr] at HC
        clear hr
        have A_x0 := fun d os => cell_regrown x0 d os
        have A_x1 := fun d os => cell_regrown x1 d os
        have A_x2 := fun d os => cell_regrown x2 d os
        have A_x3 := fun d os => cell_regrown x3 d os
        have A_x4 := fun d os => cell_regrown x4 d os
        have A_x5 := fun d os => cell_regrown x5 d os
        have A_x6 := fun d os => cell_regrown x6 d os
        have A_x7 := fun d os => cell_regrown x7 d os
        have A_x8 := fun d os => cell_regrown x8 d os
        have A_y0 := fun d os => cell_regrown y0 d os
        have A_y1 := fun d os => cell_regrown y1 d os
        have A_y2 := fun d os => cell_regrown y2 d os
        have A_y3 := fun d os => cell_regrown y3 d os
        have A_y4 := fun d os => cell_regrown y4 d os
        have A_y5 := fun d os => cell_regrown y5 d os
        have A_y6 := fun d os => cell_regrown y6 d os
        have A_y7 := fun d os => cell_regrown y7 d os
        have A_y8 := fun d os => cell_regrown y8 d os
        clear hz HQ
        go_wp2_with fail
        cases r with
        | true =>
          have HU' := HU
          refine wp_region_quiet_below (by kernel_rfl) (by kernel_rfl) ?_
          repeat (go_big_quiet_step (exact Calls.regrown_of (HC.out _ _)))
          refine wpQuiet_nil ?_
          intro w9 hw'
          have hb9 : Below wr.heap.size wr w9 := by
            obtain ⟨⟨dq, osq⟩, rfl⟩ := hw'
            exact below_regrown wr dq osq
          have HW9 := Hid.mk (HW.out.trans (hb9.mono HW.out.size))
          clear hw' hb9 A_x0 x0 A_x1 x1 A_x2 x2 A_x3 x3 A_x4 x4 A_x5 x5 A_x6 x6 A_x7 x7 A_x8 x8 A_y0 y0 A_y1 y1 A_y2 y2 A_y3 y3 A_y4 y4 A_y5 y5 A_y6 y6 A_y7 y7 A_y8 y8
          go_wp2_with fail
          go_roundw
          case rel => exact ⟨k + 1, hlt, by go_num, HW9, HU'⟩
          case measure => simp [intOf]; omega
        | false =>
          have HF' := Hid.mk (HNo.out rfl)
          refine wp_region_quiet_below (by kernel_rfl) (by kernel_rfl) ?_
          repeat (go_big_quiet_step (exact Calls.regrown_of (HC.out _ _)))
          refine wpQuiet_nil ?_
          intro w9 hw'
          have hb9 : Below wr.heap.size wr w9 := by
            obtain ⟨⟨dq, osq⟩, rfl⟩ := hw'
            exact below_regrown wr dq osq
          have HW9 := Hid.mk (HW.out.trans (hb9.mono HW.out.size))
          clear hw' hb9 A_x0 x0 A_x1 x1 A_x2 x2 A_x3 x3 A_x4 x4 A_x5 x5 A_x6 x6 A_x7 x7 A_x8 x8 A_y0 y0 A_y1 y1 A_y2 y2 A_y3 y3 A_y4 y4 A_y5 y5 A_y6 y6 A_y7 y7 A_y8 y8
          go_wp2_with fail
          go_ret
          exact ⟨by first | (rw [HF'.out]; rfl) | rw [HF'.out], HW9.out⟩
      · have hl1 : ¬ (k : Int) < (M : Int) := by omega
        have HF' : Hid (R = true) := by show _ = _; rw [HR.out, ← HQ.out, List.take_of_length_le (by rw [HZL.out]; omega)]
        go_wp2_with fail
        go_ret
        exact ⟨by first | (rw [HF'.out]; rfl) | rw [HF'.out], HW.out⟩
  · have hne : ¬ (M : Int) = (N : Int) := by omega
    have HF : Hid (sameL (sameT h) xs ys = false) := by show _ = _; unfold sameL; rw [hM, hN, decide_eq_false hMN, Bool.false_and]
    clear ha hb hM hN hMN
    go_enter Try.func53, Try.ntmps53
    go_wp2_with fail
    go_ret
    exact ⟨by first | (rw [HF.out]; rfl) | rw [HF.out], Below.refl _ _⟩
set_option maxRecDepth 100000 in
set_option maxHeartbeats 3200000 in
theorem kSameArr_v (w : World) (sa sb sc sd sf : Bool) (seo sgo sio sjo : Option Addr) (sen sec sgn sgc sinn sic sjn sjc : Nat) (ta tb tc td tf : Bool) (teo tgo tio tjo : Option Addr) (ten tec tgn tgc tinn tic tjn tjc : Nat) (mn mx mn2 mx2 : Int) (r : Bool) (HC : Hid (∀ u, Below w.heap.size w u → Calls Try.prog 14 #[.agg #[.bool sa, .bool sb, .bool sc, .bool sd, .slice seo sen sec, .bool sf, .slice sgo sgn sgc, .slice sio sinn sic, .slice sjo sjn sjc], .agg #[.bool ta, .bool tb, .bool tc, .bool td, .slice teo ten tec, .bool tf, .slice tgo tgn tgc, .slice tio tinn tic, .slice tjo tjn tjc]] u fun e w' => e = .returned (.bool r) ∧ Below u.heap.size u w')) :
    Calls Try.prog 44 #[.agg #[.bool sa, .bool sb, .bool sc, .bool sd, .slice seo sen sec, .bool sf, .slice sgo sgn sgc, .slice sio sinn sic, .slice sjo sjn sjc, .int .i64 mn, .int .i64 mx], .agg #[.bool ta, .bool tb, .bool tc, .bool td, .slice teo ten tec, .bool tf, .slice tgo tgn tgc, .slice tio tinn tic, .slice tjo tjn tjc, .int .i64 mn2, .int .i64 mx2]] w fun e w' => e = .returned (.bool (decide (mn = mn2) && (decide (mx = mx2) && r))) ∧ Below w.heap.size w w' := by
  have HX0 := Hid.mk (bx2_new w #[.bool sa, .bool sb, .bool sc, .bool sd, .slice seo sen sec, .bool sf, .slice sgo sgn sgc, .slice sio sinn sic, .slice sjo sjn sjc, .int .i64 mn, .int .i64 mx] #[.bool ta, .bool tb, .bool tc, .bool td, .slice teo ten tec, .bool tf, .slice tgo tgn tgc, .slice tio tinn tic, .slice tjo tjn tjc, .int .i64 mn2, .int .i64 mx2] 50)
  obtain ⟨W0, hW0⟩ : ∃ W0, (w.alloc (.cells #[.bool sa, .bool sb, .bool sc, .bool sd, .slice seo sen sec, .bool sf, .slice sgo sgn sgc, .slice sio sinn sic, .slice sjo sjn sjc, .int .i64 mn, .int .i64 mx] 50)).alloc (.cells #[.bool ta, .bool tb, .bool tc, .bool td, .slice teo ten tec, .bool tf, .slice tgo tgn tgc, .slice tio tinn tic, .slice tjo tjn tjc, .int .i64 mn2, .int .i64 mx2] 50) = W0 := ⟨_, rfl⟩
  rw [hW0] at HX0
  have x0 : W0.cell? ⟨w.heap.size, 0, none⟩ = some (.bool sa) := HX0.out.one 0
  have x1 : W0.cell? ⟨w.heap.size, 1, none⟩ = some (.bool sb) := HX0.out.one 1
  have x2 : W0.cell? ⟨w.heap.size, 2, none⟩ = some (.bool sc) := HX0.out.one 2
  have x3 : W0.cell? ⟨w.heap.size, 3, none⟩ = some (.bool sd) := HX0.out.one 3
  have x4 : W0.cell? ⟨w.heap.size, 4, none⟩ = some (.slice seo sen sec) := HX0.out.one 4
  have x5 : W0.cell? ⟨w.heap.size, 5, none⟩ = some (.bool sf) := HX0.out.one 5
  have x6 : W0.cell? ⟨w.heap.size, 6, none⟩ = some (.slice sgo sgn sgc) := HX0.out.one 6
  have x7 : W0.cell? ⟨w.heap.size, 7, none⟩ = some (.slice sio sinn sic) := HX0.out.one 7
  have x8 : W0.cell? ⟨w.heap.size, 8, none⟩ = some (.slice sjo sjn sjc) := HX0.out.one 8
  have x9 : W0.cell? ⟨w.heap.size, 9, none⟩ = some (.int .i64 mn) := HX0.out.one 9
  have x10 : W0.cell? ⟨w.heap.size, 10, none⟩ = some (.int .i64 mx) := HX0.out.one 10
  have y0 : W0.cell? ⟨w.heap.size + 1, 0, none⟩ = some (.bool ta) := HX0.out.two 0
  have y1 : W0.cell? ⟨w.heap.size + 1, 1, none⟩ = some (.bool tb) := HX0.out.two 1
  have y2 : W0.cell? ⟨w.heap.size + 1, 2, none⟩ = some (.bool tc) := HX0.out.two 2
  have y3 : W0.cell? ⟨w.heap.size + 1, 3, none⟩ = some (.bool td) := HX0.out.two 3
  have y4 : W0.cell? ⟨w.heap.size + 1, 4, none⟩ = some (.slice teo ten tec) := HX0.out.two 4
  have y5 : W0.cell? ⟨w.heap.size + 1, 5, none⟩ = some (.bool tf) := HX0.out.two 5
  have y6 : W0.cell? ⟨w.heap.size + 1, 6, none⟩ = some (.slice tgo tgn tgc) := HX0.out.two 6
  have y7 : W0.cell? ⟨w.heap.size + 1, 7, none⟩ = some (.slice tio tinn tic) := HX0.out.two 7
  have y8 : W0.cell? ⟨w.heap.size + 1, 8, none⟩ = some (.slice tjo tjn tjc) := HX0.out.two 8
  have y9 : W0.cell? ⟨w.heap.size + 1, 9, none⟩ = some (.int .i64 mn2) := HX0.out.two 9
  have y10 : W0.cell? ⟨w.heap.size + 1, 10, none⟩ = some (.int .i64 mx2) := HX0.out.two 10
  by_cases e1 : mn = mn2
  · subst e1
    by_cases e2 : mx = mx2
    · subst e2
      go_enter Try.func44, Try.ntmps44
      go_wp2_with fail
      cases r with
      | false =>
        refine (HC.out _ HX0.out.below).mono ?_
        rintro e v1 ⟨rfl, hq⟩
        have HX1 := Hid.mk (HX0.out.keep hq)
        clear hq HX0 x0 x1 x2 x3 x4 x5 x6 x7 x8 x9 x10 y0 y1 y2 y3 y4 y5 y6 y7 y8 y9 y10 hW0
        go_wp2_with fail
        go_ret
        exact ⟨by first | rfl | (simp; done) | (simp [*]; done), HX1.out.below⟩
      | true =>
        refine (HC.out _ HX0.out.below).mono ?_
        rintro e v1 ⟨rfl, hq⟩
        have HX1 := Hid.mk (HX0.out.keep hq)
        clear hq HX0 x0 x1 x2 x3 x4 x5 x6 x7 x8 x9 x10 y0 y1 y2 y3 y4 y5 y6 y7 y8 y9 y10 hW0
        have x0 : v1.cell? ⟨w.heap.size, 0, none⟩ = some (.bool sa) := HX1.out.one 0
        have x1 : v1.cell? ⟨w.heap.size, 1, none⟩ = some (.bool sb) := HX1.out.one 1
        have x2 : v1.cell? ⟨w.heap.size, 2, none⟩ = some (.bool sc) := HX1.out.one 2
        have x3 : v1.cell? ⟨w.heap.size, 3, none⟩ = some (.bool sd) := HX1.out.one 3
        have x4 : v1.cell? ⟨w.heap.size, 4, none⟩ = some (.slice seo sen sec) := HX1.out.one 4
        have x5 : v1.cell? ⟨w.heap.size, 5, none⟩ = some (.bool sf) := HX1.out.one 5
        have x6 : v1.cell? ⟨w.heap.size, 6, none⟩ = some (.slice sgo sgn sgc) := HX1.out.one 6
        have x7 : v1.cell? ⟨w.heap.size, 7, none⟩ = some (.slice sio sinn sic) := HX1.out.one 7
        have x8 : v1.cell? ⟨w.heap.size, 8, none⟩ = some (.slice sjo sjn sjc) := HX1.out.one 8
        have x9 : v1.cell? ⟨w.heap.size, 9, none⟩ = some (.int .i64 mn) := HX1.out.one 9
        have x10 : v1.cell? ⟨w.heap.size, 10, none⟩ = some (.int .i64 mx) := HX1.out.one 10
        have y0 : v1.cell? ⟨w.heap.size + 1, 0, none⟩ = some (.bool ta) := HX1.out.two 0
        have y1 : v1.cell? ⟨w.heap.size + 1, 1, none⟩ = some (.bool tb) := HX1.out.two 1
        have y2 : v1.cell? ⟨w.heap.size + 1, 2, none⟩ = some (.bool tc) := HX1.out.two 2
        have y3 : v1.cell? ⟨w.heap.size + 1, 3, none⟩ = some (.bool td) := HX1.out.two 3
        have y4 : v1.cell? ⟨w.heap.size + 1, 4, none⟩ = some (.slice teo ten tec) := HX1.out.two 4
        have y5 : v1.cell? ⟨w.heap.size + 1, 5, none⟩ = some (.bool tf) := HX1.out.two 5
        have y6 : v1.cell? ⟨w.heap.size + 1, 6, none⟩ = some (.slice tgo tgn tgc) := HX1.out.two 6
        have y7 : v1.cell? ⟨w.heap.size + 1, 7, none⟩ = some (.slice tio tinn tic) := HX1.out.two 7
        have y8 : v1.cell? ⟨w.heap.size + 1, 8, none⟩ = some (.slice tjo tjn tjc) := HX1.out.two 8
        have y9 : v1.cell? ⟨w.heap.size + 1, 9, none⟩ = some (.int .i64 mn) := HX1.out.two 9
        have y10 : v1.cell? ⟨w.heap.size + 1, 10, none⟩ = some (.int .i64 mx) := HX1.out.two 10
        go_wp2_with fail
        go_ret
        exact ⟨by first | rfl | (simp; done) | (simp [*]; done), HX1.out.below⟩
    · have e2d := decide_eq_false e2
      go_enter Try.func44, Try.ntmps44
      go_wp2_with fail
      go_ret
      exact ⟨by first | rfl | (simp; done) | (simp [*]; done), HX0.out.below⟩
  · have e1d := decide_eq_false e1
    go_enter Try.func44, Try.ntmps44
    go_wp2_with fail
    go_ret
    exact ⟨by first | rfl | (simp; done) | (simp [*]; done), HX0.out.below⟩
theorem w_kSameArr (h : Nat) (ih : SaOk h) (a b : AR) (c0 c1 c2 c3 c4 c5 c6 c7 c8 d0 d1 d2 d3 d4 d5 d6 d7 d8 : Value) (w : World) (hc : InT w h a.item (.agg #[c0, c1, c2, c3, c4, c5, c6, c7, c8])) (hd : InT w h b.item (.agg #[d0, d1, d2, d3, d4, d5, d6, d7, d8])) :
    Calls Try.prog 44 #[.agg #[c0, c1, c2, c3, c4, c5, c6, c7, c8, .int .i64 a.min, .int .i64 a.max], .agg #[d0, d1, d2, d3, d4, d5, d6, d7, d8, .int .i64 b.min, .int .i64 b.max]] w fun e w' => e = .returned (.bool (sAr (sameT h) a b)) ∧ Below w.heap.size w w' := by
  have HC := Hid.mk (fun (u : World) (hu : Below w.heap.size w u) => ih a.item b.item _ _ u (hc.keep hu) (hd.keep hu))
  obtain ⟨sa, sb, sc, sd, ⟨seo, sen, sec⟩, sf, ⟨sgo, sgn, sgc⟩, ⟨sio, sinn, sic⟩, ⟨sjo, sjn, sjc⟩, eshs⟩ := inT_shape hc
  simp only [Value.agg.injEq, Array.mk.injEq, List.cons.injEq, and_true] at eshs
  obtain ⟨rfl, rfl, rfl, rfl, rfl, rfl, rfl, rfl, rfl⟩ := eshs
  obtain ⟨ta, tb, tc, td, ⟨teo, ten, tec⟩, tf, ⟨tgo, tgn, tgc⟩, ⟨tio, tinn, tic⟩, ⟨tjo, tjn, tjc⟩, esht⟩ := inT_shape hd
  simp only [Value.agg.injEq, Array.mk.injEq, List.cons.injEq, and_true] at esht
  obtain ⟨rfl, rfl, rfl, rfl, rfl, rfl, rfl, rfl, rfl⟩ := esht
  exact kSameArr_v w _ _ _ _ _ _ _ _ _ _ _ _ _ _ _ _ _ _ _ _ _ _ _ _ _ _ _ _ _ _ _ _ _ _ _ _ _ _ _ HC
set_option maxRecDepth 100000 in
set_option maxHeartbeats 6400000 in
theorem w_kSameArrs (h : Nat) (ih : SaOk h) (ao : Option Addr) (M ac : Nat) (xs : List AR) (bo : Option Addr) (N bc : Nat) (ys : List AR) (w : World) (ha : ArIn w h ao xs) (hb : ArIn w h bo ys) (hM : xs.length = M) (hN : ys.length = N) (h1 : M ≤ ac) (h2 : N ≤ bc) (h3 : M ≤ 140737488355328) (h4 : N ≤ 140737488355328) :
    Calls Try.prog 27 #[.slice ao M ac, .slice bo N bc] w fun e w' => e = .returned (.bool (sameL (sAr (sameT h)) xs ys)) ∧ Below w.heap.size w w' := by
  by_cases hMN : M = N
  · subst hMN
    obtain ⟨R, hR⟩ : ∃ R, sameL (sAr (sameT h)) xs ys = R := ⟨_, rfl⟩
    obtain ⟨zs, hzs⟩ : ∃ zs, xs.zip ys = zs := ⟨_, rfl⟩
    have HR : Hid (R = zs.all fun p => (sAr (sameT h)) p.1 p.2) := by show _ = _; rw [← hR, ← hzs]; unfold sameL; rw [hM, hN, decide_eq_true rfl, Bool.true_and]
    have HZL : Hid (zs.length = M) := by show _ = _; rw [← hzs, List.length_zip, hM, hN, Nat.min_self]
    have HZ : Hid (∀ j, (hj : j < zs.length) → ∃ (h1 : j < xs.length) (h2 : j < ys.length), zs[j] = (xs[j], ys[j])) := by
      intro j hj
      subst hzs
      have := List.length_zip (l₁ := xs) (l₂ := ys)
      exact ⟨by omega, by omega, by rw [List.getElem_zip]⟩
    rw [hR]
    have HIh := Hid.mk ih
    have HA := Hid.mk ha
    have HB := Hid.mk hb
    clear ha hb hM hN hR hzs ih
    go_enter Try.func27, Try.ntmps27
    go_wp2_with fail
    go_loopw [5] (fun i wr => ∃ k : Nat, k ≤ M ∧ i = .int .i64 (k : Int) ∧ Hid (Below w.heap.size w wr) ∧ Hid ((zs.take k).all (fun p => (sAr (sameT h)) p.1 p.2) = true)) (fun i _ => M - (intOf i).toNat)
    case atStart => exact ⟨0, Nat.zero_le _, rfl, Below.refl _ _, rfl⟩
    case round =>
      obtain ⟨k, hk, rfl, HW, HQ⟩ := hrel
      by_cases hlt : k < M
      · have hl1 : (k : Int) < (M : Int) := by omega
        have hl0 : (0 : Int) ≤ (k : Int) := by omega
        have hkl : k < zs.length := by rw [HZL.out]; exact hlt
        obtain ⟨z1, z2, hz⟩ := HZ.out k hkl
        obtain ⟨b1, off1, hp1, hbl1, hrow1⟩ := (HA.out.keep HW.out).row (by omega)
        subst hp1
        obtain ⟨xc0, xc1, xc2, xc3, xc4, xc5, xc6, xc7, xc8, hc1, x9, x10, hct1⟩ := hrow1 k z1
        obtain ⟨x0, x1, x2, x3, x4, x5, x6, x7, x8⟩ := hc1
        obtain ⟨b2, off2, hp2, hbl2, hrow2⟩ := (HB.out.keep HW.out).row (by omega)
        subst hp2
        obtain ⟨yc0, yc1, yc2, yc3, yc4, yc5, yc6, yc7, yc8, hc2, y9, y10, hct2⟩ := hrow2 k z2
        obtain ⟨y0, y1, y2, y3, y4, y5, y6, y7, y8⟩ := hc2
        have HC := Hid.mk (fun (d : Nat) (os : Array Obj) => w_kSameArr h HIh.out xs[k] ys[k] _ _ _ _ _ _ _ _ _ _ _ _ _ _ _ _ _ _ (grow (redrawn wr d) os) (hct1.keep (below_regrown wr d os)) (hct2.keep (below_regrown wr d os)))
        obtain ⟨sa, sb, sc, sd, ⟨seo, sen, sec⟩, sf, ⟨sgo, sgn, sgc⟩, ⟨sio, sinn, sic⟩, ⟨sjo, sjn, sjc⟩, eshs⟩ := inT_shape hct1
        simp only [Value.agg.injEq, Array.mk.injEq, List.cons.injEq, and_true] at eshs
        obtain ⟨rfl, rfl, rfl, rfl, rfl, rfl, rfl, rfl, rfl⟩ := eshs
        obtain ⟨ta, tb, tc, td, ⟨teo, ten, tec⟩, tf, ⟨tgo, tgn, tgc⟩, ⟨tio, tinn, tic⟩, ⟨tjo, tjn, tjc⟩, esht⟩ := inT_shape hct2
        simp only [Value.agg.injEq, Array.mk.injEq, List.cons.injEq, and_true] at esht
        obtain ⟨rfl, rfl, rfl, rfl, rfl, rfl, rfl, rfl, rfl⟩ := esht
        clear hct1 hct2 hrow1 hrow2
        have HU : Hid ((zs.take (k + 1)).all (fun p => (sAr (sameT h)) p.1 p.2) = (sAr (sameT h)) xs[k] ys[k]) := by show _ = _; rw [zall_up hkl, HQ.out, hz]; rfl
        have HNo : Hid ((sAr (sameT h)) xs[k] ys[k] = false → R = false) := fun hh => by rw [HR.out]; exact zall_no hkl (by rw [hz]; exact hh)
        obtain ⟨r, hr⟩ : ∃ r, (sAr (sameT h)) xs[k] ys[k] = r := ⟨_, rfl⟩
        rw [hr] at HU HNo
        rw [hr] at HC
        clear hr
        have A_x0 := fun d os => cell_regrown x0 d os
        have A_x1 := fun d os => cell_regrown x1 d os
        have A_x2 := fun d os => cell_regrown x2 d os
        have A_x3 := fun d os => cell_regrown x3 d os
        have A_x4 := fun d os => cell_regrown x4 d os
        have A_x5 := fun d os => cell_regrown x5 d os
        have A_x6 := fun d os => cell_regrown x6 d os
        have A_x7 := fun d os => cell_regrown x7 d os
        have A_x8 := fun d os => cell_regrown x8 d os
        have A_y0 := fun d os => cell_regrown y0 d os
        have A_y1 := fun d os => cell_regrown y1 d os
        have A_y2 := fun d os => cell_regrown y2 d os
        have A_y3 := fun d os => cell_regrown y3 d os
        have A_y4 := fun d os => cell_regrown y4 d os
        have A_y5 := fun d os => cell_regrown y5 d os
        have A_y6 := fun d os => cell_regrown y6 d os
        have A_y7 := fun d os => cell_regrown y7 d os
        have A_y8 := fun d os => cell_regrown y8 d os
        have A_x9 := fun d os => cell_regrown x9 d os
        have A_x10 := fun d os => cell_regrown x10 d os
        have A_y9 := fun d os => cell_regrown y9 d os
        have A_y10 := fun d os => cell_regrown y10 d os
        clear hz HQ
        go_wp2_with fail
        cases r with
        | true =>
          have HU' := HU
          refine wp_region_quiet_below (by kernel_rfl) (by kernel_rfl) ?_
          repeat (go_big_quiet_step (exact Calls.regrown_of (HC.out _ _)))
          refine wpQuiet_nil ?_
          intro w9 hw'
          have hb9 : Below wr.heap.size wr w9 := by
            obtain ⟨⟨dq, osq⟩, rfl⟩ := hw'
            exact below_regrown wr dq osq
          have HW9 := Hid.mk (HW.out.trans (hb9.mono HW.out.size))
          clear hw' hb9 A_x0 x0 A_x1 x1 A_x2 x2 A_x3 x3 A_x4 x4 A_x5 x5 A_x6 x6 A_x7 x7 A_x8 x8 A_y0 y0 A_y1 y1 A_y2 y2 A_y3 y3 A_y4 y4 A_y5 y5 A_y6 y6 A_y7 y7 A_y8 y8 A_x9 x9 A_x10 x10 A_y9 y9 A_y10 y10
          go_wp2_with fail
          go_roundw
          case rel => exact ⟨k + 1, hlt, by go_num, HW9, HU'⟩
          case measure => simp [intOf]; omega
        | false =>
          have HF' := Hid.mk (HNo.out rfl)
          refine wp_region_quiet_below (by kernel_rfl) (by kernel_rfl) ?_
          repeat (go_big_quiet_step (exact Calls.regrown_of (HC.out _ _)))
          refine wpQuiet_nil ?_
          intro w9 hw'
          have hb9 : Below wr.heap.size wr w9 := by
            obtain ⟨⟨dq, osq⟩, rfl⟩ := hw'
            exact below_regrown wr dq osq
          have HW9 := Hid.mk (HW.out.trans (hb9.mono HW.out.size))
          clear hw' hb9 A_x0 x0 A_x1 x1 A_x2 x2 A_x3 x3 A_x4 x4 A_x5 x5 A_x6 x6 A_x7 x7 A_x8 x8 A_y0 y0 A_y1 y1 A_y2 y2 A_y3 y3 A_y4 y4 A_y5 y5 A_y6 y6 A_y7 y7 A_y8 y8 A_x9 x9 A_x10 x10 A_y9 y9 A_y10 y10
          go_wp2_with fail
          go_ret
          exact ⟨by first | (rw [HF'.out]; rfl) | rw [HF'.out], HW9.out⟩
      · have hl1 : ¬ (k : Int) < (M : Int) := by omega
        have HF' : Hid (R = true) := by show _ = _; rw [HR.out, ← HQ.out, List.take_of_length_le (by rw [HZL.out]; omega)]
        go_wp2_with fail
        go_ret
        exact ⟨by first | (rw [HF'.out]; rfl) | rw [HF'.out], HW.out⟩
  · have hne : ¬ (M : Int) = (N : Int) := by omega
    have HF : Hid (sameL (sAr (sameT h)) xs ys = false) := by show _ = _; unfold sameL; rw [hM, hN, decide_eq_false hMN, Bool.false_and]
    clear ha hb hM hN hMN
    go_enter Try.func27, Try.ntmps27
    go_wp2_with fail
    go_ret
    exact ⟨by first | (rw [HF.out]; rfl) | rw [HF.out], Below.refl _ _⟩
set_option maxRecDepth 100000 in
set_option maxHeartbeats 3200000 in
theorem kSameObj_v (w : World) (sa sb sc sd sf : Bool) (seo sgo sio sjo : Option Addr) (sen sec sgn sgc sinn sic sjn sjc : Nat) (ta tb tc td tf : Bool) (teo tgo tio tjo : Option Addr) (ten tec tgn tgc tinn tic tjn tjc : Nat) (ko fo mo ko2 fo2 mo2 : Option Addr) (K kc F fc M mc K2 kc2 F2 fc2 M2 mc2 : Nat) (r1 r2 r3 r4 : Bool) (H1 : Hid (∀ u, Below w.heap.size w u → Calls Try.prog 26 #[.slice ko K kc, .slice ko2 K2 kc2] u fun e w' => e = .returned (.bool r1) ∧ Below u.heap.size u w')) (H2 : Hid (∀ u, Below w.heap.size w u → Calls Try.prog 53 #[.slice fo F fc, .slice fo2 F2 fc2] u fun e w' => e = .returned (.bool r2) ∧ Below u.heap.size u w')) (H3 : Hid (∀ u, Below w.heap.size w u → Calls Try.prog 54 #[.slice mo M mc, .slice mo2 M2 mc2] u fun e w' => e = .returned (.bool r3) ∧ Below u.heap.size u w')) (H4 : Hid (∀ u, Below w.heap.size w u → Calls Try.prog 14 #[.agg #[.bool sa, .bool sb, .bool sc, .bool sd, .slice seo sen sec, .bool sf, .slice sgo sgn sgc, .slice sio sinn sic, .slice sjo sjn sjc], .agg #[.bool ta, .bool tb, .bool tc, .bool td, .slice teo ten tec, .bool tf, .slice tgo tgn tgc, .slice tio tinn tic, .slice tjo tjn tjc]] u fun e w' => e = .returned (.bool r4) ∧ Below u.heap.size u w')) :
    Calls Try.prog 45 #[.agg #[.slice ko K kc, .slice fo F fc, .slice mo M mc, .bool sa, .bool sb, .bool sc, .bool sd, .slice seo sen sec, .bool sf, .slice sgo sgn sgc, .slice sio sinn sic, .slice sjo sjn sjc], .agg #[.slice ko2 K2 kc2, .slice fo2 F2 fc2, .slice mo2 M2 mc2, .bool ta, .bool tb, .bool tc, .bool td, .slice teo ten tec, .bool tf, .slice tgo tgn tgc, .slice tio tinn tic, .slice tjo tjn tjc]] w fun e w' => e = .returned (.bool (r1 && (r2 && (r3 && r4)))) ∧ Below w.heap.size w w' := by
  have HX0 := Hid.mk (bx2_new w #[.slice ko K kc, .slice fo F fc, .slice mo M mc, .bool sa, .bool sb, .bool sc, .bool sd, .slice seo sen sec, .bool sf, .slice sgo sgn sgc, .slice sio sinn sic, .slice sjo sjn sjc] #[.slice ko2 K2 kc2, .slice fo2 F2 fc2, .slice mo2 M2 mc2, .bool ta, .bool tb, .bool tc, .bool td, .slice teo ten tec, .bool tf, .slice tgo tgn tgc, .slice tio tinn tic, .slice tjo tjn tjc] 55)
  obtain ⟨W0, hW0⟩ : ∃ W0, (w.alloc (.cells #[.slice ko K kc, .slice fo F fc, .slice mo M mc, .bool sa, .bool sb, .bool sc, .bool sd, .slice seo sen sec, .bool sf, .slice sgo sgn sgc, .slice sio sinn sic, .slice sjo sjn sjc] 55)).alloc (.cells #[.slice ko2 K2 kc2, .slice fo2 F2 fc2, .slice mo2 M2 mc2, .bool ta, .bool tb, .bool tc, .bool td, .slice teo ten tec, .bool tf, .slice tgo tgn tgc, .slice tio tinn tic, .slice tjo tjn tjc] 55) = W0 := ⟨_, rfl⟩
  rw [hW0] at HX0
  have x0 : W0.cell? ⟨w.heap.size, 0, none⟩ = some (.slice ko K kc) := HX0.out.one 0
  have x1 : W0.cell? ⟨w.heap.size, 1, none⟩ = some (.slice fo F fc) := HX0.out.one 1
  have x2 : W0.cell? ⟨w.heap.size, 2, none⟩ = some (.slice mo M mc) := HX0.out.one 2
  have x3 : W0.cell? ⟨w.heap.size, 3, none⟩ = some (.bool sa) := HX0.out.one 3
  have x4 : W0.cell? ⟨w.heap.size, 4, none⟩ = some (.bool sb) := HX0.out.one 4
  have x5 : W0.cell? ⟨w.heap.size, 5, none⟩ = some (.bool sc) := HX0.out.one 5
  have x6 : W0.cell? ⟨w.heap.size, 6, none⟩ = some (.bool sd) := HX0.out.one 6
  have x7 : W0.cell? ⟨w.heap.size, 7, none⟩ = some (.slice seo sen sec) := HX0.out.one 7
  have x8 : W0.cell? ⟨w.heap.size, 8, none⟩ = some (.bool sf) := HX0.out.one 8
  have x9 : W0.cell? ⟨w.heap.size, 9, none⟩ = some (.slice sgo sgn sgc) := HX0.out.one 9
  have x10 : W0.cell? ⟨w.heap.size, 10, none⟩ = some (.slice sio sinn sic) := HX0.out.one 10
  have x11 : W0.cell? ⟨w.heap.size, 11, none⟩ = some (.slice sjo sjn sjc) := HX0.out.one 11
  have y0 : W0.cell? ⟨w.heap.size + 1, 0, none⟩ = some (.slice ko2 K2 kc2) := HX0.out.two 0
  have y1 : W0.cell? ⟨w.heap.size + 1, 1, none⟩ = some (.slice fo2 F2 fc2) := HX0.out.two 1
  have y2 : W0.cell? ⟨w.heap.size + 1, 2, none⟩ = some (.slice mo2 M2 mc2) := HX0.out.two 2
  have y3 : W0.cell? ⟨w.heap.size + 1, 3, none⟩ = some (.bool ta) := HX0.out.two 3
  have y4 : W0.cell? ⟨w.heap.size + 1, 4, none⟩ = some (.bool tb) := HX0.out.two 4
  have y5 : W0.cell? ⟨w.heap.size + 1, 5, none⟩ = some (.bool tc) := HX0.out.two 5
  have y6 : W0.cell? ⟨w.heap.size + 1, 6, none⟩ = some (.bool td) := HX0.out.two 6
  have y7 : W0.cell? ⟨w.heap.size + 1, 7, none⟩ = some (.slice teo ten tec) := HX0.out.two 7
  have y8 : W0.cell? ⟨w.heap.size + 1, 8, none⟩ = some (.bool tf) := HX0.out.two 8
  have y9 : W0.cell? ⟨w.heap.size + 1, 9, none⟩ = some (.slice tgo tgn tgc) := HX0.out.two 9
  have y10 : W0.cell? ⟨w.heap.size + 1, 10, none⟩ = some (.slice tio tinn tic) := HX0.out.two 10
  have y11 : W0.cell? ⟨w.heap.size + 1, 11, none⟩ = some (.slice tjo tjn tjc) := HX0.out.two 11
  go_enter Try.func45, Try.ntmps45
  go_wp2_with fail
  cases r1 with
  | false =>
    refine (H1.out _ HX0.out.below).mono ?_
    rintro e v1 ⟨rfl, hq⟩
    have HX1 := Hid.mk (HX0.out.keep hq)
    clear hq HX0 x0 x1 x2 x3 x4 x5 x6 x7 x8 x9 x10 x11 y0 y1 y2 y3 y4 y5 y6 y7 y8 y9 y10 y11 hW0
    go_wp2_with fail
    go_ret
    exact ⟨by first | rfl | (simp; done) | (simp [*]; done), HX1.out.below⟩
  | true =>
    refine (H1.out _ HX0.out.below).mono ?_
    rintro e v1 ⟨rfl, hq⟩
    have HX1 := Hid.mk (HX0.out.keep hq)
    clear hq HX0 x0 x1 x2 x3 x4 x5 x6 x7 x8 x9 x10 x11 y0 y1 y2 y3 y4 y5 y6 y7 y8 y9 y10 y11 hW0
    have x0 : v1.cell? ⟨w.heap.size, 0, none⟩ = some (.slice ko K kc) := HX1.out.one 0
    have x1 : v1.cell? ⟨w.heap.size, 1, none⟩ = some (.slice fo F fc) := HX1.out.one 1
    have x2 : v1.cell? ⟨w.heap.size, 2, none⟩ = some (.slice mo M mc) := HX1.out.one 2
    have x3 : v1.cell? ⟨w.heap.size, 3, none⟩ = some (.bool sa) := HX1.out.one 3
    have x4 : v1.cell? ⟨w.heap.size, 4, none⟩ = some (.bool sb) := HX1.out.one 4
    have x5 : v1.cell? ⟨w.heap.size, 5, none⟩ = some (.bool sc) := HX1.out.one 5
    have x6 : v1.cell? ⟨w.heap.size, 6, none⟩ = some (.bool sd) := HX1.out.one 6
    have x7 : v1.cell? ⟨w.heap.size, 7, none⟩ = some (.slice seo sen sec) := HX1.out.one 7
    have x8 : v1.cell? ⟨w.heap.size, 8, none⟩ = some (.bool sf) := HX1.out.one 8
    have x9 : v1.cell? ⟨w.heap.size, 9, none⟩ = some (.slice sgo sgn sgc) := HX1.out.one 9
    have x10 : v1.cell? ⟨w.heap.size, 10, none⟩ = some (.slice sio sinn sic) := HX1.out.one 10
    have x11 : v1.cell? ⟨w.heap.size, 11, none⟩ = some (.slice sjo sjn sjc) := HX1.out.one 11
    have y0 : v1.cell? ⟨w.heap.size + 1, 0, none⟩ = some (.slice ko2 K2 kc2) := HX1.out.two 0
    have y1 : v1.cell? ⟨w.heap.size + 1, 1, none⟩ = some (.slice fo2 F2 fc2) := HX1.out.two 1
    have y2 : v1.cell? ⟨w.heap.size + 1, 2, none⟩ = some (.slice mo2 M2 mc2) := HX1.out.two 2
    have y3 : v1.cell? ⟨w.heap.size + 1, 3, none⟩ = some (.bool ta) := HX1.out.two 3
    have y4 : v1.cell? ⟨w.heap.size + 1, 4, none⟩ = some (.bool tb) := HX1.out.two 4
    have y5 : v1.cell? ⟨w.heap.size + 1, 5, none⟩ = some (.bool tc) := HX1.out.two 5
    have y6 : v1.cell? ⟨w.heap.size + 1, 6, none⟩ = some (.bool td) := HX1.out.two 6
    have y7 : v1.cell? ⟨w.heap.size + 1, 7, none⟩ = some (.slice teo ten tec) := HX1.out.two 7
    have y8 : v1.cell? ⟨w.heap.size + 1, 8, none⟩ = some (.bool tf) := HX1.out.two 8
    have y9 : v1.cell? ⟨w.heap.size + 1, 9, none⟩ = some (.slice tgo tgn tgc) := HX1.out.two 9
    have y10 : v1.cell? ⟨w.heap.size + 1, 10, none⟩ = some (.slice tio tinn tic) := HX1.out.two 10
    have y11 : v1.cell? ⟨w.heap.size + 1, 11, none⟩ = some (.slice tjo tjn tjc) := HX1.out.two 11
    go_wp2_with fail
    cases r2 with
    | false =>
      refine (H2.out _ HX1.out.below).mono ?_
      rintro e v2 ⟨rfl, hq⟩
      have HX2 := Hid.mk (HX1.out.keep hq)
      clear hq HX1 x0 x1 x2 x3 x4 x5 x6 x7 x8 x9 x10 x11 y0 y1 y2 y3 y4 y5 y6 y7 y8 y9 y10 y11
      go_wp2_with fail
      go_ret
      exact ⟨by first | rfl | (simp; done) | (simp [*]; done), HX2.out.below⟩
    | true =>
      refine (H2.out _ HX1.out.below).mono ?_
      rintro e v2 ⟨rfl, hq⟩
      have HX2 := Hid.mk (HX1.out.keep hq)
      clear hq HX1 x0 x1 x2 x3 x4 x5 x6 x7 x8 x9 x10 x11 y0 y1 y2 y3 y4 y5 y6 y7 y8 y9 y10 y11
      have x0 : v2.cell? ⟨w.heap.size, 0, none⟩ = some (.slice ko K kc) := HX2.out.one 0
      have x1 : v2.cell? ⟨w.heap.size, 1, none⟩ = some (.slice fo F fc) := HX2.out.one 1
      have x2 : v2.cell? ⟨w.heap.size, 2, none⟩ = some (.slice mo M mc) := HX2.out.one 2
      have x3 : v2.cell? ⟨w.heap.size, 3, none⟩ = some (.bool sa) := HX2.out.one 3
      have x4 : v2.cell? ⟨w.heap.size, 4, none⟩ = some (.bool sb) := HX2.out.one 4
      have x5 : v2.cell? ⟨w.heap.size, 5, none⟩ = some (.bool sc) := HX2.out.one 5
      have x6 : v2.cell? ⟨w.heap.size, 6, none⟩ = some (.bool sd) := HX2.out.one 6
      have x7 : v2.cell? ⟨w.heap.size, 7, none⟩ = some (.slice seo sen sec) := HX2.out.one 7
      have x8 : v2.cell? ⟨w.heap.size, 8, none⟩ = some (.bool sf) := HX2.out.one 8
      have x9 : v2.cell? ⟨w.heap.size, 9, none⟩ = some (.slice sgo sgn sgc) := HX2.out.one 9
      have x10 : v2.cell? ⟨w.heap.size, 10, none⟩ = some (.slice sio sinn sic) := HX2.out.one 10
      have x11 : v2.cell? ⟨w.heap.size, 11, none⟩ = some (.slice sjo sjn sjc) := HX2.out.one 11
      have y0 : v2.cell? ⟨w.heap.size + 1, 0, none⟩ = some (.slice ko2 K2 kc2) := HX2.out.two 0
      have y1 : v2.cell? ⟨w.heap.size + 1, 1, none⟩ = some (.slice fo2 F2 fc2) := HX2.out.two 1
      have y2 : v2.cell? ⟨w.heap.size + 1, 2, none⟩ = some (.slice mo2 M2 mc2) := HX2.out.two 2
      have y3 : v2.cell? ⟨w.heap.size + 1, 3, none⟩ = some (.bool ta) := HX2.out.two 3
      have y4 : v2.cell? ⟨w.heap.size + 1, 4, none⟩ = some (.bool tb) := HX2.out.two 4
      have y5 : v2.cell? ⟨w.heap.size + 1, 5, none⟩ = some (.bool tc) := HX2.out.two 5
      have y6 : v2.cell? ⟨w.heap.size + 1, 6, none⟩ = some (.bool td) := HX2.out.two 6
      have y7 : v2.cell? ⟨w.heap.size + 1, 7, none⟩ = some (.slice teo ten tec) := HX2.out.two 7
      have y8 : v2.cell? ⟨w.heap.size + 1, 8, none⟩ = some (.bool tf) := HX2.out.two 8
      have y9 : v2.cell? ⟨w.heap.size + 1, 9, none⟩ = some (.slice tgo tgn tgc) := HX2.out.two 9
      have y10 : v2.cell? ⟨w.heap.size + 1, 10, none⟩ = some (.slice tio tinn tic) := HX2.out.two 10
      have y11 : v2.cell? ⟨w.heap.size + 1, 11, none⟩ = some (.slice tjo tjn tjc) := HX2.out.two 11
      go_wp2_with fail
      cases r3 with
      | false =>
        refine (H3.out _ HX2.out.below).mono ?_
        rintro e v3 ⟨rfl, hq⟩
        have HX3 := Hid.mk (HX2.out.keep hq)
        clear hq HX2 x0 x1 x2 x3 x4 x5 x6 x7 x8 x9 x10 x11 y0 y1 y2 y3 y4 y5 y6 y7 y8 y9 y10 y11
        go_wp2_with fail
        go_ret
        exact ⟨by first | rfl | (simp; done) | (simp [*]; done), HX3.out.below⟩
      | true =>
        refine (H3.out _ HX2.out.below).mono ?_
        rintro e v3 ⟨rfl, hq⟩
        have HX3 := Hid.mk (HX2.out.keep hq)
        clear hq HX2 x0 x1 x2 x3 x4 x5 x6 x7 x8 x9 x10 x11 y0 y1 y2 y3 y4 y5 y6 y7 y8 y9 y10 y11
        have x0 : v3.cell? ⟨w.heap.size, 0, none⟩ = some (.slice ko K kc) := HX3.out.one 0
        have x1 : v3.cell? ⟨w.heap.size, 1, none⟩ = some (.slice fo F fc) := HX3.out.one 1
        have x2 : v3.cell? ⟨w.heap.size, 2, none⟩ = some (.slice mo M mc) := HX3.out.one 2
        have x3 : v3.cell? ⟨w.heap.size, 3, none⟩ = some (.bool sa) := HX3.out.one 3
        have x4 : v3.cell? ⟨w.heap.size, 4, none⟩ = some (.bool sb) := HX3.out.one 4
        have x5 : v3.cell? ⟨w.heap.size, 5, none⟩ = some (.bool sc) := HX3.out.one 5
        have x6 : v3.cell? ⟨w.heap.size, 6, none⟩ = some (.bool sd) := HX3.out.one 6
        have x7 : v3.cell? ⟨w.heap.size, 7, none⟩ = some (.slice seo sen sec) := HX3.out.one 7
        have x8 : v3.cell? ⟨w.heap.size, 8, none⟩ = some (.bool sf) := HX3.out.one 8
        have x9 : v3.cell? ⟨w.heap.size, 9, none⟩ = some (.slice sgo sgn sgc) := HX3.out.one 9
        have x10 : v3.cell? ⟨w.heap.size, 10, none⟩ = some (.slice sio sinn sic) := HX3.out.one 10
        have x11 : v3.cell? ⟨w.heap.size, 11, none⟩ = some (.slice sjo sjn sjc) := HX3.out.one 11
        have y0 : v3.cell? ⟨w.heap.size + 1, 0, none⟩ = some (.slice ko2 K2 kc2) := HX3.out.two 0
        have y1 : v3.cell? ⟨w.heap.size + 1, 1, none⟩ = some (.slice fo2 F2 fc2) := HX3.out.two 1
        have y2 : v3.cell? ⟨w.heap.size + 1, 2, none⟩ = some (.slice mo2 M2 mc2) := HX3.out.two 2
        have y3 : v3.cell? ⟨w.heap.size + 1, 3, none⟩ = some (.bool ta) := HX3.out.two 3
        have y4 : v3.cell? ⟨w.heap.size + 1, 4, none⟩ = some (.bool tb) := HX3.out.two 4
        have y5 : v3.cell? ⟨w.heap.size + 1, 5, none⟩ = some (.bool tc) := HX3.out.two 5
        have y6 : v3.cell? ⟨w.heap.size + 1, 6, none⟩ = some (.bool td) := HX3.out.two 6
        have y7 : v3.cell? ⟨w.heap.size + 1, 7, none⟩ = some (.slice teo ten tec) := HX3.out.two 7
        have y8 : v3.cell? ⟨w.heap.size + 1, 8, none⟩ = some (.bool tf) := HX3.out.two 8
        have y9 : v3.cell? ⟨w.heap.size + 1, 9, none⟩ = some (.slice tgo tgn tgc) := HX3.out.two 9
        have y10 : v3.cell? ⟨w.heap.size + 1, 10, none⟩ = some (.slice tio tinn tic) := HX3.out.two 10
        have y11 : v3.cell? ⟨w.heap.size + 1, 11, none⟩ = some (.slice tjo tjn tjc) := HX3.out.two 11
        go_wp2_with fail
        cases r4 with
        | false =>
          refine (H4.out _ HX3.out.below).mono ?_
          rintro e v4 ⟨rfl, hq⟩
          have HX4 := Hid.mk (HX3.out.keep hq)
          clear hq HX3 x0 x1 x2 x3 x4 x5 x6 x7 x8 x9 x10 x11 y0 y1 y2 y3 y4 y5 y6 y7 y8 y9 y10 y11
          go_wp2_with fail
          go_ret
          exact ⟨by first | rfl | (simp; done) | (simp [*]; done), HX4.out.below⟩
        | true =>
          refine (H4.out _ HX3.out.below).mono ?_
          rintro e v4 ⟨rfl, hq⟩
          have HX4 := Hid.mk (HX3.out.keep hq)
          clear hq HX3 x0 x1 x2 x3 x4 x5 x6 x7 x8 x9 x10 x11 y0 y1 y2 y3 y4 y5 y6 y7 y8 y9 y10 y11
          have x0 : v4.cell? ⟨w.heap.size, 0, none⟩ = some (.slice ko K kc) := HX4.out.one 0
          have x1 : v4.cell? ⟨w.heap.size, 1, none⟩ = some (.slice fo F fc) := HX4.out.one 1
          have x2 : v4.cell? ⟨w.heap.size, 2, none⟩ = some (.slice mo M mc) := HX4.out.one 2
          have x3 : v4.cell? ⟨w.heap.size, 3, none⟩ = some (.bool sa) := HX4.out.one 3
          have x4 : v4.cell? ⟨w.heap.size, 4, none⟩ = some (.bool sb) := HX4.out.one 4
          have x5 : v4.cell? ⟨w.heap.size, 5, none⟩ = some (.bool sc) := HX4.out.one 5
          have x6 : v4.cell? ⟨w.heap.size, 6, none⟩ = some (.bool sd) := HX4.out.one 6
          have x7 : v4.cell? ⟨w.heap.size, 7, none⟩ = some (.slice seo sen sec) := HX4.out.one 7
          have x8 : v4.cell? ⟨w.heap.size, 8, none⟩ = some (.bool sf) := HX4.out.one 8
          have x9 : v4.cell? ⟨w.heap.size, 9, none⟩ = some (.slice sgo sgn sgc) := HX4.out.one 9
          have x10 : v4.cell? ⟨w.heap.size, 10, none⟩ = some (.slice sio sinn sic) := HX4.out.one 10
          have x11 : v4.cell? ⟨w.heap.size, 11, none⟩ = some (.slice sjo sjn sjc) := HX4.out.one 11
          have y0 : v4.cell? ⟨w.heap.size + 1, 0, none⟩ = some (.slice ko2 K2 kc2) := HX4.out.two 0
          have y1 : v4.cell? ⟨w.heap.size + 1, 1, none⟩ = some (.slice fo2 F2 fc2) := HX4.out.two 1
          have y2 : v4.cell? ⟨w.heap.size + 1, 2, none⟩ = some (.slice mo2 M2 mc2) := HX4.out.two 2
          have y3 : v4.cell? ⟨w.heap.size + 1, 3, none⟩ = some (.bool ta) := HX4.out.two 3
          have y4 : v4.cell? ⟨w.heap.size + 1, 4, none⟩ = some (.bool tb) := HX4.out.two 4
          have y5 : v4.cell? ⟨w.heap.size + 1, 5, none⟩ = some (.bool tc) := HX4.out.two 5
          have y6 : v4.cell? ⟨w.heap.size + 1, 6, none⟩ = some (.bool td) := HX4.out.two 6
          have y7 : v4.cell? ⟨w.heap.size + 1, 7, none⟩ = some (.slice teo ten tec) := HX4.out.two 7
          have y8 : v4.cell? ⟨w.heap.size + 1, 8, none⟩ = some (.bool tf) := HX4.out.two 8
          have y9 : v4.cell? ⟨w.heap.size + 1, 9, none⟩ = some (.slice tgo tgn tgc) := HX4.out.two 9
          have y10 : v4.cell? ⟨w.heap.size + 1, 10, none⟩ = some (.slice tio tinn tic) := HX4.out.two 10
          have y11 : v4.cell? ⟨w.heap.size + 1, 11, none⟩ = some (.slice tjo tjn tjc) := HX4.out.two 11
          go_wp2_with fail
          go_ret
          exact ⟨by first | rfl | (simp; done) | (simp [*]; done), HX4.out.below⟩
theorem w_kSameObj (h : Nat) (ih : SaOk h) (a b : OB) (ko : Option Addr) (kc : Nat) (fo : Option Addr) (fc : Nat) (mo : Option Addr) (mc : Nat) (c0 c1 c2 c3 c4 c5 c6 c7 c8 : Value) (ko2 : Option Addr) (kc2 : Nat) (fo2 : Option Addr) (fc2 : Nat) (mo2 : Option Addr) (mc2 : Nat) (d0 d1 d2 d3 d4 d5 d6 d7 d8 : Value) (w : World) (hc : InO w h a ko kc fo fc mo mc c0 c1 c2 c3 c4 c5 c6 c7 c8) (hd : InO w h b ko2 kc2 fo2 fc2 mo2 mc2 d0 d1 d2 d3 d4 d5 d6 d7 d8) :
    Calls Try.prog 45 #[.agg #[.slice ko a.names.length kc, .slice fo a.fields.length fc, .slice mo a.must.length mc, c0, c1, c2, c3, c4, c5, c6, c7, c8], .agg #[.slice ko2 b.names.length kc2, .slice fo2 b.fields.length fc2, .slice mo2 b.must.length mc2, d0, d1, d2, d3, d4, d5, d6, d7, d8]] w fun e w' => e = .returned (.bool (sOb (sameT h) a b)) ∧ Below w.heap.size w w' := by
  have HC := Hid.mk (fun (u : World) (hu : Below w.heap.size w u) => ih a.rest b.rest _ _ u (hc.rest.keep hu) (hd.rest.keep hu))
  have H1 := Hid.mk (fun (u : World) (hu : Below w.heap.size w u) => w_kSameStrings ko _ kc a.names ko2 _ kc2 b.names u (hc.nm.keep hu) (hd.nm.keep hu) rfl rfl hc.caps.1 hd.caps.1 hc.lens.1 hd.lens.1)
  have H2 := Hid.mk (fun (u : World) (hu : Below w.heap.size w u) => w_kSameTypes h ih fo _ fc a.fields fo2 _ fc2 b.fields u ((TyIn.mk hc.fd).keep hu) ((TyIn.mk hd.fd).keep hu) rfl rfl hc.caps.2.1 hd.caps.2.1 hc.lens.2.1 hd.lens.2.1)
  have H3 := Hid.mk (fun (u : World) (hu : Below w.heap.size w u) => w_kSameBools mo _ mc a.must mo2 _ mc2 b.must u (hc.ms.keep hu) (hd.ms.keep hu) rfl rfl hc.caps.2.2 hd.caps.2.2 hc.lens.2.2.1 hd.lens.2.2.1)
  have hcr := hc.rest
  have hdr := hd.rest
  clear hc hd
  obtain ⟨sa, sb, sc, sd, ⟨seo, sen, sec⟩, sf, ⟨sgo, sgn, sgc⟩, ⟨sio, sinn, sic⟩, ⟨sjo, sjn, sjc⟩, eshs⟩ := inT_shape hcr
  simp only [Value.agg.injEq, Array.mk.injEq, List.cons.injEq, and_true] at eshs
  obtain ⟨rfl, rfl, rfl, rfl, rfl, rfl, rfl, rfl, rfl⟩ := eshs
  obtain ⟨ta, tb, tc, td, ⟨teo, ten, tec⟩, tf, ⟨tgo, tgn, tgc⟩, ⟨tio, tinn, tic⟩, ⟨tjo, tjn, tjc⟩, esht⟩ := inT_shape hdr
  simp only [Value.agg.injEq, Array.mk.injEq, List.cons.injEq, and_true] at esht
  obtain ⟨rfl, rfl, rfl, rfl, rfl, rfl, rfl, rfl, rfl⟩ := esht
  exact kSameObj_v w _ _ _ _ _ _ _ _ _ _ _ _ _ _ _ _ _ _ _ _ _ _ _ _ _ _ _ _ _ _ _ _ _ _ _ _ _ _ _ _ _ _ _ _ _ _ _ _ _ _ _ _ _ _ _ _ H1 H2 H3 HC
set_option maxRecDepth 100000 in
set_option maxHeartbeats 6400000 in
theorem w_kSameObjs (h : Nat) (ih : SaOk h) (ao : Option Addr) (M ac : Nat) (xs : List OB) (bo : Option Addr) (N bc : Nat) (ys : List OB) (w : World) (ha : ObIn w h ao xs) (hb : ObIn w h bo ys) (hM : xs.length = M) (hN : ys.length = N) (h1 : M ≤ ac) (h2 : N ≤ bc) (h3 : M ≤ 140737488355328) (h4 : N ≤ 140737488355328) :
    Calls Try.prog 28 #[.slice ao M ac, .slice bo N bc] w fun e w' => e = .returned (.bool (sameL (sOb (sameT h)) xs ys)) ∧ Below w.heap.size w w' := by
  by_cases hMN : M = N
  · subst hMN
    obtain ⟨R, hR⟩ : ∃ R, sameL (sOb (sameT h)) xs ys = R := ⟨_, rfl⟩
    obtain ⟨zs, hzs⟩ : ∃ zs, xs.zip ys = zs := ⟨_, rfl⟩
    have HR : Hid (R = zs.all fun p => (sOb (sameT h)) p.1 p.2) := by show _ = _; rw [← hR, ← hzs]; unfold sameL; rw [hM, hN, decide_eq_true rfl, Bool.true_and]
    have HZL : Hid (zs.length = M) := by show _ = _; rw [← hzs, List.length_zip, hM, hN, Nat.min_self]
    have HZ : Hid (∀ j, (hj : j < zs.length) → ∃ (h1 : j < xs.length) (h2 : j < ys.length), zs[j] = (xs[j], ys[j])) := by
      intro j hj
      subst hzs
      have := List.length_zip (l₁ := xs) (l₂ := ys)
      exact ⟨by omega, by omega, by rw [List.getElem_zip]⟩
    rw [hR]
    have HIh := Hid.mk ih
    have HA := Hid.mk ha
    have HB := Hid.mk hb
    clear ha hb hM hN hR hzs ih
    go_enter Try.func28, Try.ntmps28
    go_wp2_with fail
    go_loopw [5] (fun i wr => ∃ k : Nat, k ≤ M ∧ i = .int .i64 (k : Int) ∧ Hid (Below w.heap.size w wr) ∧ Hid ((zs.take k).all (fun p => (sOb (sameT h)) p.1 p.2) = true)) (fun i _ => M - (intOf i).toNat)
    case atStart => exact ⟨0, Nat.zero_le _, rfl, Below.refl _ _, rfl⟩
    case round =>
      obtain ⟨k, hk, rfl, HW, HQ⟩ := hrel
      by_cases hlt : k < M
      · have hl1 : (k : Int) < (M : Int) := by omega
        have hl0 : (0 : Int) ≤ (k : Int) := by omega
        have hkl : k < zs.length := by rw [HZL.out]; exact hlt
        obtain ⟨z1, z2, hz⟩ := HZ.out k hkl
        obtain ⟨b1, off1, hp1, hbl1, hrow1⟩ := (HA.out.keep HW.out).row (by omega)
        subst hp1
        obtain ⟨ko1, kc1, fo1, fc1, mo1, mc1, xc0, xc1, xc2, xc3, xc4, xc5, xc6, xc7, xc8, ⟨x9, x10, x11⟩, hc1, hct1⟩ := hrow1 k z1
        obtain ⟨x0, x1, x2, x3, x4, x5, x6, x7, x8⟩ := hc1
        obtain ⟨b2, off2, hp2, hbl2, hrow2⟩ := (HB.out.keep HW.out).row (by omega)
        subst hp2
        obtain ⟨ko2, kc2, fo2, fc2, mo2, mc2, yc0, yc1, yc2, yc3, yc4, yc5, yc6, yc7, yc8, ⟨y9, y10, y11⟩, hc2, hct2⟩ := hrow2 k z2
        obtain ⟨y0, y1, y2, y3, y4, y5, y6, y7, y8⟩ := hc2
        have HC := Hid.mk (fun (d : Nat) (os : Array Obj) => w_kSameObj h HIh.out xs[k] ys[k] _ _ _ _ _ _ _ _ _ _ _ _ _ _ _ _ _ _ _ _ _ _ _ _ _ _ _ _ _ _ (grow (redrawn wr d) os) (hct1.keep (below_regrown wr d os)) (hct2.keep (below_regrown wr d os)))
        obtain ⟨sa, sb, sc, sd, ⟨seo, sen, sec⟩, sf, ⟨sgo, sgn, sgc⟩, ⟨sio, sinn, sic⟩, ⟨sjo, sjn, sjc⟩, eshs⟩ := inT_shape hct1.rest
        simp only [Value.agg.injEq, Array.mk.injEq, List.cons.injEq, and_true] at eshs
        obtain ⟨rfl, rfl, rfl, rfl, rfl, rfl, rfl, rfl, rfl⟩ := eshs
        obtain ⟨ta, tb, tc, td, ⟨teo, ten, tec⟩, tf, ⟨tgo, tgn, tgc⟩, ⟨tio, tinn, tic⟩, ⟨tjo, tjn, tjc⟩, esht⟩ := inT_shape hct2.rest
        simp only [Value.agg.injEq, Array.mk.injEq, List.cons.injEq, and_true] at esht
        obtain ⟨rfl, rfl, rfl, rfl, rfl, rfl, rfl, rfl, rfl⟩ := esht
        generalize xs[k].names.length = n_xs_names at *
        generalize xs[k].fields.length = n_xs_fields at *
        generalize xs[k].must.length = n_xs_must at *
        generalize ys[k].names.length = n_ys_names at *
        generalize ys[k].fields.length = n_ys_fields at *
        generalize ys[k].must.length = n_ys_must at *
        clear hct1 hct2 hrow1 hrow2
        have HU : Hid ((zs.take (k + 1)).all (fun p => (sOb (sameT h)) p.1 p.2) = (sOb (sameT h)) xs[k] ys[k]) := by show _ = _; rw [zall_up hkl, HQ.out, hz]; rfl
        have HNo : Hid ((sOb (sameT h)) xs[k] ys[k] = false → R = false) := fun hh => by rw [HR.out]; exact zall_no hkl (by rw [hz]; exact hh)
        obtain ⟨r, hr⟩ : ∃ r, (sOb (sameT h)) xs[k] ys[k] = r := ⟨_, rfl⟩
        rw [hr] at HU HNo
        rw [hr] at HC
        clear hr
        have A_x0 := fun d os => cell_regrown x0 d os
        have A_x1 := fun d os => cell_regrown x1 d os
        have A_x2 := fun d os => cell_regrown x2 d os
        have A_x3 := fun d os => cell_regrown x3 d os
        have A_x4 := fun d os => cell_regrown x4 d os
        have A_x5 := fun d os => cell_regrown x5 d os
        have A_x6 := fun d os => cell_regrown x6 d os
        have A_x7 := fun d os => cell_regrown x7 d os
        have A_x8 := fun d os => cell_regrown x8 d os
        have A_y0 := fun d os => cell_regrown y0 d os
        have A_y1 := fun d os => cell_regrown y1 d os
        have A_y2 := fun d os => cell_regrown y2 d os
        have A_y3 := fun d os => cell_regrown y3 d os
        have A_y4 := fun d os => cell_regrown y4 d os
        have A_y5 := fun d os => cell_regrown y5 d os
        have A_y6 := fun d os => cell_regrown y6 d os
        have A_y7 := fun d os => cell_regrown y7 d os
        have A_y8 := fun d os => cell_regrown y8 d os
        have A_x9 := fun d os => cell_regrown x9 d os
        have A_x10 := fun d os => cell_regrown x10 d os
        have A_x11 := fun d os => cell_regrown x11 d os
        have A_y9 := fun d os => cell_regrown y9 d os
        have A_y10 := fun d os => cell_regrown y10 d os
        have A_y11 := fun d os => cell_regrown y11 d os
        clear hz HQ
        go_wp2_with fail
        cases r with
        | true =>
          have HU' := HU
          refine wp_region_quiet_below (by kernel_rfl) (by kernel_rfl) ?_
          repeat (go_big_quiet_step (exact Calls.regrown_of (HC.out _ _)))
          refine wpQuiet_nil ?_
          intro w9 hw'
          have hb9 : Below wr.heap.size wr w9 := by
            obtain ⟨⟨dq, osq⟩, rfl⟩ := hw'
            exact below_regrown wr dq osq
          have HW9 := Hid.mk (HW.out.trans (hb9.mono HW.out.size))
          clear hw' hb9 A_x0 x0 A_x1 x1 A_x2 x2 A_x3 x3 A_x4 x4 A_x5 x5 A_x6 x6 A_x7 x7 A_x8 x8 A_y0 y0 A_y1 y1 A_y2 y2 A_y3 y3 A_y4 y4 A_y5 y5 A_y6 y6 A_y7 y7 A_y8 y8 A_x9 x9 A_x10 x10 A_x11 x11 A_y9 y9 A_y10 y10 A_y11 y11
          go_wp2_with fail
          go_roundw
          case rel => exact ⟨k + 1, hlt, by go_num, HW9, HU'⟩
          case measure => simp [intOf]; omega
        | false =>
          have HF' := Hid.mk (HNo.out rfl)
          refine wp_region_quiet_below (by kernel_rfl) (by kernel_rfl) ?_
          repeat (go_big_quiet_step (exact Calls.regrown_of (HC.out _ _)))
          refine wpQuiet_nil ?_
          intro w9 hw'
          have hb9 : Below wr.heap.size wr w9 := by
            obtain ⟨⟨dq, osq⟩, rfl⟩ := hw'
            exact below_regrown wr dq osq
          have HW9 := Hid.mk (HW.out.trans (hb9.mono HW.out.size))
          clear hw' hb9 A_x0 x0 A_x1 x1 A_x2 x2 A_x3 x3 A_x4 x4 A_x5 x5 A_x6 x6 A_x7 x7 A_x8 x8 A_y0 y0 A_y1 y1 A_y2 y2 A_y3 y3 A_y4 y4 A_y5 y5 A_y6 y6 A_y7 y7 A_y8 y8 A_x9 x9 A_x10 x10 A_x11 x11 A_y9 y9 A_y10 y10 A_y11 y11
          go_wp2_with fail
          go_ret
          exact ⟨by first | (rw [HF'.out]; rfl) | rw [HF'.out], HW9.out⟩
      · have hl1 : ¬ (k : Int) < (M : Int) := by omega
        have HF' : Hid (R = true) := by show _ = _; rw [HR.out, ← HQ.out, List.take_of_length_le (by rw [HZL.out]; omega)]
        go_wp2_with fail
        go_ret
        exact ⟨by first | (rw [HF'.out]; rfl) | rw [HF'.out], HW.out⟩
  · have hne : ¬ (M : Int) = (N : Int) := by omega
    have HF : Hid (sameL (sOb (sameT h)) xs ys = false) := by show _ = _; unfold sameL; rw [hM, hN, decide_eq_false hMN, Bool.false_and]
    clear ha hb hM hN hMN
    go_enter Try.func28, Try.ntmps28
    go_wp2_with fail
    go_ret
    exact ⟨by first | (rw [HF.out]; rfl) | rw [HF.out], Below.refl _ _⟩
set_option maxRecDepth 100000 in
set_option maxHeartbeats 3200000 in
theorem kSameType_v (w : World) (sa sb sc sd sf : Bool) (seo sgo sio sjo : Option Addr) (sen sec sgn sgc sinn sic sjn sjc : Nat) (ta tb tc td tf : Bool) (teo tgo tio tjo : Option Addr) (ten tec tgn tgc tinn tic tjn tjc : Nat) (r1 r2 r3 r4 : Bool) (H1 : Hid (∀ u, Below w.heap.size w u → Calls Try.prog 25 #[.slice seo sen sec, .slice teo ten tec] u fun e w' => e = .returned (.bool r1) ∧ Below u.heap.size u w')) (H2 : Hid (∀ u, Below w.heap.size w u → Calls Try.prog 26 #[.slice sgo sgn sgc, .slice tgo tgn tgc] u fun e w' => e = .returned (.bool r2) ∧ Below u.heap.size u w')) (H3 : Hid (∀ u, Below w.heap.size w u → Calls Try.prog 27 #[.slice sio sinn sic, .slice tio tinn tic] u fun e w' => e = .returned (.bool r3) ∧ Below u.heap.size u w')) (H4 : Hid (∀ u, Below w.heap.size w u → Calls Try.prog 28 #[.slice sjo sjn sjc, .slice tjo tjn tjc] u fun e w' => e = .returned (.bool r4) ∧ Below u.heap.size u w')) :
    Calls Try.prog 14 #[.agg #[.bool sa, .bool sb, .bool sc, .bool sd, .slice seo sen sec, .bool sf, .slice sgo sgn sgc, .slice sio sinn sic, .slice sjo sjn sjc], .agg #[.bool ta, .bool tb, .bool tc, .bool td, .slice teo ten tec, .bool tf, .slice tgo tgn tgc, .slice tio tinn tic, .slice tjo tjn tjc]] w fun e w' => e = .returned (.bool (eqB sa ta && (eqB sb tb && (eqB sc tc && (eqB sd td && (eqB sf tf && (r1 && (r2 && (r3 && r4))))))))) ∧ Below w.heap.size w w' := by
  have er : ∀ b : Bool, eqB b b = true := fun b => by cases b <;> rfl
  have en : ∀ b : Bool, (b != b) = false := fun b => by cases b <;> rfl
  have HX0 := Hid.mk (bx2_new w #[.bool sa, .bool sb, .bool sc, .bool sd, .slice seo sen sec, .bool sf, .slice sgo sgn sgc, .slice sio sinn sic, .slice sjo sjn sjc] #[.bool ta, .bool tb, .bool tc, .bool td, .slice teo ten tec, .bool tf, .slice tgo tgn tgc, .slice tio tinn tic, .slice tjo tjn tjc] 33)
  obtain ⟨W0, hW0⟩ : ∃ W0, (w.alloc (.cells #[.bool sa, .bool sb, .bool sc, .bool sd, .slice seo sen sec, .bool sf, .slice sgo sgn sgc, .slice sio sinn sic, .slice sjo sjn sjc] 33)).alloc (.cells #[.bool ta, .bool tb, .bool tc, .bool td, .slice teo ten tec, .bool tf, .slice tgo tgn tgc, .slice tio tinn tic, .slice tjo tjn tjc] 33) = W0 := ⟨_, rfl⟩
  rw [hW0] at HX0
  have x0 : W0.cell? ⟨w.heap.size, 0, none⟩ = some (.bool sa) := HX0.out.one 0
  have x1 : W0.cell? ⟨w.heap.size, 1, none⟩ = some (.bool sb) := HX0.out.one 1
  have x2 : W0.cell? ⟨w.heap.size, 2, none⟩ = some (.bool sc) := HX0.out.one 2
  have x3 : W0.cell? ⟨w.heap.size, 3, none⟩ = some (.bool sd) := HX0.out.one 3
  have x4 : W0.cell? ⟨w.heap.size, 4, none⟩ = some (.slice seo sen sec) := HX0.out.one 4
  have x5 : W0.cell? ⟨w.heap.size, 5, none⟩ = some (.bool sf) := HX0.out.one 5
  have x6 : W0.cell? ⟨w.heap.size, 6, none⟩ = some (.slice sgo sgn sgc) := HX0.out.one 6
  have x7 : W0.cell? ⟨w.heap.size, 7, none⟩ = some (.slice sio sinn sic) := HX0.out.one 7
  have x8 : W0.cell? ⟨w.heap.size, 8, none⟩ = some (.slice sjo sjn sjc) := HX0.out.one 8
  have y0 : W0.cell? ⟨w.heap.size + 1, 0, none⟩ = some (.bool ta) := HX0.out.two 0
  have y1 : W0.cell? ⟨w.heap.size + 1, 1, none⟩ = some (.bool tb) := HX0.out.two 1
  have y2 : W0.cell? ⟨w.heap.size + 1, 2, none⟩ = some (.bool tc) := HX0.out.two 2
  have y3 : W0.cell? ⟨w.heap.size + 1, 3, none⟩ = some (.bool td) := HX0.out.two 3
  have y4 : W0.cell? ⟨w.heap.size + 1, 4, none⟩ = some (.slice teo ten tec) := HX0.out.two 4
  have y5 : W0.cell? ⟨w.heap.size + 1, 5, none⟩ = some (.bool tf) := HX0.out.two 5
  have y6 : W0.cell? ⟨w.heap.size + 1, 6, none⟩ = some (.slice tgo tgn tgc) := HX0.out.two 6
  have y7 : W0.cell? ⟨w.heap.size + 1, 7, none⟩ = some (.slice tio tinn tic) := HX0.out.two 7
  have y8 : W0.cell? ⟨w.heap.size + 1, 8, none⟩ = some (.slice tjo tjn tjc) := HX0.out.two 8
  by_cases e_sa : sa = ta
  · subst e_sa
    by_cases e_sb : sb = tb
    · subst e_sb
      by_cases e_sc : sc = tc
      · subst e_sc
        by_cases e_sd : sd = td
        · subst e_sd
          by_cases e_sf : sf = tf
          · subst e_sf
            go_enter Try.func14, Try.ntmps14
            go_wp2_with fail
            cases r1 with
            | false =>
              refine (H1.out _ HX0.out.below).mono ?_
              rintro e v1 ⟨rfl, hq⟩
              have HX1 := Hid.mk (HX0.out.keep hq)
              clear hq HX0 x0 x1 x2 x3 x4 x5 x6 x7 x8 y0 y1 y2 y3 y4 y5 y6 y7 y8 hW0
              go_wp2_with fail
              go_ret
              exact ⟨by first | rfl | (simp; done) | (simp [*]; done), HX1.out.below⟩
            | true =>
              refine (H1.out _ HX0.out.below).mono ?_
              rintro e v1 ⟨rfl, hq⟩
              have HX1 := Hid.mk (HX0.out.keep hq)
              clear hq HX0 x0 x1 x2 x3 x4 x5 x6 x7 x8 y0 y1 y2 y3 y4 y5 y6 y7 y8 hW0
              have x0 : v1.cell? ⟨w.heap.size, 0, none⟩ = some (.bool sa) := HX1.out.one 0
              have x1 : v1.cell? ⟨w.heap.size, 1, none⟩ = some (.bool sb) := HX1.out.one 1
              have x2 : v1.cell? ⟨w.heap.size, 2, none⟩ = some (.bool sc) := HX1.out.one 2
              have x3 : v1.cell? ⟨w.heap.size, 3, none⟩ = some (.bool sd) := HX1.out.one 3
              have x4 : v1.cell? ⟨w.heap.size, 4, none⟩ = some (.slice seo sen sec) := HX1.out.one 4
              have x5 : v1.cell? ⟨w.heap.size, 5, none⟩ = some (.bool sf) := HX1.out.one 5
              have x6 : v1.cell? ⟨w.heap.size, 6, none⟩ = some (.slice sgo sgn sgc) := HX1.out.one 6
              have x7 : v1.cell? ⟨w.heap.size, 7, none⟩ = some (.slice sio sinn sic) := HX1.out.one 7
              have x8 : v1.cell? ⟨w.heap.size, 8, none⟩ = some (.slice sjo sjn sjc) := HX1.out.one 8
              have y0 : v1.cell? ⟨w.heap.size + 1, 0, none⟩ = some (.bool sa) := HX1.out.two 0
              have y1 : v1.cell? ⟨w.heap.size + 1, 1, none⟩ = some (.bool sb) := HX1.out.two 1
              have y2 : v1.cell? ⟨w.heap.size + 1, 2, none⟩ = some (.bool sc) := HX1.out.two 2
              have y3 : v1.cell? ⟨w.heap.size + 1, 3, none⟩ = some (.bool sd) := HX1.out.two 3
              have y4 : v1.cell? ⟨w.heap.size + 1, 4, none⟩ = some (.slice teo ten tec) := HX1.out.two 4
              have y5 : v1.cell? ⟨w.heap.size + 1, 5, none⟩ = some (.bool sf) := HX1.out.two 5
              have y6 : v1.cell? ⟨w.heap.size + 1, 6, none⟩ = some (.slice tgo tgn tgc) := HX1.out.two 6
              have y7 : v1.cell? ⟨w.heap.size + 1, 7, none⟩ = some (.slice tio tinn tic) := HX1.out.two 7
              have y8 : v1.cell? ⟨w.heap.size + 1, 8, none⟩ = some (.slice tjo tjn tjc) := HX1.out.two 8
              go_wp2_with fail
              cases r2 with
              | false =>
                refine (H2.out _ HX1.out.below).mono ?_
                rintro e v2 ⟨rfl, hq⟩
                have HX2 := Hid.mk (HX1.out.keep hq)
                clear hq HX1 x0 x1 x2 x3 x4 x5 x6 x7 x8 y0 y1 y2 y3 y4 y5 y6 y7 y8
                go_wp2_with fail
                go_ret
                exact ⟨by first | rfl | (simp; done) | (simp [*]; done), HX2.out.below⟩
              | true =>
                refine (H2.out _ HX1.out.below).mono ?_
                rintro e v2 ⟨rfl, hq⟩
                have HX2 := Hid.mk (HX1.out.keep hq)
                clear hq HX1 x0 x1 x2 x3 x4 x5 x6 x7 x8 y0 y1 y2 y3 y4 y5 y6 y7 y8
                have x0 : v2.cell? ⟨w.heap.size, 0, none⟩ = some (.bool sa) := HX2.out.one 0
                have x1 : v2.cell? ⟨w.heap.size, 1, none⟩ = some (.bool sb) := HX2.out.one 1
                have x2 : v2.cell? ⟨w.heap.size, 2, none⟩ = some (.bool sc) := HX2.out.one 2
                have x3 : v2.cell? ⟨w.heap.size, 3, none⟩ = some (.bool sd) := HX2.out.one 3
                have x4 : v2.cell? ⟨w.heap.size, 4, none⟩ = some (.slice seo sen sec) := HX2.out.one 4
                have x5 : v2.cell? ⟨w.heap.size, 5, none⟩ = some (.bool sf) := HX2.out.one 5
                have x6 : v2.cell? ⟨w.heap.size, 6, none⟩ = some (.slice sgo sgn sgc) := HX2.out.one 6
                have x7 : v2.cell? ⟨w.heap.size, 7, none⟩ = some (.slice sio sinn sic) := HX2.out.one 7
                have x8 : v2.cell? ⟨w.heap.size, 8, none⟩ = some (.slice sjo sjn sjc) := HX2.out.one 8
                have y0 : v2.cell? ⟨w.heap.size + 1, 0, none⟩ = some (.bool sa) := HX2.out.two 0
                have y1 : v2.cell? ⟨w.heap.size + 1, 1, none⟩ = some (.bool sb) := HX2.out.two 1
                have y2 : v2.cell? ⟨w.heap.size + 1, 2, none⟩ = some (.bool sc) := HX2.out.two 2
                have y3 : v2.cell? ⟨w.heap.size + 1, 3, none⟩ = some (.bool sd) := HX2.out.two 3
                have y4 : v2.cell? ⟨w.heap.size + 1, 4, none⟩ = some (.slice teo ten tec) := HX2.out.two 4
                have y5 : v2.cell? ⟨w.heap.size + 1, 5, none⟩ = some (.bool sf) := HX2.out.two 5
                have y6 : v2.cell? ⟨w.heap.size + 1, 6, none⟩ = some (.slice tgo tgn tgc) := HX2.out.two 6
                have y7 : v2.cell? ⟨w.heap.size + 1, 7, none⟩ = some (.slice tio tinn tic) := HX2.out.two 7
                have y8 : v2.cell? ⟨w.heap.size + 1, 8, none⟩ = some (.slice tjo tjn tjc) := HX2.out.two 8
                go_wp2_with fail
                cases r3 with
                | false =>
                  refine (H3.out _ HX2.out.below).mono ?_
                  rintro e v3 ⟨rfl, hq⟩
                  have HX3 := Hid.mk (HX2.out.keep hq)
                  clear hq HX2 x0 x1 x2 x3 x4 x5 x6 x7 x8 y0 y1 y2 y3 y4 y5 y6 y7 y8
                  go_wp2_with fail
                  go_ret
                  exact ⟨by first | rfl | (simp; done) | (simp [*]; done), HX3.out.below⟩
                | true =>
                  refine (H3.out _ HX2.out.below).mono ?_
                  rintro e v3 ⟨rfl, hq⟩
                  have HX3 := Hid.mk (HX2.out.keep hq)
                  clear hq HX2 x0 x1 x2 x3 x4 x5 x6 x7 x8 y0 y1 y2 y3 y4 y5 y6 y7 y8
                  have x0 : v3.cell? ⟨w.heap.size, 0, none⟩ = some (.bool sa) := HX3.out.one 0
                  have x1 : v3.cell? ⟨w.heap.size, 1, none⟩ = some (.bool sb) := HX3.out.one 1
                  have x2 : v3.cell? ⟨w.heap.size, 2, none⟩ = some (.bool sc) := HX3.out.one 2
                  have x3 : v3.cell? ⟨w.heap.size, 3, none⟩ = some (.bool sd) := HX3.out.one 3
                  have x4 : v3.cell? ⟨w.heap.size, 4, none⟩ = some (.slice seo sen sec) := HX3.out.one 4
                  have x5 : v3.cell? ⟨w.heap.size, 5, none⟩ = some (.bool sf) := HX3.out.one 5
                  have x6 : v3.cell? ⟨w.heap.size, 6, none⟩ = some (.slice sgo sgn sgc) := HX3.out.one 6
                  have x7 : v3.cell? ⟨w.heap.size, 7, none⟩ = some (.slice sio sinn sic) := HX3.out.one 7
                  have x8 : v3.cell? ⟨w.heap.size, 8, none⟩ = some (.slice sjo sjn sjc) := HX3.out.one 8
                  have y0 : v3.cell? ⟨w.heap.size + 1, 0, none⟩ = some (.bool sa) := HX3.out.two 0
                  have y1 : v3.cell? ⟨w.heap.size + 1, 1, none⟩ = some (.bool sb) := HX3.out.two 1
                  have y2 : v3.cell? ⟨w.heap.size + 1, 2, none⟩ = some (.bool sc) := HX3.out.two 2
                  have y3 : v3.cell? ⟨w.heap.size + 1, 3, none⟩ = some (.bool sd) := HX3.out.two 3
                  have y4 : v3.cell? ⟨w.heap.size + 1, 4, none⟩ = some (.slice teo ten tec) := HX3.out.two 4
                  have y5 : v3.cell? ⟨w.heap.size + 1, 5, none⟩ = some (.bool sf) := HX3.out.two 5
                  have y6 : v3.cell? ⟨w.heap.size + 1, 6, none⟩ = some (.slice tgo tgn tgc) := HX3.out.two 6
                  have y7 : v3.cell? ⟨w.heap.size + 1, 7, none⟩ = some (.slice tio tinn tic) := HX3.out.two 7
                  have y8 : v3.cell? ⟨w.heap.size + 1, 8, none⟩ = some (.slice tjo tjn tjc) := HX3.out.two 8
                  go_wp2_with fail
                  cases r4 with
                  | false =>
                    refine (H4.out _ HX3.out.below).mono ?_
                    rintro e v4 ⟨rfl, hq⟩
                    have HX4 := Hid.mk (HX3.out.keep hq)
                    clear hq HX3 x0 x1 x2 x3 x4 x5 x6 x7 x8 y0 y1 y2 y3 y4 y5 y6 y7 y8
                    go_wp2_with fail
                    go_ret
                    exact ⟨by first | rfl | (simp; done) | (simp [*]; done), HX4.out.below⟩
                  | true =>
                    refine (H4.out _ HX3.out.below).mono ?_
                    rintro e v4 ⟨rfl, hq⟩
                    have HX4 := Hid.mk (HX3.out.keep hq)
                    clear hq HX3 x0 x1 x2 x3 x4 x5 x6 x7 x8 y0 y1 y2 y3 y4 y5 y6 y7 y8
                    have x0 : v4.cell? ⟨w.heap.size, 0, none⟩ = some (.bool sa) := HX4.out.one 0
                    have x1 : v4.cell? ⟨w.heap.size, 1, none⟩ = some (.bool sb) := HX4.out.one 1
                    have x2 : v4.cell? ⟨w.heap.size, 2, none⟩ = some (.bool sc) := HX4.out.one 2
                    have x3 : v4.cell? ⟨w.heap.size, 3, none⟩ = some (.bool sd) := HX4.out.one 3
                    have x4 : v4.cell? ⟨w.heap.size, 4, none⟩ = some (.slice seo sen sec) := HX4.out.one 4
                    have x5 : v4.cell? ⟨w.heap.size, 5, none⟩ = some (.bool sf) := HX4.out.one 5
                    have x6 : v4.cell? ⟨w.heap.size, 6, none⟩ = some (.slice sgo sgn sgc) := HX4.out.one 6
                    have x7 : v4.cell? ⟨w.heap.size, 7, none⟩ = some (.slice sio sinn sic) := HX4.out.one 7
                    have x8 : v4.cell? ⟨w.heap.size, 8, none⟩ = some (.slice sjo sjn sjc) := HX4.out.one 8
                    have y0 : v4.cell? ⟨w.heap.size + 1, 0, none⟩ = some (.bool sa) := HX4.out.two 0
                    have y1 : v4.cell? ⟨w.heap.size + 1, 1, none⟩ = some (.bool sb) := HX4.out.two 1
                    have y2 : v4.cell? ⟨w.heap.size + 1, 2, none⟩ = some (.bool sc) := HX4.out.two 2
                    have y3 : v4.cell? ⟨w.heap.size + 1, 3, none⟩ = some (.bool sd) := HX4.out.two 3
                    have y4 : v4.cell? ⟨w.heap.size + 1, 4, none⟩ = some (.slice teo ten tec) := HX4.out.two 4
                    have y5 : v4.cell? ⟨w.heap.size + 1, 5, none⟩ = some (.bool sf) := HX4.out.two 5
                    have y6 : v4.cell? ⟨w.heap.size + 1, 6, none⟩ = some (.slice tgo tgn tgc) := HX4.out.two 6
                    have y7 : v4.cell? ⟨w.heap.size + 1, 7, none⟩ = some (.slice tio tinn tic) := HX4.out.two 7
                    have y8 : v4.cell? ⟨w.heap.size + 1, 8, none⟩ = some (.slice tjo tjn tjc) := HX4.out.two 8
                    go_wp2_with fail
                    go_ret
                    exact ⟨by first | rfl | (simp; done) | (simp [*]; done), HX4.out.below⟩
          · obtain rfl : tf = !sf := by cases sf <;> cases tf <;> simp_all
            have n_sf : (sf != !sf) = true := by cases sf <;> rfl
            have m_sf : eqB sf (!sf) = false := by cases sf <;> rfl
            go_enter Try.func14, Try.ntmps14
            go_wp2_with fail
            go_ret
            exact ⟨by first | rfl | (simp; done) | (simp [*]; done), HX0.out.below⟩
        · obtain rfl : td = !sd := by cases sd <;> cases td <;> simp_all
          have n_sd : (sd != !sd) = true := by cases sd <;> rfl
          have m_sd : eqB sd (!sd) = false := by cases sd <;> rfl
          go_enter Try.func14, Try.ntmps14
          go_wp2_with fail
          go_ret
          exact ⟨by first | rfl | (simp; done) | (simp [*]; done), HX0.out.below⟩
      · obtain rfl : tc = !sc := by cases sc <;> cases tc <;> simp_all
        have n_sc : (sc != !sc) = true := by cases sc <;> rfl
        have m_sc : eqB sc (!sc) = false := by cases sc <;> rfl
        go_enter Try.func14, Try.ntmps14
        go_wp2_with fail
        go_ret
        exact ⟨by first | rfl | (simp; done) | (simp [*]; done), HX0.out.below⟩
    · obtain rfl : tb = !sb := by cases sb <;> cases tb <;> simp_all
      have n_sb : (sb != !sb) = true := by cases sb <;> rfl
      have m_sb : eqB sb (!sb) = false := by cases sb <;> rfl
      go_enter Try.func14, Try.ntmps14
      go_wp2_with fail
      go_ret
      exact ⟨by first | rfl | (simp; done) | (simp [*]; done), HX0.out.below⟩
  · obtain rfl : ta = !sa := by cases sa <;> cases ta <;> simp_all
    have n_sa : (sa != !sa) = true := by cases sa <;> rfl
    have m_sa : eqB sa (!sa) = false := by cases sa <;> rfl
    go_enter Try.func14, Try.ntmps14
    go_wp2_with fail
    go_ret
    exact ⟨by first | rfl | (simp; done) | (simp [*]; done), HX0.out.below⟩
/-- SAMETYPE, of every two types -/
theorem w_kSameType : ∀ h, SaOk h := by
  intro h
  induction h with
  | zero => intro A B va vb w hI; exact hI.elim
  | succ h ih =>
    intro A B va vb w hA hB
    obtain ⟨no, nc, xo, xc, ao, ac, oo, oc, rfl, ⟨a1, a2, a3, a4⟩, ⟨a5, a6, a7, a8⟩, z1, z2, hs, hk, ha, ho⟩ := hA
    obtain ⟨no', nc', xo', xc', ao', ac', oo', oc', rfl, ⟨a1', a2', a3', a4'⟩, ⟨a5', a6', a7', a8'⟩, z1', z2', hs', hk', ha', ho'⟩ := hB
    have toO : ∀ {oo : Option Addr} {os : List OB}, (0 < os.length → ∃ b off, oo = some ⟨b, off, none⟩ ∧ b < w.heap.size ∧ ∀ i, (hi : i < os.length) → ∃ (ko : Option Addr) (kc : Nat) (fo : Option Addr) (fc : Nat) (mo : Option Addr) (mc : Nat) (c0 c1 c2 c3 c4 c5 c6 c7 c8 : Value),
        (w.cell? ⟨b, off + i * 12, none⟩ = some (.slice ko os[i].names.length kc) ∧ w.cell? ⟨b, off + i * 12 + 1, none⟩ = some (.slice fo os[i].fields.length fc) ∧ w.cell? ⟨b, off + i * 12 + 2, none⟩ = some (.slice mo os[i].must.length mc)) ∧
        C9 w b (off + i * 12 + 3) c0 c1 c2 c3 c4 c5 c6 c7 c8 ∧
        (os[i].names.length ≤ kc ∧ os[i].fields.length ≤ fc ∧ os[i].must.length ≤ mc) ∧
        (os[i].names.length ≤ 140737488355328 ∧ os[i].fields.length ≤ 140737488355328 ∧ os[i].must.length ≤ 140737488355328 ∧ ∀ k ∈ os[i].names, k.size ≤ 140737488355328) ∧
        KIn w ko os[i].names ∧ BoIn w mo os[i].must ∧
        (0 < os[i].fields.length → ∃ b2 off2, fo = some ⟨b2, off2, none⟩ ∧ b2 < w.heap.size ∧ ∀ j, (hj : j < os[i].fields.length) → ∃ d0 d1 d2 d3 d4 d5 d6 d7 d8 : Value,
          C9 w b2 (off2 + j * 9) d0 d1 d2 d3 d4 d5 d6 d7 d8 ∧ InT w h os[i].fields[j] (.agg #[d0, d1, d2, d3, d4, d5, d6, d7, d8])) ∧
        InT w h os[i].rest (.agg #[c0, c1, c2, c3, c4, c5, c6, c7, c8])) → ObIn w h oo os := fun ho => ⟨fun h0 => by
      obtain ⟨b, off, e, hl, hc⟩ := ho h0
      refine ⟨b, off, e, hl, fun i hi => ?_⟩
      obtain ⟨ko, kc, fo, fc, mo, mc, c0, c1, c2, c3, c4, c5, c6, c7, c8, g, h1, h2, h3, h4, h5, h6, h7⟩ := hc i hi
      exact ⟨ko, kc, fo, fc, mo, mc, c0, c1, c2, c3, c4, c5, c6, c7, c8, g, h1, ⟨h2, h3, h4, h5, h6, h7⟩⟩⟩
    exact kSameType_v w _ _ _ _ _ _ _ _ _ _ _ _ _ _ _ _ _ _ _ _ _ _ _ _ _ _ _ _ _ _ _ _ _ _ _ _ _ _
      (Hid.mk fun u hu => w_kSameSpans no _ nc A.nums no' _ nc' B.nums u (hs.keep hu) (hs'.keep hu) rfl rfl a1 a1' a5 a5')
      (Hid.mk fun u hu => w_kSameStrings xo _ xc A.texts xo' _ xc' B.texts u (hk.keep hu) (hk'.keep hu) rfl rfl a2 a2' a6 a6')
      (Hid.mk fun u hu => w_kSameArrs h ih ao _ ac A.arrs ao' _ ac' B.arrs u ((ArIn.mk ha).keep hu) ((ArIn.mk ha').keep hu) rfl rfl a3 a3' a7 a7')
      (Hid.mk fun u hu => w_kSameObjs h ih oo _ oc A.objs oo' _ oc' B.objs u ((toO ho).keep hu) ((toO ho').keep hu) rfl rfl a4 a4' a8 a8')

end Go.Proofs.Ytdjoelhiahpmlaa
