import Derived.Test.YtihhjplbpaafiaaM45
import Derived.Test.YtihhjplbpaafiaaM44
import Derived.Test.YtihhjplbpaafiaaM28
import Derived.Test.YtihhjplbpaafiaaM27
import Derived.Test.YtihhjplbpaafiaaM34
import Derived.Test.YtihhjplbpaafiaaM35
import Derived.Lib.QuietBelow
import Derived.BigQuiet
namespace Go.Proofs.Ytihhjplbpaafiaa
end Go.Proofs.Ytihhjplbpaafiaa
namespace Go.Proofs.Ytihhjplbpaafiaa
open Go.RowKit Go.Shelf Go.Sort
set_option linter.unusedVariables false
set_option linter.unusedSimpArgs false
attribute [local go_sem] Oper.semAt_some

set_option maxRecDepth 100000 in
set_option maxHeartbeats 3200000 in
theorem rtexts_any (sa sb sc sd : Bool) (seo : Option Addr) (sen sec : Nat) (sf : Bool) (sgo : Option Addr) (sgn sgc : Nat) (sio : Option Addr) (sinn sic : Nat) (sjo : Option Addr) (sjn sjc : Nat) (ta tb tc td : Bool) (teo : Option Addr) (ten tec : Nat) (tf : Bool) (tgo : Option Addr) (tgn tgc : Nat) (tio : Option Addr) (tinn tic : Nat) (tjo : Option Addr) (tjn tjc : Nat) (w : World) (hh : tf = true ∨ sf = true) :
    Calls Try.prog 21 #[.agg #[.bool sa, .bool sb, .bool sc, .bool sd, .slice seo sen sec, .bool sf, .slice sgo sgn sgc, .slice sio sinn sic, .slice sjo sjn sjc], .agg #[.bool ta, .bool tb, .bool tc, .bool td, .slice teo ten tec, .bool tf, .slice tgo tgn tgc, .slice tio tinn tic, .slice tjo tjn tjc]] w fun e w' => e = .returned (.bool tf) ∧ Below w.heap.size w w' := by
  have HX := Hid.mk (bx2_new w #[.bool sa, .bool sb, .bool sc, .bool sd, .slice seo sen sec, .bool sf, .slice sgo sgn sgc, .slice sio sinn sic, .slice sjo sjn sjc] #[.bool ta, .bool tb, .bool tc, .bool td, .slice teo ten tec, .bool tf, .slice tgo tgn tgc, .slice tio tinn tic, .slice tjo tjn tjc] 27)
  obtain ⟨W0, hW0⟩ : ∃ W0, (w.alloc (.cells #[.bool sa, .bool sb, .bool sc, .bool sd, .slice seo sen sec, .bool sf, .slice sgo sgn sgc, .slice sio sinn sic, .slice sjo sjn sjc] 27)).alloc (.cells #[.bool ta, .bool tb, .bool tc, .bool td, .slice teo ten tec, .bool tf, .slice tgo tgn tgc, .slice tio tinn tic, .slice tjo tjn tjc] 27) = W0 := ⟨_, rfl⟩
  rw [hW0] at HX
  have p5 : W0.cell? ⟨w.heap.size, 5, none⟩ = _ := HX.out.one 5
  have q5 : W0.cell? ⟨w.heap.size + 1, 5, none⟩ = _ := HX.out.two 5
  cases tf with
  | true =>
    go_enter Try.func21, Try.ntmps21
    go_wp2_with fail
    go_ret
    exact ⟨rfl, HX.out.below⟩
  | false =>
    obtain rfl : sf = true := by simpa using hh
    go_enter Try.func21, Try.ntmps21
    go_wp2_with fail
    go_ret
    exact ⟨rfl, HX.out.below⟩

set_option maxRecDepth 100000 in
set_option maxHeartbeats 3200000 in
theorem rtexts_all (sa sb sc sd : Bool) (seo : Option Addr) (sen sec : Nat) (sf : Bool) (sgo : Option Addr) (sgn sgc : Nat) (sio : Option Addr) (sinn sic : Nat) (sjo : Option Addr) (sjn sjc : Nat) (ta tb tc td : Bool) (teo : Option Addr) (ten tec : Nat) (tf : Bool) (tgo : Option Addr) (tgn tgc : Nat) (tio : Option Addr) (tinn tic : Nat) (tjo : Option Addr) (tjn tjc : Nat) (xs ys : List ByteArray) (w : World) (hx : KIn w sgo xs) (hy : KIn w tgo ys) (lx : xs.length = sgn) (ly : ys.length = tgn) (cx : sgn ≤ sgc) (cy : tgn ≤ tgc) (bx : sgn ≤ 140737488355328) (by_ : tgn ≤ 140737488355328) :
    Calls Try.prog 21 #[.agg #[.bool sa, .bool sb, .bool sc, .bool sd, .slice seo sen sec, .bool false, .slice sgo sgn sgc, .slice sio sinn sic, .slice sjo sjn sjc], .agg #[.bool ta, .bool tb, .bool tc, .bool td, .slice teo ten tec, .bool false, .slice tgo tgn tgc, .slice tio tinn tic, .slice tjo tjn tjc]] w fun e w' => e = .returned (.bool (xs.all fun s => hasK ys s)) ∧ Below w.heap.size w w' := by
  have HX := Hid.mk (bx2_new w #[.bool sa, .bool sb, .bool sc, .bool sd, .slice seo sen sec, .bool false, .slice sgo sgn sgc, .slice sio sinn sic, .slice sjo sjn sjc] #[.bool ta, .bool tb, .bool tc, .bool td, .slice teo ten tec, .bool false, .slice tgo tgn tgc, .slice tio tinn tic, .slice tjo tjn tjc] 27)
  obtain ⟨W0, hW0⟩ : ∃ W0, (w.alloc (.cells #[.bool sa, .bool sb, .bool sc, .bool sd, .slice seo sen sec, .bool false, .slice sgo sgn sgc, .slice sio sinn sic, .slice sjo sjn sjc] 27)).alloc (.cells #[.bool ta, .bool tb, .bool tc, .bool td, .slice teo ten tec, .bool false, .slice tgo tgn tgc, .slice tio tinn tic, .slice tjo tjn tjc] 27) = W0 := ⟨_, rfl⟩
  rw [hW0] at HX
  have p5 : W0.cell? ⟨w.heap.size, 5, none⟩ = _ := HX.out.one 5
  have q5 : W0.cell? ⟨w.heap.size + 1, 5, none⟩ = _ := HX.out.two 5
  have HKX := Hid.mk (fun u (hu : Below w.heap.size w u) => hx.keep hu)
  have HLX := Hid.mk lx
  obtain ⟨R, hR⟩ : ∃ R, (xs.all fun s => hasK ys s) = R := ⟨_, rfl⟩
  have HR : Hid (R = xs.all fun s => hasK ys s) := hR.symm
  have HHA := Hid.mk (fun (s : ByteArray) (u : World) (hu : Below w.heap.size w u) => (w_rHas tgo tgn tgc ys s u (hy.keep hu) ly cy by_).mono fun e w' ⟨he, hw⟩ => (⟨he, hw ▸ Below.refl _ _⟩ : e = Ending.returned (.bool (hasK ys s)) ∧ Below u.heap.size u w'))
  rw [hR]
  clear hx hy lx ly hR
  go_enter Try.func21, Try.ntmps21
  go_wp2_with fail
  clear hW0 p5 q5
  go_loopw [5] (fun i wr => ∃ k : Nat, k ≤ sgn ∧ i = .int .i64 (k : Int) ∧ Hid (Bx2 w wr #[.bool sa, .bool sb, .bool sc, .bool sd, .slice seo sen sec, .bool false, .slice sgo sgn sgc, .slice sio sinn sic, .slice sjo sjn sjc] #[.bool ta, .bool tb, .bool tc, .bool td, .slice teo ten tec, .bool false, .slice tgo tgn tgc, .slice tio tinn tic, .slice tjo tjn tjc]) ∧ Hid ((xs.take k).all (fun s => hasK ys s) = true)) (fun i _ => sgn - (intOf i).toNat)
  case atStart => exact ⟨0, Nat.zero_le _, rfl, HX, rfl⟩
  case round =>
    clear HX
    obtain ⟨k, hk, rfl, HX, HQ⟩ := hrel
    have p6 : wr.cell? ⟨w.heap.size, 6, none⟩ = _ := HX.out.one 6
    have q6 : wr.cell? ⟨w.heap.size + 1, 6, none⟩ = _ := HX.out.two 6
    by_cases hlt : k < sgn
    · have hl1 : (k : Int) < (sgn : Int) := by omega
      have hl0 : (0 : Int) ≤ (k : Int) := by omega
      have hka : k < xs.length := by rw [HLX.out]; exact hlt
      obtain ⟨xb, xoff, hgo, hbl, hrow⟩ := (HKX.out wr HX.out.below).row (by omega)
      subst hgo
      have c0 := hrow k hka
      rw [show xs.getD k ByteArray.empty = xs[k] by simp [List.getD, hka]] at c0
      have HU := Hid.mk (zall_up (f := fun s => hasK ys s) hka)
      have HNo : Hid (hasK ys xs[k] = false → R = false) := fun hh => by rw [HR.out, zall_no (f := fun s => hasK ys s) hka hh]
      have HC := Hid.mk (fun (d : Nat) (os : Array Obj) => HHA.out xs[k] (grow (redrawn wr d) os) (HX.out.below.trans ((below_regrown wr d os).mono HX.out.below.size)))
      obtain ⟨r, hr⟩ : ∃ r, hasK ys xs[k] = r := ⟨_, rfl⟩
      rw [hr] at HC HNo
      have HRR := Hid.mk hr
      generalize xs[k] = x at *
      clear hrow hbl hka hr
      have P6 := fun d os => cell_regrown p6 d os
      have Q6 := fun d os => cell_regrown q6 d os
      have C0 := fun d os => cell_regrown c0 d os
      cases r with
      | true =>
        have HN : Hid ((xs.take (k + 1)).all (fun s => hasK ys s) = true) := by show _ = _; rw [HU.out, HQ.out, HRR.out]; rfl
        clear HU HNo HQ
        go_wp2_with fail
        refine wp_region_quiet_below (by kernel_rfl) (by kernel_rfl) ?_
        repeat (go_big_quiet_step (exact Calls.regrown_of (HC.out _ _)))
        refine wpQuiet_nil ?_
        intro w9 hw'
        have hb9 : Below wr.heap.size wr w9 := by
          obtain ⟨⟨dq, osq⟩, rfl⟩ := hw'
          exact below_regrown wr dq osq
        have HX9 := Hid.mk (HX.out.keep hb9)
        clear hw' hb9
        clear P6 Q6 C0
        go_wp2_with fail
        go_roundw
        case rel => exact ⟨k + 1, hlt, by go_num, HX9, HN⟩
        case measure => simp [intOf]; omega
      | false =>
        have HF : Hid (R = false) := HNo.out rfl
        clear HU HNo HQ
        go_wp2_with fail
        refine wp_region_quiet_below (by kernel_rfl) (by kernel_rfl) ?_
        repeat (go_big_quiet_step (exact Calls.regrown_of (HC.out _ _)))
        refine wpQuiet_nil ?_
        intro w9 hw'
        have hb9 : Below wr.heap.size wr w9 := by
          obtain ⟨⟨dq, osq⟩, rfl⟩ := hw'
          exact below_regrown wr dq osq
        have HX9 := Hid.mk (HX.out.keep hb9)
        clear hw' hb9
        clear P6 Q6 C0
        go_wp2_with fail
        go_ret
        exact ⟨by rw [HF.out]; rfl, HX9.out.below⟩
    · have hl1 : ¬ (k : Int) < (sgn : Int) := by omega
      have HF : Hid (R = true) := by
        show _ = _
        have := HQ.out
        rw [List.take_of_length_le (by rw [HLX.out]; omega)] at this
        rw [HR.out]; exact this
      go_wp2_with fail
      go_ret
      exact ⟨by rw [HF.out]; rfl, HX.out.below⟩
/-- the reference's texts -/
theorem w_rtexts (h g : Nat) (A B : TT) (va vb : Value) (w : World) (hA : InT w (h + 1) A va) (hB : InT w (g + 1) B vb) : Calls Try.prog 21 #[va, vb] w fun e w' => e = .returned (.bool (txL A B)) ∧ Below w.heap.size w w' := by
  obtain ⟨no, nc, xo, xc, ao, ac, oo, oc, rfl, ⟨a1, a2, a3, a4⟩, ⟨a5, a6, a7, a8⟩, _, _, _, hx, _, _⟩ := hA
  obtain ⟨no2, nc2, xo2, xc2, ao2, ac2, oo2, oc2, rfl, ⟨b1, b2, b3, b4⟩, ⟨b5, b6, b7, b8⟩, _, _, _, hy, _, _⟩ := hB
  unfold txL
  cases hb : B.any with
  | true =>
    rw [Bool.true_or]
    exact rtexts_any _ _ _ _ _ _ _ _ _ _ _ _ _ _ _ _ _ _ _ _ _ _ _ _ _ _ _ _ _ _ _ _ _ _ w (.inl rfl)
  | false =>
    rw [Bool.false_or]
    cases ha : A.any with
    | true => exact rtexts_any _ _ _ _ _ _ _ _ _ _ _ _ _ _ _ _ _ _ _ _ _ _ _ _ _ _ _ _ _ _ _ _ _ _ w (.inr rfl)
    | false => exact rtexts_all _ _ _ _ _ _ _ false _ _ _ _ _ _ _ _ _ _ _ _ _ _ _ _ false _ _ _ _ _ _ _ _ _ A.texts B.texts w hx hy rfl rfl a2 b2 a6 b6
end Go.Proofs.Ytihhjplbpaafiaa
namespace Go.Proofs.Ytihhjplbpaafiaa
open Go.RowKit Go.Shelf Go.Sort
set_option linter.unusedVariables false
set_option linter.unusedSimpArgs false
attribute [local go_sem] Oper.semAt_some

set_option maxRecDepth 100000 in
set_option maxHeartbeats 3200000 in
theorem rarr_none (sa sb sc sd : Bool) (seo : Option Addr) (sen sec : Nat) (sf : Bool) (sgo : Option Addr) (sgn sgc : Nat) (sio : Option Addr) (sinn sic : Nat) (sjo : Option Addr) (sjn sjc : Nat) (ta tb tc td : Bool) (teo : Option Addr) (ten tec : Nat) (tf : Bool) (tgo : Option Addr) (tgn tgc : Nat) (tio : Option Addr) (tinn tic : Nat) (tjo : Option Addr) (tjn tjc : Nat) (w : World) (hh : sinn = 0 ∨ (0 < sinn ∧ tinn = 0)) (c1 : sinn ≤ 140737488355328) (c2 : tinn ≤ 140737488355328) :
    Calls Try.prog 22 #[.agg #[.bool sa, .bool sb, .bool sc, .bool sd, .slice seo sen sec, .bool sf, .slice sgo sgn sgc, .slice sio sinn sic, .slice sjo sjn sjc], .agg #[.bool ta, .bool tb, .bool tc, .bool td, .slice teo ten tec, .bool tf, .slice tgo tgn tgc, .slice tio tinn tic, .slice tjo tjn tjc]] w fun e w' => e = .returned (.bool (decide (sinn = 0))) ∧ Below w.heap.size w w' := by
  have HX := Hid.mk (bx2_new w #[.bool sa, .bool sb, .bool sc, .bool sd, .slice seo sen sec, .bool sf, .slice sgo sgn sgc, .slice sio sinn sic, .slice sjo sjn sjc] #[.bool ta, .bool tb, .bool tc, .bool td, .slice teo ten tec, .bool tf, .slice tgo tgn tgc, .slice tio tinn tic, .slice tjo tjn tjc] 27)
  obtain ⟨W0, hW0⟩ : ∃ W0, (w.alloc (.cells #[.bool sa, .bool sb, .bool sc, .bool sd, .slice seo sen sec, .bool sf, .slice sgo sgn sgc, .slice sio sinn sic, .slice sjo sjn sjc] 27)).alloc (.cells #[.bool ta, .bool tb, .bool tc, .bool td, .slice teo ten tec, .bool tf, .slice tgo tgn tgc, .slice tio tinn tic, .slice tjo tjn tjc] 27) = W0 := ⟨_, rfl⟩
  rw [hW0] at HX
  have p7 : W0.cell? ⟨w.heap.size, 7, none⟩ = _ := HX.out.one 7
  have q7 : W0.cell? ⟨w.heap.size + 1, 7, none⟩ = _ := HX.out.two 7
  rcases hh with rfl | ⟨hp, rfl⟩
  · go_enter Try.func22, Try.ntmps22
    go_wp2_with fail
    go_ret
    exact ⟨rfl, HX.out.below⟩
  · have e0 : ((sinn : Int) == 0) = false := by simp; omega
    have e1 : decide (sinn = 0) = false := decide_eq_false (by omega)
    rw [e1]
    have e2 : ¬ (sinn : Int) = 0 := by omega
    have e3 : ¬ sinn = 0 := by omega
    go_enter Try.func22, Try.ntmps22
    go_wp2_with fail
    go_ret
    exact ⟨rfl, HX.out.below⟩

/-- one row of arrays in another -/
def arA (xmin xmax ymin ymax : Int) (r : Bool) : Bool := !(decide (xmin < ymin) || (decide (0 ≤ ymax) && (decide (xmax < 0) || decide (ymax < xmax)))) && (decide (xmax = 0) || r)
set_option maxRecDepth 100000 in
set_option maxHeartbeats 6400000 in
theorem rarr_both (sa sb sc sd : Bool) (seo : Option Addr) (sen sec : Nat) (sf : Bool) (sgo : Option Addr) (sgn sgc : Nat) (sio : Option Addr) (sinn sic : Nat) (sjo : Option Addr) (sjn sjc : Nat) (ta tb tc td : Bool) (teo : Option Addr) (ten tec : Nat) (tf : Bool) (tgo : Option Addr) (tgn tgc : Nat) (tio : Option Addr) (tinn tic : Nat) (tjo : Option Addr) (tjn tjc : Nat) (ma mb mc md : Bool) (meo : Option Addr) (men mec : Nat) (mf : Bool) (mgo : Option Addr) (mgn mgc : Nat) (mio : Option Addr) (minn mic : Nat) (mjo : Option Addr) (mjn mjc : Nat) (na nb nc nd : Bool) (neo : Option Addr) (nen nec : Nat) (nf : Bool) (ngo : Option Addr) (ngn ngc : Nat) (nio : Option Addr) (ninn nic : Nat) (njo : Option Addr) (njn njc : Nat) (xb xoff yb yoff : Nat) (xmin xmax ymin ymax : Int) (r : Bool) (w : World) (c1 : sinn ≤ 140737488355328) (c2 : tinn ≤ 140737488355328) (c3 : 0 < sinn) (c4 : 0 < tinn) (c5 : sinn ≤ sic) (c6 : tinn ≤ tic)
    (x0 : w.cell? ⟨xb, xoff, none⟩ = some (.bool ma))
    (x1 : w.cell? ⟨xb, xoff + 1, none⟩ = some (.bool mb))
    (x2 : w.cell? ⟨xb, xoff + 2, none⟩ = some (.bool mc))
    (x3 : w.cell? ⟨xb, xoff + 3, none⟩ = some (.bool md))
    (x4 : w.cell? ⟨xb, xoff + 4, none⟩ = some (.slice meo men mec))
    (x5 : w.cell? ⟨xb, xoff + 5, none⟩ = some (.bool mf))
    (x6 : w.cell? ⟨xb, xoff + 6, none⟩ = some (.slice mgo mgn mgc))
    (x7 : w.cell? ⟨xb, xoff + 7, none⟩ = some (.slice mio minn mic))
    (x8 : w.cell? ⟨xb, xoff + 8, none⟩ = some (.slice mjo mjn mjc))
    (x9 : w.cell? ⟨xb, xoff + 9, none⟩ = some (.int .i64 xmin))
    (x10 : w.cell? ⟨xb, xoff + 10, none⟩ = some (.int .i64 xmax))
    (y0 : w.cell? ⟨yb, yoff, none⟩ = some (.bool na))
    (y1 : w.cell? ⟨yb, yoff + 1, none⟩ = some (.bool nb))
    (y2 : w.cell? ⟨yb, yoff + 2, none⟩ = some (.bool nc))
    (y3 : w.cell? ⟨yb, yoff + 3, none⟩ = some (.bool nd))
    (y4 : w.cell? ⟨yb, yoff + 4, none⟩ = some (.slice neo nen nec))
    (y5 : w.cell? ⟨yb, yoff + 5, none⟩ = some (.bool nf))
    (y6 : w.cell? ⟨yb, yoff + 6, none⟩ = some (.slice ngo ngn ngc))
    (y7 : w.cell? ⟨yb, yoff + 7, none⟩ = some (.slice nio ninn nic))
    (y8 : w.cell? ⟨yb, yoff + 8, none⟩ = some (.slice njo njn njc))
    (y9 : w.cell? ⟨yb, yoff + 9, none⟩ = some (.int .i64 ymin))
    (y10 : w.cell? ⟨yb, yoff + 10, none⟩ = some (.int .i64 ymax))
    (HC : Hid (∀ u, Below w.heap.size w u → Calls Try.prog 9 #[.agg #[.bool ma, .bool mb, .bool mc, .bool md, .slice meo men mec, .bool mf, .slice mgo mgn mgc, .slice mio minn mic, .slice mjo mjn mjc], .agg #[.bool na, .bool nb, .bool nc, .bool nd, .slice neo nen nec, .bool nf, .slice ngo ngn ngc, .slice nio ninn nic, .slice njo njn njc]] u fun e w' => e = .returned (.bool r) ∧ Below u.heap.size u w')) :
    Calls Try.prog 22 #[.agg #[.bool sa, .bool sb, .bool sc, .bool sd, .slice seo sen sec, .bool sf, .slice sgo sgn sgc, .slice (some ⟨xb, xoff, none⟩) sinn sic, .slice sjo sjn sjc], .agg #[.bool ta, .bool tb, .bool tc, .bool td, .slice teo ten tec, .bool tf, .slice tgo tgn tgc, .slice (some ⟨yb, yoff, none⟩) tinn tic, .slice tjo tjn tjc]] w fun e w' => e = .returned (.bool (arA xmin xmax ymin ymax r)) ∧ Below w.heap.size w w' := by
  have HX := Hid.mk (bx2_new w #[.bool sa, .bool sb, .bool sc, .bool sd, .slice seo sen sec, .bool sf, .slice sgo sgn sgc, .slice (some ⟨xb, xoff, none⟩) sinn sic, .slice sjo sjn sjc] #[.bool ta, .bool tb, .bool tc, .bool td, .slice teo ten tec, .bool tf, .slice tgo tgn tgc, .slice (some ⟨yb, yoff, none⟩) tinn tic, .slice tjo tjn tjc] 27)
  obtain ⟨W0, hW0⟩ : ∃ W0, (w.alloc (.cells #[.bool sa, .bool sb, .bool sc, .bool sd, .slice seo sen sec, .bool sf, .slice sgo sgn sgc, .slice (some ⟨xb, xoff, none⟩) sinn sic, .slice sjo sjn sjc] 27)).alloc (.cells #[.bool ta, .bool tb, .bool tc, .bool td, .slice teo ten tec, .bool tf, .slice tgo tgn tgc, .slice (some ⟨yb, yoff, none⟩) tinn tic, .slice tjo tjn tjc] 27) = W0 := ⟨_, rfl⟩
  rw [hW0] at HX
  have X0 : W0.cell? ⟨xb, xoff, none⟩ = some (.bool ma) := (HX.out.below.cell (p := ⟨_, _, _⟩) (World.block_lt_of_cell? _ _ x0)).trans x0
  have X1 : W0.cell? ⟨xb, xoff + 1, none⟩ = some (.bool mb) := (HX.out.below.cell (p := ⟨_, _, _⟩) (World.block_lt_of_cell? _ _ x1)).trans x1
  have X2 : W0.cell? ⟨xb, xoff + 2, none⟩ = some (.bool mc) := (HX.out.below.cell (p := ⟨_, _, _⟩) (World.block_lt_of_cell? _ _ x2)).trans x2
  have X3 : W0.cell? ⟨xb, xoff + 3, none⟩ = some (.bool md) := (HX.out.below.cell (p := ⟨_, _, _⟩) (World.block_lt_of_cell? _ _ x3)).trans x3
  have X4 : W0.cell? ⟨xb, xoff + 4, none⟩ = some (.slice meo men mec) := (HX.out.below.cell (p := ⟨_, _, _⟩) (World.block_lt_of_cell? _ _ x4)).trans x4
  have X5 : W0.cell? ⟨xb, xoff + 5, none⟩ = some (.bool mf) := (HX.out.below.cell (p := ⟨_, _, _⟩) (World.block_lt_of_cell? _ _ x5)).trans x5
  have X6 : W0.cell? ⟨xb, xoff + 6, none⟩ = some (.slice mgo mgn mgc) := (HX.out.below.cell (p := ⟨_, _, _⟩) (World.block_lt_of_cell? _ _ x6)).trans x6
  have X7 : W0.cell? ⟨xb, xoff + 7, none⟩ = some (.slice mio minn mic) := (HX.out.below.cell (p := ⟨_, _, _⟩) (World.block_lt_of_cell? _ _ x7)).trans x7
  have X8 : W0.cell? ⟨xb, xoff + 8, none⟩ = some (.slice mjo mjn mjc) := (HX.out.below.cell (p := ⟨_, _, _⟩) (World.block_lt_of_cell? _ _ x8)).trans x8
  have X9 : W0.cell? ⟨xb, xoff + 9, none⟩ = some (.int .i64 xmin) := (HX.out.below.cell (p := ⟨_, _, _⟩) (World.block_lt_of_cell? _ _ x9)).trans x9
  have X10 : W0.cell? ⟨xb, xoff + 10, none⟩ = some (.int .i64 xmax) := (HX.out.below.cell (p := ⟨_, _, _⟩) (World.block_lt_of_cell? _ _ x10)).trans x10
  have Y0 : W0.cell? ⟨yb, yoff, none⟩ = some (.bool na) := (HX.out.below.cell (p := ⟨_, _, _⟩) (World.block_lt_of_cell? _ _ y0)).trans y0
  have Y1 : W0.cell? ⟨yb, yoff + 1, none⟩ = some (.bool nb) := (HX.out.below.cell (p := ⟨_, _, _⟩) (World.block_lt_of_cell? _ _ y1)).trans y1
  have Y2 : W0.cell? ⟨yb, yoff + 2, none⟩ = some (.bool nc) := (HX.out.below.cell (p := ⟨_, _, _⟩) (World.block_lt_of_cell? _ _ y2)).trans y2
  have Y3 : W0.cell? ⟨yb, yoff + 3, none⟩ = some (.bool nd) := (HX.out.below.cell (p := ⟨_, _, _⟩) (World.block_lt_of_cell? _ _ y3)).trans y3
  have Y4 : W0.cell? ⟨yb, yoff + 4, none⟩ = some (.slice neo nen nec) := (HX.out.below.cell (p := ⟨_, _, _⟩) (World.block_lt_of_cell? _ _ y4)).trans y4
  have Y5 : W0.cell? ⟨yb, yoff + 5, none⟩ = some (.bool nf) := (HX.out.below.cell (p := ⟨_, _, _⟩) (World.block_lt_of_cell? _ _ y5)).trans y5
  have Y6 : W0.cell? ⟨yb, yoff + 6, none⟩ = some (.slice ngo ngn ngc) := (HX.out.below.cell (p := ⟨_, _, _⟩) (World.block_lt_of_cell? _ _ y6)).trans y6
  have Y7 : W0.cell? ⟨yb, yoff + 7, none⟩ = some (.slice nio ninn nic) := (HX.out.below.cell (p := ⟨_, _, _⟩) (World.block_lt_of_cell? _ _ y7)).trans y7
  have Y8 : W0.cell? ⟨yb, yoff + 8, none⟩ = some (.slice njo njn njc) := (HX.out.below.cell (p := ⟨_, _, _⟩) (World.block_lt_of_cell? _ _ y8)).trans y8
  have Y9 : W0.cell? ⟨yb, yoff + 9, none⟩ = some (.int .i64 ymin) := (HX.out.below.cell (p := ⟨_, _, _⟩) (World.block_lt_of_cell? _ _ y9)).trans y9
  have Y10 : W0.cell? ⟨yb, yoff + 10, none⟩ = some (.int .i64 ymax) := (HX.out.below.cell (p := ⟨_, _, _⟩) (World.block_lt_of_cell? _ _ y10)).trans y10
  have p7 : W0.cell? ⟨w.heap.size, 7, none⟩ = _ := HX.out.one 7
  have q7 : W0.cell? ⟨w.heap.size + 1, 7, none⟩ = _ := HX.out.two 7
  have HB0 := Hid.mk HX.out.below
  have HE2 := Hid.mk (bx2_new W0 #[.bool ma, .bool mb, .bool mc, .bool md, .slice meo men mec, .bool mf, .slice mgo mgn mgc, .slice mio minn mic, .slice mjo mjn mjc, .int .i64 xmin, .int .i64 xmax] #[.bool na, .bool nb, .bool nc, .bool nd, .slice neo nen nec, .bool nf, .slice ngo ngn ngc, .slice nio ninn nic, .slice njo njn njc, .int .i64 ymin, .int .i64 ymax] 51)
  obtain ⟨W2, hW2⟩ : ∃ W2, (W0.alloc (.cells #[.bool ma, .bool mb, .bool mc, .bool md, .slice meo men mec, .bool mf, .slice mgo mgn mgc, .slice mio minn mic, .slice mjo mjn mjc, .int .i64 xmin, .int .i64 xmax] 51)).alloc (.cells #[.bool na, .bool nb, .bool nc, .bool nd, .slice neo nen nec, .bool nf, .slice ngo ngn ngc, .slice nio ninn nic, .slice njo njn njc, .int .i64 ymin, .int .i64 ymax] 51) = W2 := ⟨_, rfl⟩
  rw [hW2] at HE2
  obtain ⟨W1, hW1⟩ : ∃ W1, W0.alloc (.cells #[.bool ma, .bool mb, .bool mc, .bool md, .slice meo men mec, .bool mf, .slice mgo mgn mgc, .slice mio minn mic, .slice mjo mjn mjc, .int .i64 xmin, .int .i64 xmax] 51) = W1 := ⟨_, rfl⟩
  have hb1 : Below W0.heap.size W0 W1 := by rw [← hW1]; exact below1 W0 _
  rw [hW1] at hW2
  have HWq := Hid.mk hW2
  have HW1 := Hid.mk hW1
  obtain ⟨SB, hSB⟩ : ∃ SB, W0.heap.size = SB := ⟨_, rfl⟩
  have HSq := Hid.mk hSB
  have HS1 : Hid (W1.heap.size = SB + 1) := by show _ = _; rw [← hW1, ← hSB]; simp
  have z7 : W1.cell? ⟨w.heap.size + 1, 7, none⟩ = _ := (hb1.cell (p := ⟨_, _, _⟩) HX.out.lt).trans q7
  have Z0 : W1.cell? ⟨yb, yoff, none⟩ = some (.bool na) := (hb1.cell (p := ⟨_, _, _⟩) (World.block_lt_of_cell? _ _ Y0)).trans Y0
  have Z1 : W1.cell? ⟨yb, yoff + 1, none⟩ = some (.bool nb) := (hb1.cell (p := ⟨_, _, _⟩) (World.block_lt_of_cell? _ _ Y1)).trans Y1
  have Z2 : W1.cell? ⟨yb, yoff + 2, none⟩ = some (.bool nc) := (hb1.cell (p := ⟨_, _, _⟩) (World.block_lt_of_cell? _ _ Y2)).trans Y2
  have Z3 : W1.cell? ⟨yb, yoff + 3, none⟩ = some (.bool nd) := (hb1.cell (p := ⟨_, _, _⟩) (World.block_lt_of_cell? _ _ Y3)).trans Y3
  have Z4 : W1.cell? ⟨yb, yoff + 4, none⟩ = some (.slice neo nen nec) := (hb1.cell (p := ⟨_, _, _⟩) (World.block_lt_of_cell? _ _ Y4)).trans Y4
  have Z5 : W1.cell? ⟨yb, yoff + 5, none⟩ = some (.bool nf) := (hb1.cell (p := ⟨_, _, _⟩) (World.block_lt_of_cell? _ _ Y5)).trans Y5
  have Z6 : W1.cell? ⟨yb, yoff + 6, none⟩ = some (.slice ngo ngn ngc) := (hb1.cell (p := ⟨_, _, _⟩) (World.block_lt_of_cell? _ _ Y6)).trans Y6
  have Z7 : W1.cell? ⟨yb, yoff + 7, none⟩ = some (.slice nio ninn nic) := (hb1.cell (p := ⟨_, _, _⟩) (World.block_lt_of_cell? _ _ Y7)).trans Y7
  have Z8 : W1.cell? ⟨yb, yoff + 8, none⟩ = some (.slice njo njn njc) := (hb1.cell (p := ⟨_, _, _⟩) (World.block_lt_of_cell? _ _ Y8)).trans Y8
  have Z9 : W1.cell? ⟨yb, yoff + 9, none⟩ = some (.int .i64 ymin) := (hb1.cell (p := ⟨_, _, _⟩) (World.block_lt_of_cell? _ _ Y9)).trans Y9
  have Z10 : W1.cell? ⟨yb, yoff + 10, none⟩ = some (.int .i64 ymax) := (hb1.cell (p := ⟨_, _, _⟩) (World.block_lt_of_cell? _ _ Y10)).trans Y10
  have u0 : W2.cell? ⟨W0.heap.size, 0, none⟩ = _ := HE2.out.one 0
  have v0 : W2.cell? ⟨W0.heap.size + 1, 0, none⟩ = _ := HE2.out.two 0
  have u1 : W2.cell? ⟨W0.heap.size, 1, none⟩ = _ := HE2.out.one 1
  have v1 : W2.cell? ⟨W0.heap.size + 1, 1, none⟩ = _ := HE2.out.two 1
  have u2 : W2.cell? ⟨W0.heap.size, 2, none⟩ = _ := HE2.out.one 2
  have v2 : W2.cell? ⟨W0.heap.size + 1, 2, none⟩ = _ := HE2.out.two 2
  have u3 : W2.cell? ⟨W0.heap.size, 3, none⟩ = _ := HE2.out.one 3
  have v3 : W2.cell? ⟨W0.heap.size + 1, 3, none⟩ = _ := HE2.out.two 3
  have u4 : W2.cell? ⟨W0.heap.size, 4, none⟩ = _ := HE2.out.one 4
  have v4 : W2.cell? ⟨W0.heap.size + 1, 4, none⟩ = _ := HE2.out.two 4
  have u5 : W2.cell? ⟨W0.heap.size, 5, none⟩ = _ := HE2.out.one 5
  have v5 : W2.cell? ⟨W0.heap.size + 1, 5, none⟩ = _ := HE2.out.two 5
  have u6 : W2.cell? ⟨W0.heap.size, 6, none⟩ = _ := HE2.out.one 6
  have v6 : W2.cell? ⟨W0.heap.size + 1, 6, none⟩ = _ := HE2.out.two 6
  have u7 : W2.cell? ⟨W0.heap.size, 7, none⟩ = _ := HE2.out.one 7
  have v7 : W2.cell? ⟨W0.heap.size + 1, 7, none⟩ = _ := HE2.out.two 7
  have u8 : W2.cell? ⟨W0.heap.size, 8, none⟩ = _ := HE2.out.one 8
  have v8 : W2.cell? ⟨W0.heap.size + 1, 8, none⟩ = _ := HE2.out.two 8
  have u9 : W2.cell? ⟨W0.heap.size, 9, none⟩ = _ := HE2.out.one 9
  have v9 : W2.cell? ⟨W0.heap.size + 1, 9, none⟩ = _ := HE2.out.two 9
  have u10 : W2.cell? ⟨W0.heap.size, 10, none⟩ = _ := HE2.out.one 10
  have v10 : W2.cell? ⟨W0.heap.size + 1, 10, none⟩ = _ := HE2.out.two 10
  have HBW : Hid (Below w.heap.size w W2) := HX.out.below.trans (HE2.out.below.mono HX.out.below.size)
  rw [hSB] at u0 v0 u1 v1 u2 v2 u3 v3 u4 v4 u5 v5 u6 v6 u7 v7 u8 v8 u9 v9 u10 v10
  clear hW2 hSB hW1 hb1
  have HC2 := Hid.mk (HC.out W2 HBW.out)
  have n1 : ¬ (sinn : Int) = 0 := by omega
  have n2 : ¬ (tinn : Int) = 0 := by omega
  have n3 : (0 : Int) < (sinn : Int) := by omega
  have n4 : (0 : Int) < (tinn : Int) := by omega
  have n5 : ¬ sinn = 0 := by omega
  have n6 : ¬ tinn = 0 := by omega
  have n7 : ((sinn : Int) == 0) = false := by simp; omega
  have n8 : ((tinn : Int) == 0) = false := by simp; omega
  by_cases h1 : xmin < ymin
  · have h1' : ¬ ymin ≤ xmin := by omega
    have e5 : arA xmin xmax ymin ymax r = false := by unfold arA; simp [*]
    rw [e5]
    go_enter Try.func22, Try.ntmps22
    go_upto_region 6 with fail
    try rw [HW1.out]
    try rw [HSq.out]
    clear HW1 HSq hW0
    go_upto_region 7 with fail
    try rw [HWq.out]
    try rw [HS1.out]
    clear HWq HS1
    go_wp2_with fail
    go_ret
    exact ⟨by first | rfl | simp, HBW.out⟩
  · by_cases h2 : 0 ≤ ymax
    · by_cases h3 : xmax < 0
      · have e5 : arA xmin xmax ymin ymax r = false := by unfold arA; simp [*]
        rw [e5]
        go_enter Try.func22, Try.ntmps22
        go_upto_region 6 with fail
        try rw [HW1.out]
        try rw [HSq.out]
        clear HW1 HSq hW0
        go_upto_region 7 with fail
        try rw [HWq.out]
        try rw [HS1.out]
        clear HWq HS1
        go_wp2_with fail
        go_ret
        exact ⟨by first | rfl | simp, HBW.out⟩
      · by_cases h4 : ymax < xmax
        · have e5 : arA xmin xmax ymin ymax r = false := by unfold arA; simp [*]
          rw [e5]
          go_enter Try.func22, Try.ntmps22
          go_upto_region 6 with fail
          try rw [HW1.out]
          try rw [HSq.out]
          clear HW1 HSq hW0
          go_upto_region 7 with fail
          try rw [HWq.out]
          try rw [HS1.out]
          clear HWq HS1
          go_wp2_with fail
          go_ret
          exact ⟨by first | rfl | simp, HBW.out⟩
        · by_cases h5 : xmax = 0
          · have e5 : arA xmin xmax ymin ymax r = true := by unfold arA; simp [*]
            subst h5
            rw [e5]
            go_enter Try.func22, Try.ntmps22
            go_upto_region 6 with fail
            try rw [HW1.out]
            try rw [HSq.out]
            clear HW1 HSq hW0
            go_upto_region 7 with fail
            try rw [HWq.out]
            try rw [HS1.out]
            clear HWq HS1
            go_wp2_with fail
            go_ret
            exact ⟨by first | rfl | simp, HBW.out⟩
          · have e5 : arA xmin xmax ymin ymax r = r := by unfold arA; simp [*]
            have k5 : (xmax == 0) = false := by simp [h5]
            rw [e5]
            go_enter Try.func22, Try.ntmps22
            go_upto_region 6 with fail
            try rw [HW1.out]
            try rw [HSq.out]
            clear HW1 HSq hW0
            go_upto_region 7 with fail
            try rw [HWq.out]
            try rw [HS1.out]
            clear HWq HS1
            go_wp2_with fail
            refine HC2.out.mono ?_
            rintro e w3 ⟨rfl, hq⟩
            have HB3 := Hid.mk (HBW.out.trans (hq.mono HBW.out.size))
            clear hq
            go_wp2_with fail
            go_ret
            exact ⟨rfl, HB3.out⟩
    · have h2' : ymax < 0 := by omega
      by_cases h5 : xmax = 0
      · have e5 : arA xmin xmax ymin ymax r = true := by unfold arA; simp [*]
        subst h5
        rw [e5]
        go_enter Try.func22, Try.ntmps22
        go_upto_region 6 with fail
        try rw [HW1.out]
        try rw [HSq.out]
        clear HW1 HSq hW0
        go_upto_region 7 with fail
        try rw [HWq.out]
        try rw [HS1.out]
        clear HWq HS1
        go_wp2_with fail
        go_ret
        exact ⟨by first | rfl | simp, HBW.out⟩
      · have e5 : arA xmin xmax ymin ymax r = r := by unfold arA; simp [*]
        have k5 : (xmax == 0) = false := by simp [h5]
        rw [e5]
        go_enter Try.func22, Try.ntmps22
        go_upto_region 6 with fail
        try rw [HW1.out]
        try rw [HSq.out]
        clear HW1 HSq hW0
        go_upto_region 7 with fail
        try rw [HWq.out]
        try rw [HS1.out]
        clear HWq HS1
        go_wp2_with fail
        refine HC2.out.mono ?_
        rintro e w3 ⟨rfl, hq⟩
        have HB3 := Hid.mk (HBW.out.trans (hq.mono HBW.out.size))
        clear hq
        go_wp2_with fail
        go_ret
        exact ⟨rfl, HB3.out⟩
end Go.Proofs.Ytihhjplbpaafiaa
namespace Go.Proofs.Ytihhjplbpaafiaa
open Go.RowKit Go.Shelf Go.Sort
set_option linter.unusedVariables false
set_option linter.unusedSimpArgs false
attribute [local go_sem] Oper.semAt_some

/-- three boxes -/
structure B3y (w u : World) (xs ys zs : Array Value) (t1 t2 t3 : TypeId) : Prop where
  below : Below w.heap.size w u
  r0 : u.heap[w.heap.size]? = some (.cells xs t1 (0, 0))
  r1 : u.heap[w.heap.size + 1]? = some (.cells ys t2 (0, 0))
  r2 : u.heap[w.heap.size + 1 + 1]? = some (.cells zs t3 (0, 0))
theorem B3y.keep {w u u' : World} {xs ys zs : Array Value} {t1 t2 t3 : TypeId} (x : B3y w u xs ys zs t1 t2 t3) (hb : Below u.heap.size u u') : B3y w u' xs ys zs t1 t2 t3 :=
  ⟨x.below.trans (hb.mono x.below.size), (hb.block _ (lt_of_row' x.r0)).trans x.r0, (hb.block _ (lt_of_row' x.r1)).trans x.r1, (hb.block _ (lt_of_row' x.r2)).trans x.r2⟩
theorem b3y_new (w : World) (xs ys zs : Array Value) (t1 t2 t3 : TypeId) : B3y w (((w.alloc (.cells xs t1)).alloc (.cells ys t2)).alloc (.cells zs t3)) xs ys zs t1 t2 t3 := by
  refine ⟨(((Below.refl _ w).alloc (Nat.le_refl _) _).alloc (by simp) _).alloc (by simp; omega) _, ?_, ?_, ?_⟩
  · rw [Below.heap_alloc _ _ _ (by simp; omega), Below.heap_alloc _ _ _ (by simp)]; exact World.alloc_heap_new w _
  · rw [Below.heap_alloc _ _ _ (by simp)]
    have h := World.alloc_heap_new (w.alloc (.cells xs t1)) (.cells ys t2)
    rw [World.size_alloc] at h
    exact h
  · have h := World.alloc_heap_new ((w.alloc (.cells xs t1)).alloc (.cells ys t2)) (.cells zs t3)
    rw [World.size_alloc, World.size_alloc] at h
    exact h
theorem laid_inT (W : World) (m b1 b2 b3 : Nat) (l1 : b1 < W.heap.size) (l2 : b2 < W.heap.size) (l3 : b3 < W.heap.size) (r1 : W.heap[b1]? = some (.cells #[.string ⟨#[]⟩, .string ⟨#[]⟩] 44 (0, 0))) (r2 : W.heap[b2]? = some (.cells #[.bool true, .bool false, .bool false, .bool false, .slice none 0 0, .bool false, .slice none 0 0, .slice none 0 0, .slice none 0 0, .int .i64 0, .int .i64 (-1)] 51 (0, 0))) (r3 : W.heap[b3]? = some (.cells #[.slice none 0 0, .slice none 0 0, .slice none 0 0, .bool true, .bool false, .bool false, .bool false, .slice none 0 0, .bool false, .slice none 0 0, .slice none 0 0, .slice none 0 0] 56 (0, 0))) : InT W (m + 2) laidT (.agg #[.bool false, .bool true, .bool true, .bool true, .slice (some ⟨b1, 0, none⟩) 1 1, .bool true, .slice none 0 0, .slice (some ⟨b2, 0, none⟩) 1 1, .slice (some ⟨b3, 0, none⟩) 1 1]) := by
  refine ⟨some ⟨b1, 0, none⟩, 1, none, 0, some ⟨b2, 0, none⟩, 1, some ⟨b3, 0, none⟩, 1, rfl, ⟨Nat.le_refl _, Nat.le_refl _, Nat.le_refl _, Nat.le_refl _⟩, ⟨by show 1 ≤ _; decide, Nat.zero_le _, by show 1 ≤ _; decide, by show 1 ≤ _; decide⟩, fun p hp => ?_, fun p hp => absurd hp (List.not_mem_nil), ⟨fun _ => ⟨b1, 0, rfl, l1, fun i hi => ?_⟩⟩, ⟨fun h => absurd h (Nat.lt_irrefl 0)⟩, fun _ => ⟨b2, 0, rfl, l2, fun i hi => ?_⟩, fun _ => ⟨b3, 0, rfl, l3, fun i hi => ?_⟩⟩
  · obtain rfl : p = (.empty, .empty) := List.mem_singleton.1 hp
    exact ⟨by decide, by decide⟩
  · obtain rfl : i = 0 := by have : i < 1 := hi; omega
    exact ⟨cell_of_row _ _ 0 _ _ _ r1, cell_of_row _ _ 1 _ _ _ r1⟩
  · obtain rfl : i = 0 := by have : i < 1 := hi; omega
    exact ⟨_, _, _, _, _, _, _, _, _, ⟨cell_of_row _ _ 0 _ _ _ r2, cell_of_row _ _ 1 _ _ _ r2, cell_of_row _ _ 2 _ _ _ r2, cell_of_row _ _ 3 _ _ _ r2, cell_of_row _ _ 4 _ _ _ r2, cell_of_row _ _ 5 _ _ _ r2, cell_of_row _ _ 6 _ _ _ r2, cell_of_row _ _ 7 _ _ _ r2, cell_of_row _ _ 8 _ _ _ r2⟩, cell_of_row _ _ 9 _ _ _ r2, cell_of_row _ _ 10 _ _ _ r2, inT_evr W m⟩
  · obtain rfl : i = 0 := by have : i < 1 := hi; omega
    exact ⟨none, 0, none, 0, none, 0, _, _, _, _, _, _, _, _, _, ⟨cell_of_row _ _ 0 _ _ _ r3, cell_of_row _ _ 1 _ _ _ r3, cell_of_row _ _ 2 _ _ _ r3⟩, ⟨cell_of_row _ _ 3 _ _ _ r3, cell_of_row _ _ 4 _ _ _ r3, cell_of_row _ _ 5 _ _ _ r3, cell_of_row _ _ 6 _ _ _ r3, cell_of_row _ _ 7 _ _ _ r3, cell_of_row _ _ 8 _ _ _ r3, cell_of_row _ _ 9 _ _ _ r3, cell_of_row _ _ 10 _ _ _ r3, cell_of_row _ _ 11 _ _ _ r3⟩, ⟨Nat.le_refl _, Nat.le_refl _, Nat.le_refl _⟩, ⟨Nat.zero_le _, Nat.zero_le _, Nat.zero_le _, fun k hk => absurd hk (List.not_mem_nil)⟩, ⟨fun h => absurd h (Nat.lt_irrefl 0)⟩, ⟨fun h => absurd h (Nat.lt_irrefl 0)⟩, fun h => absurd h (Nat.lt_irrefl 0), inT_evr W m⟩

set_option maxRecDepth 100000 in
set_option maxHeartbeats 3200000 in
theorem laid_plain (sb sc sd : Bool) (seo : Option Addr) (sen sec : Nat) (sf : Bool) (sgo : Option Addr) (sgn sgc : Nat) (sio : Option Addr) (sinn sic : Nat) (sjo : Option Addr) (sjn sjc : Nat) (w : World) : Calls Try.prog 19 #[.agg #[.bool false, .bool sb, .bool sc, .bool sd, .slice seo sen sec, .bool sf, .slice sgo sgn sgc, .slice sio sinn sic, .slice sjo sjn sjc]] w fun e w' => e = .returned (.agg #[.bool false, .bool sb, .bool sc, .bool sd, .slice seo sen sec, .bool sf, .slice sgo sgn sgc, .slice sio sinn sic, .slice sjo sjn sjc]) ∧ Below w.heap.size w w' := by
  go_enter Try.func19, Try.ntmps19
  go_wp2_with fail
  (try simp only [Exit.inBlock, Exit.then])
  refine bodyPost_ret (v := .agg #[.bool false, .bool sb, .bool sc, .bool sd, .slice seo sen sec, .bool sf, .slice sgo sgn sgc, .slice sio sinn sic, .slice sjo sjn sjc]) (by simp [results, Try.results19, go_sem]) rfl ?_
  exact ⟨rfl, ((Below.refl _ _).alloc (Nat.le_refl _) _).alloc (by simp) _⟩
set_option maxRecDepth 100000 in
set_option maxHeartbeats 3200000 in
theorem laid_every (sb sc sd : Bool) (seo : Option Addr) (sen sec : Nat) (sf : Bool) (sgo : Option Addr) (sgn sgc : Nat) (sio : Option Addr) (sinn sic : Nat) (sjo : Option Addr) (sjn sjc : Nat) (m : Nat) (w : World) : Calls Try.prog 19 #[.agg #[.bool true, .bool sb, .bool sc, .bool sd, .slice seo sen sec, .bool sf, .slice sgo sgn sgc, .slice sio sinn sic, .slice sjo sjn sjc]] w fun e w' => (∃ b1 b2 b3, e = .returned (.agg #[.bool false, .bool true, .bool true, .bool true, .slice (some ⟨b1, 0, none⟩) 1 1, .bool true, .slice none 0 0, .slice (some ⟨b2, 0, none⟩) 1 1, .slice (some ⟨b3, 0, none⟩) 1 1]) ∧ InT w' (m + 2) laidT (.agg #[.bool false, .bool true, .bool true, .bool true, .slice (some ⟨b1, 0, none⟩) 1 1, .bool true, .slice none 0 0, .slice (some ⟨b2, 0, none⟩) 1 1, .slice (some ⟨b3, 0, none⟩) 1 1])) ∧ Below w.heap.size w w' := by
  go_enter Try.func19, Try.ntmps19
  go_wp2_with fail
  (try simp only [Exit.inBlock, Exit.then])
  refine bodyPost_ret (v := .agg #[.bool false, .bool true, .bool true, .bool true, .slice (some ⟨w.heap.size + 1 + 1 + 1, 0, none⟩) 1 1, .bool true, .slice none 0 0, .slice (some ⟨w.heap.size + 1 + 1 + 1 + 1, 0, none⟩) 1 1, .slice (some ⟨w.heap.size + 1 + 1 + 1 + 1 + 1, 0, none⟩) 1 1]) (by simp [results, Try.results19, go_sem]) rfl ?_
  obtain ⟨Q, hQ⟩ : ∃ Q, ((w.alloc (.cells #[.bool true, .bool sb, .bool sc, .bool sd, .slice seo sen sec, .bool sf, .slice sgo sgn sgc, .slice sio sinn sic, .slice sjo sjn sjc] 27)).alloc (.cells #[.bool false, .bool true, .bool true, .bool true, .slice (some ⟨w.heap.size + 1 + 1 + 1, 0, none⟩) 1 1, .bool true, .slice none 0 0, .slice (some ⟨w.heap.size + 1 + 1 + 1 + 1, 0, none⟩) 1 1, .slice (some ⟨w.heap.size + 1 + 1 + 1 + 1 + 1, 0, none⟩) 1 1] 27)).alloc (.cells #[.bool true, .bool false, .bool false, .bool false, .slice none 0 0, .bool false, .slice none 0 0, .slice none 0 0, .slice none 0 0] 27) = Q := ⟨_, rfl⟩
  have hs : Q.heap.size = w.heap.size + 1 + 1 + 1 := by rw [← hQ]; simp
  have hb : Below w.heap.size w Q := by rw [← hQ]; exact (((Below.refl _ _).alloc (Nat.le_refl _) _).alloc (by simp) _).alloc (by simp; omega) _
  rw [hQ, ← hs]
  clear hQ
  have hx := b3y_new Q #[.string ⟨#[]⟩, .string ⟨#[]⟩] #[.bool true, .bool false, .bool false, .bool false, .slice none 0 0, .bool false, .slice none 0 0, .slice none 0 0, .slice none 0 0, .int .i64 0, .int .i64 (-1)] #[.slice none 0 0, .slice none 0 0, .slice none 0 0, .bool true, .bool false, .bool false, .bool false, .slice none 0 0, .bool false, .slice none 0 0, .slice none 0 0, .slice none 0 0] 44 51 56
  exact ⟨⟨_, _, _, rfl, laid_inT _ m Q.heap.size (Q.heap.size + 1) (Q.heap.size + 1 + 1) (lt_of_row' hx.r0) (lt_of_row' hx.r1) (lt_of_row' hx.r2) hx.r0 hx.r1 hx.r2⟩, hb.trans (hx.below.mono hb.size)⟩
end Go.Proofs.Ytihhjplbpaafiaa
namespace Go.Proofs.Ytihhjplbpaafiaa
open Go.RowKit Go.Shelf Go.Sort
set_option linter.unusedVariables false
set_option linter.unusedSimpArgs false
attribute [local go_sem] Oper.semAt_some

/-- a box of nine cells, written over -/
theorem box9_row {u : World} {B : Nat} {x0 x1 x2 x3 x4 x5 x6 x7 x8 : Value} {a0 a1 a2 a3 a4 a5 a6 a7 a8 : Value} {t : TypeId} (h : u.heap[B]? = some (.cells #[x0, x1, x2, x3, x4, x5, x6, x7, x8] t (0, 0))) : (((((((((u.setCell ⟨B, 0, none⟩ a0).setCell ⟨B, 1, none⟩ a1).setCell ⟨B, 2, none⟩ a2).setCell ⟨B, 3, none⟩ a3).setCell ⟨B, 4, none⟩ a4).setCell ⟨B, 5, none⟩ a5).setCell ⟨B, 6, none⟩ a6).setCell ⟨B, 7, none⟩ a7).setCell ⟨B, 8, none⟩ a8).heap[B]? = some (.cells #[a0, a1, a2, a3, a4, a5, a6, a7, a8] t (0, 0)) :=
  rset9' (i := 8) (c := #[a0, a1, a2, a3, a4, a5, a6, a7, x8]) a8 (rset9' (i := 7) (c := #[a0, a1, a2, a3, a4, a5, a6, x7, x8]) a7 (rset9' (i := 6) (c := #[a0, a1, a2, a3, a4, a5, x6, x7, x8]) a6 (rset9' (i := 5) (c := #[a0, a1, a2, a3, a4, x5, x6, x7, x8]) a5 (rset9' (i := 4) (c := #[a0, a1, a2, a3, x4, x5, x6, x7, x8]) a4 (rset9' (i := 3) (c := #[a0, a1, a2, x3, x4, x5, x6, x7, x8]) a3 (rset9' (i := 2) (c := #[a0, a1, x2, x3, x4, x5, x6, x7, x8]) a2 (rset9' (i := 1) (c := #[a0, x1, x2, x3, x4, x5, x6, x7, x8]) a1 (rset9' (i := 0) (c := #[x0, x1, x2, x3, x4, x5, x6, x7, x8]) a0 (h)))))))))
theorem fldL_cons {ns : List ByteArray} {fs : List TT} {ms : List Bool} {r : TT} {s : ByteArray} {k : Nat} (h1 : k < ns.length) (h2 : k < fs.length) (h3 : k < ms.length) : fldL (ns.drop k) (fs.drop k) (ms.drop k) r s = if eqS ns[k] s then (fs[k], ms[k]) else fldL (ns.drop (k + 1)) (fs.drop (k + 1)) (ms.drop (k + 1)) r s := by
  rw [List.drop_eq_getElem_cons h1, List.drop_eq_getElem_cons h2, List.drop_eq_getElem_cons h3]; rfl
theorem cell_same {u v : World} {b j : Nat} (h : v.heap[b]? = u.heap[b]?) : v.cell? ⟨b, j, none⟩ = u.cell? ⟨b, j, none⟩ := by
  unfold World.cell?
  simp only [h]
theorem set_other {u : World} {B b i : Nat} {v : Value} (h : b ≠ B) : (u.setCell ⟨B, i, none⟩ v).heap[b]? = u.heap[b]? := by
  show (u.heap.modify B _)[b]? = _
  rw [Array.getElem?_modify, if_neg (fun e => h e.symm)]

set_option maxRecDepth 100000 in
set_option maxHeartbeats 6400000 in
theorem w_rField (h : Nat) (o : OB) (s : ByteArray) (N : Nat) (ko : Option Addr) (kc : Nat) (fo : Option Addr) (fc : Nat) (mo : Option Addr) (mc : Nat) (sa sb sc sd : Bool) (seo : Option Addr) (sen sec : Nat) (sf : Bool) (sgo : Option Addr) (sgn sgc : Nat) (sio : Option Addr) (sinn sic : Nat) (sjo : Option Addr) (sjn sjc : Nat) (w0 w : World) (h0 : Below w0.heap.size w0 w) (hO : InO w0 h o ko kc fo fc mo mc (.bool sa) (.bool sb) (.bool sc) (.bool sd) (.slice seo sen sec) (.bool sf) (.slice sgo sgn sgc) (.slice sio sinn sic) (.slice sjo sjn sjc)) (hN : o.names.length = N) (hf : o.fields.length = N) (hm : o.must.length = N) :
    Calls Try.prog 62 #[.agg #[.slice ko N kc, .slice fo N fc, .slice mo N mc, .bool sa, .bool sb, .bool sc, .bool sd, .slice seo sen sec, .bool sf, .slice sgo sgn sgc, .slice sio sinn sic, .slice sjo sjn sjc], .string s] w fun e w' => (∃ X9, e = .returned (.tuple #[.agg X9, .bool (fldO o s).2]) ∧ ∀ u, Below w0.heap.size w0 u → InT u h (fldO o s).1 (.agg X9)) ∧ Below w.heap.size w w' := by
  have hs0 := h0.size
  have hcaps := hO.caps
  have hl := hO.lens.1
  rw [hN, hf, hm] at hcaps
  rw [hN] at hl
  obtain ⟨k1, k2, k3⟩ := hcaps
  have HO := Hid.mk hO
  obtain ⟨R, hR⟩ : ∃ R, fldO o s = R := ⟨_, rfl⟩
  have HR0 : Hid (fldL (o.names.drop 0) (o.fields.drop 0) (o.must.drop 0) o.rest s = R) := hR
  rw [hR]
  have HL := Hid.mk (And.intro hN (And.intro hf hm))
  clear hR hO hN hf hm
  go_enter Try.func62, Try.ntmps62
  go_wp2_with fail
  go_loopw [6] (fun i wr => ∃ k : Nat, k ≤ N ∧ i = .int .i64 (k : Int) ∧ wr = (w.alloc (.cells #[.slice ko N kc, .slice fo N fc, .slice mo N mc, .bool sa, .bool sb, .bool sc, .bool sd, .slice seo sen sec, .bool sf, .slice sgo sgn sgc, .slice sio sinn sic, .slice sjo sjn sjc] 56)).alloc (.cells #[.bool false, .bool false, .bool false, .bool false, .slice none 0 0, .bool false, .slice none 0 0, .slice none 0 0, .slice none 0 0] 27) ∧ Hid (fldL (o.names.drop k) (o.fields.drop k) (o.must.drop k) o.rest s = R)) (fun i _ => N - (intOf i).toNat)
  case atStart => exact ⟨0, Nat.zero_le _, rfl, by first | trivial | rfl, HR0⟩
  case round =>
    obtain ⟨k, hk, rfl, rfl, HQ⟩ := hrel
    by_cases hlt : k < N
    · have hl1 : (k : Int) < (N : Int) := by omega
      have hl0 : (0 : Int) ≤ (k : Int) := by omega
      have hln : ¬ (N : Int) ≤ (k : Int) := by omega
      have q1 : k < o.names.length := by rw [HL.out.1]; exact hlt
      have q2 : k < o.fields.length := by rw [HL.out.2.1]; exact hlt
      have q3 : k < o.must.length := by rw [HL.out.2.2]; exact hlt
      have hb0 : Below w0.heap.size w0 ((w.alloc (.cells #[.slice ko N kc, .slice fo N fc, .slice mo N mc, .bool sa, .bool sb, .bool sc, .bool sd, .slice seo sen sec, .bool sf, .slice sgo sgn sgc, .slice sio sinn sic, .slice sjo sjn sjc] 56)).alloc (.cells #[.bool false, .bool false, .bool false, .bool false, .slice none 0 0, .bool false, .slice none 0 0, .slice none 0 0, .slice none 0 0] 27)) := h0.trans ((bx2_two w #[.slice ko N kc, .slice fo N fc, .slice mo N mc, .bool sa, .bool sb, .bool sc, .bool sd, .slice seo sen sec, .bool sf, .slice sgo sgn sgc, .slice sio sinn sic, .slice sjo sjn sjc] #[.bool false, .bool false, .bool false, .bool false, .slice none 0 0, .bool false, .slice none 0 0, .slice none 0 0, .slice none 0 0] 56 27).below.mono h0.size)
      have hO1 := HO.out.keep hb0
      obtain ⟨nb, noff, hko, hnb, hrow⟩ := HO.out.nm.row (by omega)
      obtain ⟨fb, foff, hfo, hfl, hfrow⟩ := HO.out.fd (by omega)
      obtain ⟨mb, moff, hmo, hml, hmrow⟩ := HO.out.ms.row (by omega)
      subst hko hfo hmo
      have c0' := hrow k q1
      rw [show o.names.getD k ByteArray.empty = o.names[k] by simp [List.getD, q1]] at c0'
      have c0 := (hb0.cell (p := ⟨_, _, _⟩) hnb).trans c0'
      obtain ⟨d0, d1, d2, d3, d4, d5, d6, d7, d8, hd9', hdT⟩ := hfrow k q2
      have hd9 := hd9'.keep hb0 hfl
      obtain ⟨e3, e4, e5, e6, e7, e8, e9, e10, e11⟩ := hd9
      have e2 := (hb0.cell (p := ⟨_, _, _⟩) hml).trans (hmrow k q3)
      have e0 : ((w.alloc (.cells #[.slice (some ⟨nb, noff, none⟩) N kc, .slice (some ⟨fb, foff, none⟩) N fc, .slice (some ⟨mb, moff, none⟩) N mc, .bool sa, .bool sb, .bool sc, .bool sd, .slice seo sen sec, .bool sf, .slice sgo sgn sgc, .slice sio sinn sic, .slice sjo sjn sjc] 56)).alloc (.cells #[.bool false, .bool false, .bool false, .bool false, .slice none 0 0, .bool false, .slice none 0 0, .slice none 0 0, .slice none 0 0] 27)).cell? ⟨w.heap.size, 1, none⟩ = _ := (bx2_two w #[.slice (some ⟨nb, noff, none⟩) N kc, .slice (some ⟨fb, foff, none⟩) N fc, .slice (some ⟨mb, moff, none⟩) N mc, .bool sa, .bool sb, .bool sc, .bool sd, .slice seo sen sec, .bool sf, .slice sgo sgn sgc, .slice sio sinn sic, .slice sjo sjn sjc] #[.bool false, .bool false, .bool false, .bool false, .slice none 0 0, .bool false, .slice none 0 0, .slice none 0 0, .slice none 0 0] 56 27).one 1
      have e1 : ((w.alloc (.cells #[.slice (some ⟨nb, noff, none⟩) N kc, .slice (some ⟨fb, foff, none⟩) N fc, .slice (some ⟨mb, moff, none⟩) N mc, .bool sa, .bool sb, .bool sc, .bool sd, .slice seo sen sec, .bool sf, .slice sgo sgn sgc, .slice sio sinn sic, .slice sjo sjn sjc] 56)).alloc (.cells #[.bool false, .bool false, .bool false, .bool false, .slice none 0 0, .bool false, .slice none 0 0, .slice none 0 0, .slice none 0 0] 27)).cell? ⟨w.heap.size, 2, none⟩ = _ := (bx2_two w #[.slice (some ⟨nb, noff, none⟩) N kc, .slice (some ⟨fb, foff, none⟩) N fc, .slice (some ⟨mb, moff, none⟩) N mc, .bool sa, .bool sb, .bool sc, .bool sd, .slice seo sen sec, .bool sf, .slice sgo sgn sgc, .slice sio sinn sic, .slice sjo sjn sjc] #[.bool false, .bool false, .bool false, .bool false, .slice none 0 0, .bool false, .slice none 0 0, .slice none 0 0, .slice none 0 0] 56 27).one 2
      have hfb : fb ≠ w.heap.size + 1 := by omega
      have hmb : mb ≠ w.heap.size + 1 := by omega
      have HFT := Hid.mk (fun u (hu : Below w0.heap.size w0 u) => hdT.keep hu)
      have HG := Hid.mk (fldL_cons (r := o.rest) (s := s) q1 q2 q3)
      obtain ⟨ma, mb', mc', md, ⟨meo, men, mec⟩, mf, ⟨mgo, mgn, mgc⟩, ⟨mio, minn, mic⟩, ⟨mjo, mjn, mjc⟩, esh⟩ := inT_shape hdT
      simp only [Value.agg.injEq, Array.mk.injEq, List.cons.injEq, and_true] at esh
      obtain ⟨rfl, rfl, rfl, rfl, rfl, rfl, rfl, rfl, rfl⟩ := esh
      have he : eqS o.names[k] s = (o.names[k].toList == s.toList) := rfl
      rw [he, HQ.out] at HG
      generalize o.names[k] = x at *
      generalize o.fields[k] = ft at *
      generalize o.must[k] = mu at *
      clear hrow hfrow hmrow hdT hd9' c0' he hnb hfl hml
      cases hx : (x.toList == s.toList) with
      | true =>
        have HF : Hid (R = (ft, mu)) := by show _ = _; rw [HG.out, hx]; rfl
        clear HG
        obtain ⟨WD, hWD⟩ : ∃ WD, ((w.alloc (.cells #[.slice (some ⟨nb, noff, none⟩) N kc, .slice (some ⟨fb, foff, none⟩) N fc, .slice (some ⟨mb, moff, none⟩) N mc, .bool sa, .bool sb, .bool sc, .bool sd, .slice seo sen sec, .bool sf, .slice sgo sgn sgc, .slice sio sinn sic, .slice sjo sjn sjc] 56)).alloc (.cells #[.bool false, .bool false, .bool false, .bool false, .slice none 0 0, .bool false, .slice none 0 0, .slice none 0 0, .slice none 0 0] 27)).drew = WD := ⟨_, rfl⟩
        have hB0 : Below w.heap.size w ((w.alloc (.cells #[.slice (some ⟨nb, noff, none⟩) N kc, .slice (some ⟨fb, foff, none⟩) N fc, .slice (some ⟨mb, moff, none⟩) N mc, .bool sa, .bool sb, .bool sc, .bool sd, .slice seo sen sec, .bool sf, .slice sgo sgn sgc, .slice sio sinn sic, .slice sjo sjn sjc] 56)).alloc (.cells #[.bool false, .bool false, .bool false, .bool false, .slice none 0 0, .bool false, .slice none 0 0, .slice none 0 0, .slice none 0 0] 27)) := (bx2_two w #[.slice (some ⟨nb, noff, none⟩) N kc, .slice (some ⟨fb, foff, none⟩) N fc, .slice (some ⟨mb, moff, none⟩) N mc, .bool sa, .bool sb, .bool sc, .bool sd, .slice seo sen sec, .bool sf, .slice sgo sgn sgc, .slice sio sinn sic, .slice sjo sjn sjc] #[.bool false, .bool false, .bool false, .bool false, .slice none 0 0, .bool false, .slice none 0 0, .slice none 0 0, .slice none 0 0] 56 27).below
        have hD : Below ((w.alloc (.cells #[.slice (some ⟨nb, noff, none⟩) N kc, .slice (some ⟨fb, foff, none⟩) N fc, .slice (some ⟨mb, moff, none⟩) N mc, .bool sa, .bool sb, .bool sc, .bool sd, .slice seo sen sec, .bool sf, .slice sgo sgn sgc, .slice sio sinn sic, .slice sjo sjn sjc] 56)).alloc (.cells #[.bool false, .bool false, .bool false, .bool false, .slice none 0 0, .bool false, .slice none 0 0, .slice none 0 0, .slice none 0 0] 27)).heap.size ((w.alloc (.cells #[.slice (some ⟨nb, noff, none⟩) N kc, .slice (some ⟨fb, foff, none⟩) N fc, .slice (some ⟨mb, moff, none⟩) N mc, .bool sa, .bool sb, .bool sc, .bool sd, .slice seo sen sec, .bool sf, .slice sgo sgn sgc, .slice sio sinn sic, .slice sjo sjn sjc] 56)).alloc (.cells #[.bool false, .bool false, .bool false, .bool false, .slice none 0 0, .bool false, .slice none 0 0, .slice none 0 0, .slice none 0 0] 27)) WD := by rw [← hWD]; exact (Below.refl _ _).drew
        have HBD := Hid.mk (hB0.trans (hD.mono hB0.size))
        have hR0 : ((w.alloc (.cells #[.slice (some ⟨nb, noff, none⟩) N kc, .slice (some ⟨fb, foff, none⟩) N fc, .slice (some ⟨mb, moff, none⟩) N mc, .bool sa, .bool sb, .bool sc, .bool sd, .slice seo sen sec, .bool sf, .slice sgo sgn sgc, .slice sio sinn sic, .slice sjo sjn sjc] 56)).alloc (.cells #[.bool false, .bool false, .bool false, .bool false, .slice none 0 0, .bool false, .slice none 0 0, .slice none 0 0, .slice none 0 0] 27)).heap[w.heap.size + 1]? = some (.cells #[.bool false, .bool false, .bool false, .bool false, .slice none 0 0, .bool false, .slice none 0 0, .slice none 0 0, .slice none 0 0] 27 (0, 0)) := by
          have h := World.alloc_heap_new (w.alloc (.cells #[.slice (some ⟨nb, noff, none⟩) N kc, .slice (some ⟨fb, foff, none⟩) N fc, .slice (some ⟨mb, moff, none⟩) N mc, .bool sa, .bool sb, .bool sc, .bool sd, .slice seo sen sec, .bool sf, .slice sgo sgn sgc, .slice sio sinn sic, .slice sjo sjn sjc] 56)) (.cells #[.bool false, .bool false, .bool false, .bool false, .slice none 0 0, .bool false, .slice none 0 0, .slice none 0 0, .slice none 0 0] 27)
          rw [World.size_alloc] at h
          exact h
        have hRD : WD.heap[w.heap.size + 1]? = some (.cells #[.bool false, .bool false, .bool false, .bool false, .slice none 0 0, .bool false, .slice none 0 0, .slice none 0 0, .slice none 0 0] 27 (0, 0)) := (hD.block _ (lt_of_row' hR0)).trans hR0
        have g0 := cell_of_row _ _ 0 _ _ _ hRD
        have ff0 := frozen_row9' (j := 0) hRD
        have g1 := cell_of_row _ _ 1 _ _ _ hRD
        have ff1 := frozen_row9' (j := 1) hRD
        have g2 := cell_of_row _ _ 2 _ _ _ hRD
        have ff2 := frozen_row9' (j := 2) hRD
        have g3 := cell_of_row _ _ 3 _ _ _ hRD
        have ff3 := frozen_row9' (j := 3) hRD
        have g4 := cell_of_row _ _ 4 _ _ _ hRD
        have ff4 := frozen_row9' (j := 4) hRD
        have g5 := cell_of_row _ _ 5 _ _ _ hRD
        have ff5 := frozen_row9' (j := 5) hRD
        have g6 := cell_of_row _ _ 6 _ _ _ hRD
        have ff6 := frozen_row9' (j := 6) hRD
        have g7 := cell_of_row _ _ 7 _ _ _ hRD
        have ff7 := frozen_row9' (j := 7) hRD
        have g8 := cell_of_row _ _ 8 _ _ _ hRD
        have ff8 := frozen_row9' (j := 8) hRD
        have HSS : Hid (∀ u, Below ((w.alloc (.cells #[.slice (some ⟨nb, noff, none⟩) N kc, .slice (some ⟨fb, foff, none⟩) N fc, .slice (some ⟨mb, moff, none⟩) N mc, .bool sa, .bool sb, .bool sc, .bool sd, .slice seo sen sec, .bool sf, .slice sgo sgn sgc, .slice sio sinn sic, .slice sjo sjn sjc] 56)).alloc (.cells #[.bool false, .bool false, .bool false, .bool false, .slice none 0 0, .bool false, .slice none 0 0, .slice none 0 0, .slice none 0 0] 27)).heap.size ((w.alloc (.cells #[.slice (some ⟨nb, noff, none⟩) N kc, .slice (some ⟨fb, foff, none⟩) N fc, .slice (some ⟨mb, moff, none⟩) N mc, .bool sa, .bool sb, .bool sc, .bool sd, .slice seo sen sec, .bool sf, .slice sgo sgn sgc, .slice sio sinn sic, .slice sjo sjn sjc] 56)).alloc (.cells #[.bool false, .bool false, .bool false, .bool false, .slice none 0 0, .bool false, .slice none 0 0, .slice none 0 0, .slice none 0 0] 27)) u → u.cell? ⟨w.heap.size, 1, none⟩ = some (.slice (some ⟨fb, foff, none⟩) N fc) ∧ u.cell? ⟨w.heap.size, 2, none⟩ = some (.slice (some ⟨mb, moff, none⟩) N mc) ∧ u.cell? ⟨mb, moff + k, none⟩ = some (.bool mu) ∧ u.cell? ⟨fb, foff + k * 9, none⟩ = some (.bool ma) ∧ u.cell? ⟨fb, foff + k * 9 + 1, none⟩ = some (.bool mb') ∧ u.cell? ⟨fb, foff + k * 9 + 2, none⟩ = some (.bool mc') ∧ u.cell? ⟨fb, foff + k * 9 + 3, none⟩ = some (.bool md) ∧ u.cell? ⟨fb, foff + k * 9 + 4, none⟩ = some (.slice meo men mec) ∧ u.cell? ⟨fb, foff + k * 9 + 5, none⟩ = some (.bool mf) ∧ u.cell? ⟨fb, foff + k * 9 + 6, none⟩ = some (.slice mgo mgn mgc) ∧ u.cell? ⟨fb, foff + k * 9 + 7, none⟩ = some (.slice mio minn mic) ∧ u.cell? ⟨fb, foff + k * 9 + 8, none⟩ = some (.slice mjo mjn mjc)) := fun u hu => ⟨(hu.cell (p := ⟨_, _, _⟩) (World.block_lt_of_cell? _ _ e0)).trans e0, (hu.cell (p := ⟨_, _, _⟩) (World.block_lt_of_cell? _ _ e1)).trans e1, (hu.cell (p := ⟨_, _, _⟩) (World.block_lt_of_cell? _ _ e2)).trans e2, (hu.cell (p := ⟨_, _, _⟩) (World.block_lt_of_cell? _ _ e3)).trans e3, (hu.cell (p := ⟨_, _, _⟩) (World.block_lt_of_cell? _ _ e4)).trans e4, (hu.cell (p := ⟨_, _, _⟩) (World.block_lt_of_cell? _ _ e5)).trans e5, (hu.cell (p := ⟨_, _, _⟩) (World.block_lt_of_cell? _ _ e6)).trans e6, (hu.cell (p := ⟨_, _, _⟩) (World.block_lt_of_cell? _ _ e7)).trans e7, (hu.cell (p := ⟨_, _, _⟩) (World.block_lt_of_cell? _ _ e8)).trans e8, (hu.cell (p := ⟨_, _, _⟩) (World.block_lt_of_cell? _ _ e9)).trans e9, (hu.cell (p := ⟨_, _, _⟩) (World.block_lt_of_cell? _ _ e10)).trans e10, (hu.cell (p := ⟨_, _, _⟩) (World.block_lt_of_cell? _ _ e11)).trans e11⟩
        have HSD : Hid ((fun u => u.cell? ⟨w.heap.size, 1, none⟩ = some (.slice (some ⟨fb, foff, none⟩) N fc) ∧ u.cell? ⟨w.heap.size, 2, none⟩ = some (.slice (some ⟨mb, moff, none⟩) N mc) ∧ u.cell? ⟨mb, moff + k, none⟩ = some (.bool mu) ∧ u.cell? ⟨fb, foff + k * 9, none⟩ = some (.bool ma) ∧ u.cell? ⟨fb, foff + k * 9 + 1, none⟩ = some (.bool mb') ∧ u.cell? ⟨fb, foff + k * 9 + 2, none⟩ = some (.bool mc') ∧ u.cell? ⟨fb, foff + k * 9 + 3, none⟩ = some (.bool md) ∧ u.cell? ⟨fb, foff + k * 9 + 4, none⟩ = some (.slice meo men mec) ∧ u.cell? ⟨fb, foff + k * 9 + 5, none⟩ = some (.bool mf) ∧ u.cell? ⟨fb, foff + k * 9 + 6, none⟩ = some (.slice mgo mgn mgc) ∧ u.cell? ⟨fb, foff + k * 9 + 7, none⟩ = some (.slice mio minn mic) ∧ u.cell? ⟨fb, foff + k * 9 + 8, none⟩ = some (.slice mjo mjn mjc)) WD) := HSS.out _ hD
        have HST : Hid (∀ V : World, (∀ b, b ≠ w.heap.size + 1 → V.heap[b]? = WD.heap[b]?) → (fun u => u.cell? ⟨w.heap.size, 1, none⟩ = some (.slice (some ⟨fb, foff, none⟩) N fc) ∧ u.cell? ⟨w.heap.size, 2, none⟩ = some (.slice (some ⟨mb, moff, none⟩) N mc) ∧ u.cell? ⟨mb, moff + k, none⟩ = some (.bool mu) ∧ u.cell? ⟨fb, foff + k * 9, none⟩ = some (.bool ma) ∧ u.cell? ⟨fb, foff + k * 9 + 1, none⟩ = some (.bool mb') ∧ u.cell? ⟨fb, foff + k * 9 + 2, none⟩ = some (.bool mc') ∧ u.cell? ⟨fb, foff + k * 9 + 3, none⟩ = some (.bool md) ∧ u.cell? ⟨fb, foff + k * 9 + 4, none⟩ = some (.slice meo men mec) ∧ u.cell? ⟨fb, foff + k * 9 + 5, none⟩ = some (.bool mf) ∧ u.cell? ⟨fb, foff + k * 9 + 6, none⟩ = some (.slice mgo mgn mgc) ∧ u.cell? ⟨fb, foff + k * 9 + 7, none⟩ = some (.slice mio minn mic) ∧ u.cell? ⟨fb, foff + k * 9 + 8, none⟩ = some (.slice mjo mjn mjc)) V) := fun V hV => by
          have hc : ∀ b j, b ≠ w.heap.size + 1 → V.cell? ⟨b, j, none⟩ = WD.cell? ⟨b, j, none⟩ := fun b j hb => cell_same (hV b hb)
          obtain ⟨s0_, s1_, s2_, s3_, s4_, s5_, s6_, s7_, s8_, s9_, s10_, s11_⟩ := HSD.out
          exact ⟨(hc _ _ (by omega)).trans s0_, (hc _ _ (by omega)).trans s1_, (hc _ _ hmb).trans s2_, (hc _ _ hfb).trans s3_, (hc _ _ hfb).trans s4_, (hc _ _ hfb).trans s5_, (hc _ _ hfb).trans s6_, (hc _ _ hfb).trans s7_, (hc _ _ hfb).trans s8_, (hc _ _ hfb).trans s9_, (hc _ _ hfb).trans s10_, (hc _ _ hfb).trans s11_⟩
        have HDq := Hid.mk hWD
        have HRD := Hid.mk hRD
        clear hWD hD hRD hB0 hR0
        go_wp2_with fail
        refine wp_region_held_drew (S := fun u => u.cell? ⟨w.heap.size, 1, none⟩ = some (.slice (some ⟨fb, foff, none⟩) N fc) ∧ u.cell? ⟨w.heap.size, 2, none⟩ = some (.slice (some ⟨mb, moff, none⟩) N mc) ∧ u.cell? ⟨mb, moff + k, none⟩ = some (.bool mu) ∧ u.cell? ⟨fb, foff + k * 9, none⟩ = some (.bool ma) ∧ u.cell? ⟨fb, foff + k * 9 + 1, none⟩ = some (.bool mb') ∧ u.cell? ⟨fb, foff + k * 9 + 2, none⟩ = some (.bool mc') ∧ u.cell? ⟨fb, foff + k * 9 + 3, none⟩ = some (.bool md) ∧ u.cell? ⟨fb, foff + k * 9 + 4, none⟩ = some (.slice meo men mec) ∧ u.cell? ⟨fb, foff + k * 9 + 5, none⟩ = some (.bool mf) ∧ u.cell? ⟨fb, foff + k * 9 + 6, none⟩ = some (.slice mgo mgn mgc) ∧ u.cell? ⟨fb, foff + k * 9 + 7, none⟩ = some (.slice mio minn mic) ∧ u.cell? ⟨fb, foff + k * 9 + 8, none⟩ = some (.slice mjo mjn mjc)) (by kernel_rfl) (by rw [HDq.out]; exact HSD.out) (fun hHeld => ?_)
        rw [HDq.out] at hHeld ⊢
        refine wpAnyH_take (i := 0) (oi := _) (v := .pointer (some ⟨w.heap.size, 1, none⟩)) rfl (by kernel_rfl) (by kernel_rfl) (by kernel_rfl) (fun _ _ _ h => h) (Or.inl ⟨by rfl, ?_⟩) (by assumption) ?_
        · intro w hSw
          go_simp
        try simp only [Act.put, List.getElem_toArray, List.getElem_cons_succ, List.getElem_cons_zero, List.setIfInBounds_toArray, List.set_cons_zero, List.set_cons_succ]
        refine wpAnyH_take (i := 1) (oi := _) (v := .slice (some ⟨fb, foff, none⟩) N fc) rfl (by kernel_rfl) (by kernel_rfl) (by kernel_rfl) (fun _ _ _ h => h) (Or.inl ⟨by rfl, ?_⟩) (by assumption) ?_
        · intro w hSw
          go_simp
        try simp only [Act.put, List.getElem_toArray, List.getElem_cons_succ, List.getElem_cons_zero, List.setIfInBounds_toArray, List.set_cons_zero, List.set_cons_succ]
        refine wpAnyH_take (i := 2) (oi := _) (v := .int .i64 (k : Int)) rfl (by kernel_rfl) (by kernel_rfl) (by kernel_rfl) (fun _ _ _ h => h) (Or.inl ⟨by rfl, ?_⟩) (by assumption) ?_
        · intro w hSw
          go_simp
        try simp only [Act.put, List.getElem_toArray, List.getElem_cons_succ, List.getElem_cons_zero, List.setIfInBounds_toArray, List.set_cons_zero, List.set_cons_succ]
        refine wpAnyH_take (i := 3) (oi := _) (v := .pointer (some ⟨fb, foff + k * 9, none⟩)) rfl (by kernel_rfl) (by kernel_rfl) (by kernel_rfl) (fun _ _ _ h => h) (Or.inl ⟨by rfl, ?_⟩) (by assumption) ?_
        · intro w hSw
          go_simp
        try simp only [Act.put, List.getElem_toArray, List.getElem_cons_succ, List.getElem_cons_zero, List.setIfInBounds_toArray, List.set_cons_zero, List.set_cons_succ]
        refine wpAnyH_take (i := 4) (oi := _) (v := .agg #[.bool ma, .bool mb', .bool mc', .bool md, .slice meo men mec, .bool mf, .slice mgo mgn mgc, .slice mio minn mic, .slice mjo mjn mjc]) rfl (by kernel_rfl) (by kernel_rfl) (by kernel_rfl) (fun _ _ _ h => h) (Or.inl ⟨by rfl, ?_⟩) (by assumption) ?_
        · intro w hSw
          go_simp
        try simp only [Act.put, List.getElem_toArray, List.getElem_cons_succ, List.getElem_cons_zero, List.setIfInBounds_toArray, List.set_cons_zero, List.set_cons_succ]
        refine wpAnyH_take (i := 5) (oi := _) (v := .pointer (some ⟨w.heap.size, 2, none⟩)) rfl (by kernel_rfl) (by kernel_rfl) (by kernel_rfl) (fun _ _ _ h => h) (Or.inl ⟨by rfl, ?_⟩) (by assumption) ?_
        · intro w hSw
          go_simp
        try simp only [Act.put, List.getElem_toArray, List.getElem_cons_succ, List.getElem_cons_zero, List.setIfInBounds_toArray, List.set_cons_zero, List.set_cons_succ]
        refine wpAnyH_take (i := 6) (oi := _) (v := .slice (some ⟨mb, moff, none⟩) N mc) rfl (by kernel_rfl) (by kernel_rfl) (by kernel_rfl) (fun _ _ _ h => h) (Or.inl ⟨by rfl, ?_⟩) (by assumption) ?_
        · intro w hSw
          go_simp
        try simp only [Act.put, List.getElem_toArray, List.getElem_cons_succ, List.getElem_cons_zero, List.setIfInBounds_toArray, List.set_cons_zero, List.set_cons_succ]
        refine wpAnyH_take (i := 7) (oi := _) (v := .int .i64 (k : Int)) rfl (by kernel_rfl) (by kernel_rfl) (by kernel_rfl) (fun _ _ _ h => h) (Or.inl ⟨by rfl, ?_⟩) (by assumption) ?_
        · intro w hSw
          go_simp
        try simp only [Act.put, List.getElem_toArray, List.getElem_cons_succ, List.getElem_cons_zero, List.setIfInBounds_toArray, List.set_cons_zero, List.set_cons_succ]
        refine wpAnyH_take (i := 8) (oi := _) (v := .pointer (some ⟨mb, moff + k, none⟩)) rfl (by kernel_rfl) (by kernel_rfl) (by kernel_rfl) (fun _ _ _ h => h) (Or.inl ⟨by rfl, ?_⟩) (by assumption) ?_
        · intro w hSw
          go_simp
        try simp only [Act.put, List.getElem_toArray, List.getElem_cons_succ, List.getElem_cons_zero, List.setIfInBounds_toArray, List.set_cons_zero, List.set_cons_succ]
        refine wpAnyH_take (i := 9) (oi := _) (v := .bool mu) rfl (by kernel_rfl) (by kernel_rfl) (by kernel_rfl) (fun _ _ _ h => h) (Or.inl ⟨by rfl, ?_⟩) (by assumption) ?_
        · intro w hSw
          go_simp
        try simp only [Act.put, List.getElem_toArray, List.getElem_cons_succ, List.getElem_cons_zero, List.setIfInBounds_toArray, List.set_cons_zero, List.set_cons_succ]
        refine wpAnyH_ready (rs := [10]) (by kernel_rfl) (by simp) ?_
        refine AllReadyH.cons (o := _) rfl (fun K hK => ?_) AllReadyH.nil
        go_simp
        obtain ⟨W9, hW9⟩ : ∃ W9, (((((((((WD.setCell ⟨w.heap.size + 1, 0, none⟩ (.bool ma)).setCell ⟨w.heap.size + 1, 1, none⟩ (.bool mb')).setCell ⟨w.heap.size + 1, 2, none⟩ (.bool mc')).setCell ⟨w.heap.size + 1, 3, none⟩ (.bool md)).setCell ⟨w.heap.size + 1, 4, none⟩ (.slice meo men mec)).setCell ⟨w.heap.size + 1, 5, none⟩ (.bool mf)).setCell ⟨w.heap.size + 1, 6, none⟩ (.slice mgo mgn mgc)).setCell ⟨w.heap.size + 1, 7, none⟩ (.slice mio minn mic)).setCell ⟨w.heap.size + 1, 8, none⟩ (.slice mjo mjn mjc)) = W9 := ⟨_, rfl⟩
        have hB9 : Below w.heap.size w W9 := by rw [← hW9]; exact (((((((((HBD.out.setCell (p := ⟨w.heap.size + 1, 0, none⟩) (Nat.le_succ _) _).setCell (p := ⟨w.heap.size + 1, 1, none⟩) (Nat.le_succ _) _).setCell (p := ⟨w.heap.size + 1, 2, none⟩) (Nat.le_succ _) _).setCell (p := ⟨w.heap.size + 1, 3, none⟩) (Nat.le_succ _) _).setCell (p := ⟨w.heap.size + 1, 4, none⟩) (Nat.le_succ _) _).setCell (p := ⟨w.heap.size + 1, 5, none⟩) (Nat.le_succ _) _).setCell (p := ⟨w.heap.size + 1, 6, none⟩) (Nat.le_succ _) _).setCell (p := ⟨w.heap.size + 1, 7, none⟩) (Nat.le_succ _) _).setCell (p := ⟨w.heap.size + 1, 8, none⟩) (Nat.le_succ _) _)
        have hO9 : ∀ b, b ≠ w.heap.size + 1 → W9.heap[b]? = WD.heap[b]? := fun b hb => by rw [← hW9]; simp only [set_other hb]
        have hR9 : W9.heap[w.heap.size + 1]? = some (.cells #[.bool ma, .bool mb', .bool mc', .bool md, .slice meo men mec, .bool mf, .slice mgo mgn mgc, .slice mio minn mic, .slice mjo mjn mjc] 27 (0, 0)) := by rw [← hW9]; exact box9_row HRD.out
        try rw [hW9]
        clear hW9
        have HS9 := Hid.mk (HST.out W9 hO9)
        refine hK.out _ _ HS9.out (fun hHeld => ?_)
        clear hK K
        try simp only [Act.put, List.getElem_toArray, List.getElem_cons_succ, List.getElem_cons_zero, List.setIfInBounds_toArray, List.set_cons_zero, List.set_cons_succ]
        refine wpAnyH_ready (rs := [11]) (by kernel_rfl) (by simp) ?_
        refine AllReadyH.cons (o := _) rfl (fun K hK => ?_) AllReadyH.nil
        go_simp
        refine hK.out _ _ HS9.out (fun hHeld => ?_)
        clear hK K
        try simp only [Act.put, List.getElem_toArray, List.getElem_cons_succ, List.getElem_cons_zero, List.setIfInBounds_toArray, List.set_cons_zero, List.set_cons_succ]
        refine wpAnyH_done (by kernel_rfl) ?_ _
        try simp only [Act.put, List.getElem_toArray, List.getElem_cons_succ, List.getElem_cons_zero, List.setIfInBounds_toArray, List.set_cons_zero, List.set_cons_succ]
        have z0 := cell_of_row _ _ 0 _ _ _ hR9
        have z1 := cell_of_row _ _ 1 _ _ _ hR9
        have z2 := cell_of_row _ _ 2 _ _ _ hR9
        have z3 := cell_of_row _ _ 3 _ _ _ hR9
        have z4 := cell_of_row _ _ 4 _ _ _ hR9
        have z5 := cell_of_row _ _ 5 _ _ _ hR9
        have z6 := cell_of_row _ _ 6 _ _ _ hR9
        have z7 := cell_of_row _ _ 7 _ _ _ hR9
        have z8 := cell_of_row _ _ 8 _ _ _ hR9
        go_wp2_with fail
        (try simp only [Exit.inBlock, Exit.then])
        refine bodyPost_ret (v := .tuple #[.agg #[.bool ma, .bool mb', .bool mc', .bool md, .slice meo men mec, .bool mf, .slice mgo mgn mgc, .slice mio minn mic, .slice mjo mjn mjc], .bool mu]) (by simp [results, Try.results62, go_sem, z0, z1, z2, z3, z4, z5, z6, z7, z8]) rfl ?_
        refine ⟨⟨_, by rw [HF.out], ?_⟩, hB9⟩
        rw [HF.out]
        exact HFT.out
      | false =>
        have HN : Hid (fldL (o.names.drop (k + 1)) (o.fields.drop (k + 1)) (o.must.drop (k + 1)) o.rest s = R) := by show _ = _; rw [HG.out, hx]; rfl
        clear HG e0 e1 e2 e3 e4 e5 e6 e7 e8 e9 e10 e11
        go_wp2_with fail
        go_roundw
        case rel => exact ⟨k + 1, hlt, by go_num, by first | trivial | rfl, HN⟩
        case measure => simp [intOf]; omega
    · have hl1 : ¬ (k : Int) < (N : Int) := by omega
      have HF : Hid (R = (o.rest, false)) := by
        show _ = _
        rw [← HQ.out, List.drop_of_length_le (by rw [HL.out.1]; omega)]
        rfl
      have HRS := Hid.mk (fun u (hu : Below w0.heap.size w0 u) => HO.out.rest.keep hu)
      go_wp2_with fail
      (try simp only [Exit.inBlock, Exit.then])
      refine bodyPost_ret (v := .tuple #[.agg #[.bool sa, .bool sb, .bool sc, .bool sd, .slice seo sen sec, .bool sf, .slice sgo sgn sgc, .slice sio sinn sic, .slice sjo sjn sjc], .bool false]) (by simp [results, Try.results62, go_sem]) rfl ?_
      have hb9 := ((Below.refl w.heap.size w).alloc (Nat.le_refl _) (.cells #[.slice ko N kc, .slice fo N fc, .slice mo N mc, .bool sa, .bool sb, .bool sc, .bool sd, .slice seo sen sec, .bool sf, .slice sgo sgn sgc, .slice sio sinn sic, .slice sjo sjn sjc] 56)).alloc (by simp) (.cells #[.bool sa, .bool sb, .bool sc, .bool sd, .slice seo sen sec, .bool sf, .slice sgo sgn sgc, .slice sio sinn sic, .slice sjo sjn sjc] 27)
      refine ⟨⟨_, by rw [HF.out], ?_⟩, hb9⟩
      rw [HF.out]
      exact HRS.out
end Go.Proofs.Ytihhjplbpaafiaa
