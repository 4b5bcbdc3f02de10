import Derived.Test.YtdmkfdaddacdhaaGreatDoorM23
import Derived.Lib.QuietBelow
import Derived.BigQuiet
import Derived.WalkMore
import Derived.Test.YtdmkfdaddacdhaaGreatDoorM21
import Derived.WideKeyArgs
import Derived.WideKeyElems4
import Derived.Deep.Slices
import Derived.OpenShut
import Derived.WalkKit
namespace Go.Proofs.YtdmkfdaddacdhaaGreatDoor
open Go.RowKit Go.Shelf
set_option linter.unusedVariables false
set_option linter.unusedSimpArgs false

/-- are they the same? -/
noncomputable def sq {α : Type} (x y : α) : Bool := @decide (x = y) (Classical.propDecidable _)
theorem sq_iff {α : Type} {x y : α} : sq x y = true ↔ x = y := by unfold sq; exact @decide_eq_true_iff (x = y) (Classical.propDecidable _)
theorem sq_no {α : Type} {x y : α} (h : ¬ x = y) : sq x y = false := by
  cases hb : sq x y with
  | false => rfl
  | true => exact absurd (sq_iff.1 hb) h
theorem sq_yes {α : Type} (x : α) : sq x x = true := sq_iff.2 rfl
theorem sq_comm {α : Type} (x y : α) : sq x y = sq y x := by
  by_cases h : x = y
  · rw [h]
  · rw [sq_no h, sq_no (fun e => h e.symm)]
mutual
/-- a filter without its places -/
def noA : NT → NT
  | .mk op _ tx v ns ks => .mk op 0 tx v ns (noAs ks)
def noAs : List NT → List NT
  | [] => []
  | k :: ks => noA k :: noAs ks
end
theorem noAs_len : ∀ ks : List NT, (noAs ks).length = ks.length
  | [] => rfl
  | k :: ks => by rw [noAs, List.length_cons, List.length_cons, noAs_len ks]
theorem noAs_get : ∀ (ks : List NT) (i : Nat) (h : i < ks.length), (noAs ks)[i]? = some (noA ks[i])
  | [], i, h => absurd h (Nat.not_lt_zero _)
  | k :: ks, 0, h => rfl
  | k :: ks, i + 1, h => by
    rw [noAs]
    simpa using noAs_get ks i (by simpa using h)
theorem noAs_eq {xs ys : List NT} (hl : xs.length = ys.length) (h : ∀ i, (h1 : i < xs.length) → (h2 : i < ys.length) → noA xs[i] = noA ys[i]) : noAs xs = noAs ys := by
  apply List.ext_getElem?
  intro i
  by_cases hi : i < xs.length
  · rw [noAs_get xs i hi, noAs_get ys i (by omega), h i hi (by omega)]
  · rw [List.getElem?_eq_none (by rw [noAs_len]; omega), List.getElem?_eq_none (by rw [noAs_len]; omega)]
theorem noAs_len_eq {xs ys : List NT} (h : noAs xs = noAs ys) : xs.length = ys.length := by
  have := congrArg List.length h
  rwa [noAs_len, noAs_len] at this
theorem noAs_at {xs ys : List NT} (h : noAs xs = noAs ys) {i : Nat} (h1 : i < xs.length) (h2 : i < ys.length) : noA xs[i] = noA ys[i] := by
  have := congrArg (fun l => l[i]?) h
  simp only [noAs_get xs i h1, noAs_get ys i h2, Option.some.injEq] at this
  exact this
theorem noA_eq {A B : NT} : noA A = noA B ↔ A.op = B.op ∧ A.text = B.text ∧ A.value = B.value ∧ A.names = B.names ∧ noAs A.kids = noAs B.kids := by
  obtain ⟨a, b, c, d, e, f⟩ := A
  obtain ⟨a', b', c', d', e', f'⟩ := B
  rw [noA, noA]
  simp only [NT.mk.injEq, NT.op, NT.text, NT.value, NT.names, NT.kids, true_and]
end Go.Proofs.YtdmkfdaddacdhaaGreatDoor
namespace Go.Proofs.YtdmkfdaddacdhaaGreatDoor
open Go.RowKit Go.Shelf Go.Sort
set_option linter.unusedVariables false
set_option linter.unusedSimpArgs false
attribute [local go_sem] Oper.semAt_some

theorem takeQ_up {α : Type} {xs ys : List α} {k : Nat} (h1 : k < xs.length) (h2 : k < ys.length) (h : xs.take k = ys.take k) (e : xs[k] = ys[k]) : xs.take (k + 1) = ys.take (k + 1) := by
  rw [List.take_succ_eq_append_getElem h1, List.take_succ_eq_append_getElem h2, h, e]
theorem takeQ_no {α : Type} {xs ys : List α} {k : Nat} (h1 : k < xs.length) (h2 : k < ys.length) (e : ¬ xs[k] = ys[k]) : ¬ xs = ys := by
  rintro rfl; exact e rfl
theorem beqQ_no {x y : ByteArray} (h : (x.toList == y.toList) = false) : ¬ x = y := by rintro rfl; simp at h
theorem beqQ_yes {x y : ByteArray} (h : (x.toList == y.toList) = true) : x = y := by
  rw [Lib.toList_data, Lib.toList_data] at h
  exact ByteArray.ext (Array.toList_inj.1 (by simpa using h))
theorem getD_keyQ {l : List ByteArray} {i : Nat} (h : i < l.length) : l.getD i .empty = l[i] := by rw [List.getD_eq_getElem?_getD, List.getElem?_eq_getElem h]; rfl

set_option maxRecDepth 100000 in
set_option maxHeartbeats 3200000 in
theorem w_EqualS (ao : Option Addr) (M acap : Nat) (xs : List ByteArray) (bo : Option Addr) (N bcap : Nat) (ys : List ByteArray) (w : World) (ha : KIn w ao xs) (hb : KIn w bo ys) (hM : xs.length = M) (hN : ys.length = N) (hac : M ≤ acap) (hbc : N ≤ bcap) (hM2 : M ≤ 140737488355328) (hN2 : N ≤ 140737488355328) :
    Calls Tryz.prog 64 #[.slice ao M acap, .slice bo N bcap] w fun e w' => e = .returned (.bool (sq xs ys)) ∧ Below w.heap.size w w' := by
  have HA := Hid.mk ha
  have HB := Hid.mk hb
  have HM := Hid.mk hM
  have HN := Hid.mk hN
  clear ha hb hM hN
  obtain ⟨R, HR⟩ : ∃ R, Hid (sq xs ys = R) := ⟨_, rfl⟩
  rw [HR.out]
  by_cases hMN : M = N
  · subst hMN
    have y1 : ((M : Int) != (M : Int)) = false := by simp
    go_enter Tryz.func64, Tryz.ntmps64
    go_wp2_with fail
    go_loopw [13] (fun i wr => ∃ k : Nat, k ≤ M ∧ i = .int .i64 (k : Int) ∧ Hid (Below w.heap.size w wr) ∧ Hid (xs.take k = ys.take k)) (fun i _ => M - (intOf i).toNat)
    case atStart => exact ⟨0, Nat.zero_le _, rfl, Below.refl _ _, rfl⟩
    case round =>
      obtain ⟨k, hk, rfl, HBw, HQ⟩ := hrel
      by_cases hlt : k < M
      · have hl1 : (k : Int) < (M : Int) := by omega
        have hl0 : (0 : Int) ≤ (k : Int) := by omega
        have hkx : k < xs.length := by rw [HM.out]; exact hlt
        have hky : k < ys.length := by rw [HN.out]; exact hlt
        obtain ⟨b, off, hao, hbl, hrow⟩ := (HA.out.keep HBw.out).row (by omega)
        obtain ⟨b2, off2, hbo, hbl2, hrow2⟩ := (HB.out.keep HBw.out).row (by omega)
        subst hao
        subst hbo
        have c0 := hrow k hkx
        have d0 := hrow2 k hky
        rw [getD_keyQ hkx] at c0
        rw [getD_keyQ hky] at d0
        have HUp := Hid.mk (fun e => takeQ_up hkx hky HQ.out e)
        have HNo := Hid.mk (fun e => takeQ_no hkx hky e)
        generalize xs[k] = x at *
        generalize ys[k] = y at *
        have R0 := fun d os => cell_regrown c0 d os
        have S0 := fun d os => cell_regrown d0 d os
        clear hrow hrow2 hbl hbl2 hkx hky c0 d0
        cases hc : (x.toList == y.toList) with
        | true =>
          have HQ2 := Hid.mk (HUp.out (beqQ_yes hc))
          have hc2 : (x.toList != y.toList) = false := by simp only [bne]; rw [hc]; rfl
          clear HUp HNo
          go_wp2_with fail
          refine wp_region_quiet_below (by kernel_rfl) (by kernel_rfl) ?_
          repeat (go_big_quiet_step (fail))
          refine wpQuiet_nil ?_
          intro w2 hw'
          have HB2 : Hid (Below w.heap.size w w2) := by
            obtain ⟨⟨dq, osq⟩, rfl⟩ := hw'
            exact HBw.out.trans ((below_regrown wr dq osq).mono HBw.out.size)
          clear hw' R0 S0
          go_wp2_with fail
          go_roundw
          case rel => exact ⟨k + 1, by omega, by go_num, HB2, HQ2⟩
          case measure => simp [intOf]; omega
        | false =>
          have HT : Hid (R = false) := HR.out.symm.trans (sq_no (HNo.out (beqQ_no hc)))
          have hc2 : (x.toList != y.toList) = true := by simp only [bne]; rw [hc]; rfl
          clear HUp HNo
          go_wp2_with fail
          refine wp_region_quiet_below (by kernel_rfl) (by kernel_rfl) ?_
          repeat (go_big_quiet_step (fail))
          refine wpQuiet_nil ?_
          intro w2 hw'
          have HB2 : Hid (Below w.heap.size w w2) := by
            obtain ⟨⟨dq, osq⟩, rfl⟩ := hw'
            exact HBw.out.trans ((below_regrown wr dq osq).mono HBw.out.size)
          clear hw' R0 S0
          go_wp2_with fail
          go_ret
          exact ⟨by rw [HT.out]; rfl, HB2.out⟩
      · have hl1 : ¬ (k : Int) < (M : Int) := by omega
        have HT : Hid (R = true) := by
          have e := HQ.out
          rw [List.take_of_length_le (by rw [HM.out]; omega), List.take_of_length_le (by rw [HN.out]; omega)] at e
          exact HR.out.symm.trans (sq_iff.2 e)
        go_wp2_with fail
        go_ret
        exact ⟨by rw [HT.out]; rfl, HBw.out⟩
  · have HT : Hid (R = false) := HR.out.symm.trans (sq_no (fun e => hMN (by rw [← HM.out, ← HN.out, e])))
    have y1 : ((M : Int) != (N : Int)) = true := by simp; omega
    have y2 : ¬ (M : Int) = (N : Int) := by omega
    go_enter Tryz.func64, Tryz.ntmps64
    go_wp2_with fail
    go_ret
    exact ⟨by rw [HT.out]; rfl, Below.refl _ _⟩
end Go.Proofs.YtdmkfdaddacdhaaGreatDoor
namespace Go.Proofs.YtdmkfdaddacdhaaGreatDoor
open Go.RowKit Go.Shelf Go.Sort
set_option linter.unusedVariables false
set_option linter.unusedSimpArgs false
attribute [local go_sem] Oper.semAt_some

/-- a value stands at a place -/
def VAt (w : World) (h : Nat) (A : VT) (g o : Nat) : Prop := ∃ v0 v1 v2 v3 v4 : Value, (w.cell? ⟨g, o, none⟩ = some v0 ∧ w.cell? ⟨g, o + 1, none⟩ = some v1 ∧ w.cell? ⟨g, o + 2, none⟩ = some v2 ∧ w.cell? ⟨g, o + 3, none⟩ = some v3 ∧ w.cell? ⟨g, o + 4, none⟩ = some v4) ∧ InH w h A (.agg #[v0, v1, v2, v3, v4])
theorem VAt.keep {w w' : World} {h : Nat} {A : VT} {g o : Nat} (hv : VAt w h A g o) (hb : Below w.heap.size w w') : VAt w' h A g o := by
  obtain ⟨v0, v1, v2, v3, v4, ⟨c0, c1, c2, c3, c4⟩, hi⟩ := hv
  have hl := block_lt_of_cell c0
  have cc : ∀ k u, w.cell? ⟨g, k, none⟩ = some u → w'.cell? ⟨g, k, none⟩ = some u := fun k u h3 => (hb.cell (p := ⟨g, k, none⟩) hl).trans h3
  exact ⟨v0, v1, v2, v3, v4, ⟨cc _ _ c0, cc _ _ c1, cc _ _ c2, cc _ _ c3, cc _ _ c4⟩, hi.keep hb⟩
def AlOk (h : Nat) : Prop := ∀ (A B : VT) (ga oa gb ob : Nat) (w : World), VAt w h A ga oa → VAt w h B gb ob → Calls Tryz.prog 63 #[.pointer (some ⟨ga, oa, none⟩), .pointer (some ⟨gb, ob, none⟩)] w fun e w' => e = .returned (.bool (sq A B)) ∧ Below w.heap.size w w'

set_option maxRecDepth 100000 in
set_option maxHeartbeats 6400000 in
theorem al_step (h : Nat) (ih : AlOk h) : AlOk (h + 1) := by
  rintro ⟨ka, an, ax, aI, aK⟩ ⟨kb, bn, bx, bI, bK⟩ ga oa gb ob w ⟨a0, a1, a2, a3, a4, ⟨p0, p1, p2, p3, p4⟩, hA⟩ ⟨b0, b1, b2, b3, b4, ⟨q0, q1, q2, q3, q4⟩, hB⟩
  obtain ⟨aio, aic, ako, akc, ea, _, _, la, lk, ca, ck, _, hka, hia⟩ := hA
  obtain ⟨bio, bic, bko, bkc, eb, _, _, lb, lj, cb, cj, _, hkb, hib⟩ := hB
  simp only [Value.agg.injEq, Array.mk.injEq, List.cons.injEq, and_true] at ea eb
  obtain ⟨rfl, rfl, rfl, rfl, rfl⟩ := ea
  obtain ⟨rfl, rfl, rfl, rfl, rfl⟩ := eb
  simp only [VT.kind, VT.num, VT.text, VT.items, VT.keys] at *
  obtain ⟨R, HR⟩ : ∃ R, Hid (sq (VT.mk ka an ax aI aK) (VT.mk kb bn bx bI bK) = R) := ⟨_, rfl⟩
  rw [HR.out]
  have HK : Hid (∀ u, Below w.heap.size w u → Calls Tryz.prog 64 #[.slice ako aK.length akc, .slice bko bK.length bkc] u fun e w' => e = .returned (.bool (sq aK bK)) ∧ Below u.heap.size u w') := fun u hu => w_EqualS ako _ akc aK bko _ bkc bK u (hka.keep hu) (hkb.keep hu) rfl rfl ck cj lk lj
  have HI : Hid (∀ (k : Nat) (h1 : k < aI.length) (h2 : k < bI.length), ∃ b off b2 off2, aio = some ⟨b, off, none⟩ ∧ bio = some ⟨b2, off2, none⟩ ∧ ∀ u, Below w.heap.size w u → Calls Tryz.prog 63 #[.pointer (some ⟨b, off + k * 5, none⟩), .pointer (some ⟨b2, off2 + k * 5, none⟩)] u fun e w' => e = .returned (.bool (sq aI[k] bI[k])) ∧ Below u.heap.size u w') := fun k h1 h2 => by
    obtain ⟨b, off, e1, hl1, hr1⟩ := hia (by omega)
    obtain ⟨b2, off2, e2, hl2, hr2⟩ := hib (by omega)
    exact ⟨b, off, b2, off2, e1, e2, fun u hu => ih aI[k] bI[k] b (off + k * 5) b2 (off2 + k * 5) u (VAt.keep (hr1 k h1) hu) (VAt.keep (hr2 k h2) hu)⟩
  have P0 := fun d os => cell_regrown p0 d os
  have P1 := fun d os => cell_regrown p1 d os
  have P2 := fun d os => cell_regrown p2 d os
  have P3 := fun d os => cell_regrown p3 d os
  have P4 := fun d os => cell_regrown p4 d os
  have Q0 := fun d os => cell_regrown q0 d os
  have Q1 := fun d os => cell_regrown q1 d os
  have Q2 := fun d os => cell_regrown q2 d os
  have Q3 := fun d os => cell_regrown q3 d os
  have Q4 := fun d os => cell_regrown q4 d os
  have HKr : Hid (∀ d os, Calls Tryz.prog 64 #[.slice ako aK.length akc, .slice bko bK.length bkc] (grow (redrawn w d) os) fun e w' => e = .returned (.bool (sq aK bK)) ∧ Below (grow (redrawn w d) os).heap.size (grow (redrawn w d) os) w') := fun d os => HK.out _ (below_regrown w d os)
  have HM : Hid (aI.length ≤ aic ∧ bI.length ≤ bic ∧ aI.length ≤ 140737488355328 ∧ bI.length ≤ 140737488355328) := ⟨ca, cb, la, lb⟩
  have HP : Hid ((w.cell? ⟨ga, oa + 3, none⟩ = some (.slice aio aI.length aic)) ∧ (w.cell? ⟨gb, ob + 3, none⟩ = some (.slice bio bI.length bic))) := ⟨p3, q3⟩
  clear hka hia hkb hib HK la lk ca ck lb lj cb cj p0 p1 p2 p3 p4 q0 q1 q2 q3 q4
  by_cases hk : ka = kb
  rotate_left
  · have HT : Hid (R = false) := HR.out.symm.trans (sq_no (fun e => hk (VT.mk.inj e).1))
    have g1 : (ka != kb) = true := by simpa using hk
    go_enter Tryz.func63, Tryz.ntmps63
    go_wp2_with fail
    refine wp_region_quiet_below (by kernel_rfl) (by kernel_rfl) ?_
    repeat (go_big_quiet_step (exact Calls.regrown_of (HKr.out _ _)))
    refine wpQuiet_nil ?_
    intro w2 hw'
    have HB2 : Hid (Below w.heap.size w w2) := by
      obtain ⟨⟨dq, osq⟩, rfl⟩ := hw'
      exact below_regrown w dq osq
    clear hw' P0 P1 P2 P3 P4 Q0 Q1 Q2 Q3 Q4
    go_wp2_with fail
    go_ret
    exact ⟨by rw [HT.out]; rfl, HB2.out⟩
  subst hk
  have g1 : (ka != ka) = false := by simp
  by_cases hn : an = bn
  rotate_left
  · have HT : Hid (R = false) := HR.out.symm.trans (sq_no (fun e => hn (VT.mk.inj e).2.1))
    have g2 : (an.toList == bn.toList) = false := by cases hc : (an.toList == bn.toList) with
      | true => exact absurd (beqQ_yes hc) hn
      | false => rfl
    have g2x : (an.toList != bn.toList) = true := by simp only [bne]; rw [g2]; rfl
    go_enter Tryz.func63, Tryz.ntmps63
    go_wp2_with fail
    refine wp_region_quiet_below (by kernel_rfl) (by kernel_rfl) ?_
    repeat (go_big_quiet_step (exact Calls.regrown_of (HKr.out _ _)))
    refine wpQuiet_nil ?_
    intro w2 hw'
    have HB2 : Hid (Below w.heap.size w w2) := by
      obtain ⟨⟨dq, osq⟩, rfl⟩ := hw'
      exact below_regrown w dq osq
    clear hw' P0 P1 P2 P3 P4 Q0 Q1 Q2 Q3 Q4
    go_wp2_with fail
    go_ret
    exact ⟨by rw [HT.out]; rfl, HB2.out⟩
  subst hn
  have g2 : (an.toList != an.toList) = false := by simp
  by_cases hx : ax = bx
  rotate_left
  · have HT : Hid (R = false) := HR.out.symm.trans (sq_no (fun e => hx (VT.mk.inj e).2.2.1))
    have g3 : (ax.toList == bx.toList) = false := by cases hc : (ax.toList == bx.toList) with
      | true => exact absurd (beqQ_yes hc) hx
      | false => rfl
    have g3x : (ax.toList != bx.toList) = true := by simp only [bne]; rw [g3]; rfl
    go_enter Tryz.func63, Tryz.ntmps63
    go_wp2_with fail
    refine wp_region_quiet_below (by kernel_rfl) (by kernel_rfl) ?_
    repeat (go_big_quiet_step (exact Calls.regrown_of (HKr.out _ _)))
    refine wpQuiet_nil ?_
    intro w2 hw'
    have HB2 : Hid (Below w.heap.size w w2) := by
      obtain ⟨⟨dq, osq⟩, rfl⟩ := hw'
      exact below_regrown w dq osq
    clear hw' P0 P1 P2 P3 P4 Q0 Q1 Q2 Q3 Q4
    go_wp2_with fail
    go_ret
    exact ⟨by rw [HT.out]; rfl, HB2.out⟩
  subst hx
  have g3 : (ax.toList != ax.toList) = false := by simp
  by_cases hy : aK = bK
  rotate_left
  · have HT : Hid (R = false) := HR.out.symm.trans (sq_no (fun e => hy (VT.mk.inj e).2.2.2.2))
    rw [sq_no hy] at HKr
    go_enter Tryz.func63, Tryz.ntmps63
    go_wp2_with fail
    refine wp_region_quiet_below (by kernel_rfl) (by kernel_rfl) ?_
    repeat (go_big_quiet_step (exact Calls.regrown_of (HKr.out _ _)))
    refine wpQuiet_nil ?_
    intro w2 hw'
    have HB2 : Hid (Below w.heap.size w w2) := by
      obtain ⟨⟨dq, osq⟩, rfl⟩ := hw'
      exact below_regrown w dq osq
    clear hw' P0 P1 P2 P3 P4 Q0 Q1 Q2 Q3 Q4
    go_wp2_with fail
    go_ret
    exact ⟨by rw [HT.out]; rfl, HB2.out⟩
  rw [sq_iff.2 hy] at HKr
  have HY := Hid.mk hy
  clear hy
  by_cases hl : aI.length = bI.length
  rotate_left
  · have HT : Hid (R = false) := HR.out.symm.trans (sq_no (fun e => hl (congrArg List.length (VT.mk.inj e).2.2.2.1)))
    have g4 : ((aI.length : Int) != (bI.length : Int)) = true := by simp; omega
    go_enter Tryz.func63, Tryz.ntmps63
    go_wp2_with fail
    refine wp_region_quiet_below (by kernel_rfl) (by kernel_rfl) ?_
    repeat (go_big_quiet_step (exact Calls.regrown_of (HKr.out _ _)))
    refine wpQuiet_nil ?_
    intro w2 hw'
    have HB2 : Hid (Below w.heap.size w w2) := by
      obtain ⟨⟨dq, osq⟩, rfl⟩ := hw'
      exact below_regrown w dq osq
    clear hw' P0 P1 P2 P3 P4 Q0 Q1 Q2 Q3 Q4
    go_wp2_with fail
    go_ret
    exact ⟨by rw [HT.out]; rfl, HB2.out⟩
  have HL := Hid.mk hl
  obtain ⟨N, hN⟩ : ∃ N, N = aI.length := ⟨_, rfl⟩
  have hN2 : N = bI.length := hN.trans hl
  rw [← hN] at HP HM
  rw [← hN2] at HP HM
  simp only [← hN, ← hN2] at P3 Q3
  have g4 : ((N : Int) != (N : Int)) = false := by simp
  have HN := Hid.mk (And.intro hN hN2)
  have hcap := HM.out.1
  have hcap2 := HM.out.2.1
  have hbig := HM.out.2.2.1
  clear hl hN hN2
  go_enter Tryz.func63, Tryz.ntmps63
  go_wp2_with fail
  refine wp_region_quiet_below (by kernel_rfl) (by kernel_rfl) ?_
  repeat (go_big_quiet_step (exact Calls.regrown_of (HKr.out _ _)))
  refine wpQuiet_nil ?_
  intro w2 hw'
  have HB2 : Hid (Below w.heap.size w w2) := by
    obtain ⟨⟨dq, osq⟩, rfl⟩ := hw'
    exact below_regrown w dq osq
  clear hw' P0 P1 P2 P3 P4 Q0 Q1 Q2 Q3 Q4
  have r3 := (HB2.out.cell (p := ⟨ga, oa + 3, none⟩) (block_lt_of_cell HP.out.1)).trans HP.out.1
  go_wp2_with fail
  clear r3
  go_loopw [67] (fun i wr => ∃ k : Nat, k ≤ N ∧ i = .int .i64 (k : Int) ∧ Hid (Below w.heap.size w wr) ∧ Hid (aI.take k = bI.take k)) (fun i _ => N - (intOf i).toNat)
  case atStart => exact ⟨0, Nat.zero_le _, rfl, HB2, rfl⟩
  case round =>
    obtain ⟨k, hk, rfl, HBw, HQ⟩ := hrel
    by_cases hlt : k < N
    · have hl1 : (k : Int) < (N : Int) := by omega
      have hl0 : (0 : Int) ≤ (k : Int) := by omega
      have hkx : k < aI.length := by rw [← HN.out.1]; exact hlt
      have hky : k < bI.length := by rw [← HN.out.2]; exact hlt
      obtain ⟨b, off, b2, off2, e1, e2, HCk⟩ := HI.out k hkx hky
      have t3 := (HBw.out.cell (p := ⟨ga, oa + 3, none⟩) (block_lt_of_cell HP.out.1)).trans HP.out.1
      have u3 := (HBw.out.cell (p := ⟨gb, ob + 3, none⟩) (block_lt_of_cell HP.out.2)).trans HP.out.2
      rw [e1] at t3
      rw [e2] at u3
      have T3 := fun d os => cell_regrown t3 d os
      have U3 := fun d os => cell_regrown u3 d os
      have HCr : Hid (∀ d os, Calls Tryz.prog 63 #[.pointer (some ⟨b, off + k * 5, none⟩), .pointer (some ⟨b2, off2 + k * 5, none⟩)] (grow (redrawn wr d) os) fun e w' => e = .returned (.bool (sq aI[k] bI[k])) ∧ Below (grow (redrawn wr d) os).heap.size (grow (redrawn wr d) os) w') := fun d os => HCk _ (HBw.out.trans ((below_regrown wr d os).mono HBw.out.size))
      have HUp := Hid.mk (fun e => takeQ_up hkx hky HQ.out e)
      have HNo := Hid.mk (fun e => takeQ_no hkx hky e)
      clear e1 e2 t3 u3 HCk
      by_cases he : aI[k] = bI[k]
      · have HQ2 := Hid.mk (HUp.out he)
        rw [sq_iff.2 he] at HCr
        clear HUp HNo he hkx hky
        go_wp2_with fail
        refine wp_region_quiet_below (by kernel_rfl) (by kernel_rfl) ?_
        repeat (go_big_quiet_step (exact Calls.regrown_of (HCr.out _ _)))
        refine wpQuiet_nil ?_
        intro w3 hw'
        have HB3 : Hid (Below w.heap.size w w3) := by
          obtain ⟨⟨dq, osq⟩, rfl⟩ := hw'
          exact HBw.out.trans ((below_regrown wr dq osq).mono HBw.out.size)
        clear hw' T3 U3
        go_wp2_with fail
        go_roundw
        case rel => exact ⟨k + 1, by omega, by go_num, HB3, HQ2⟩
        case measure => simp [intOf]; omega
      · have HT : Hid (R = false) := HR.out.symm.trans (sq_no (fun e => HNo.out he (VT.mk.inj e).2.2.2.1))
        rw [sq_no he] at HCr
        clear HUp HNo he hkx hky
        go_wp2_with fail
        refine wp_region_quiet_below (by kernel_rfl) (by kernel_rfl) ?_
        repeat (go_big_quiet_step (exact Calls.regrown_of (HCr.out _ _)))
        refine wpQuiet_nil ?_
        intro w3 hw'
        have HB3 : Hid (Below w.heap.size w w3) := by
          obtain ⟨⟨dq, osq⟩, rfl⟩ := hw'
          exact HBw.out.trans ((below_regrown wr dq osq).mono HBw.out.size)
        clear hw' T3 U3
        go_wp2_with fail
        go_ret
        exact ⟨by rw [HT.out]; rfl, HB3.out⟩
    · have hl1 : ¬ (k : Int) < (N : Int) := by omega
      have HT : Hid (R = true) := by
        have e := HQ.out
        rw [List.take_of_length_le (by rw [← HN.out.1]; omega), List.take_of_length_le (by rw [← HN.out.2]; omega)] at e
        refine HR.out.symm.trans (sq_iff.2 ?_)
        rw [e, HY.out]
      go_wp2_with fail
      go_ret
      exact ⟨by rw [HT.out]; rfl, HBw.out⟩
theorem w_alike : ∀ h, AlOk h
  | 0 => fun _ _ _ _ _ _ _ ⟨_, _, _, _, _, _, hA⟩ _ => hA.elim
  | h + 1 => al_step h (w_alike h)
end Go.Proofs.YtdmkfdaddacdhaaGreatDoor
namespace Go.Proofs.YtdmkfdaddacdhaaGreatDoor
open Go.RowKit Go.Shelf Go.Sort
set_option linter.unusedVariables false
set_option linter.unusedSimpArgs false
attribute [local go_sem] Oper.semAt_some

abbrev InA (w : World) (h : Nat) (A : NT) (v : Value) : Prop := InN (fun _ => True) w h A v
theorem InN.low {w w' : World} {h : Nat} {A : NT} {v : Value} (hv : InA w h A v) (hb : Below w.heap.size w w') : InA w' h A v := hv.keep hb.size (fun b _ hl => hb.block b hl) (fun _ _ _ => trivial)
/-- a part stands at a place -/
def NAt (w : World) (h : Nat) (A : NT) (g o : Nat) : Prop := ∃ c : Fin 10 → Value, (∀ j : Fin 10, w.cell? ⟨g, o + j.1, none⟩ = some (c j)) ∧ InA w h A (ndV c)
theorem NAt.keep {w w' : World} {h : Nat} {A : NT} {g o : Nat} (hv : NAt w h A g o) (hb : Below w.heap.size w w') : NAt w' h A g o := by
  obtain ⟨c, hc, hi⟩ := hv
  have hl := block_lt_of_cell (hc 0)
  exact ⟨c, fun j => (hb.cell (p := ⟨g, o + j.1, none⟩) hl).trans (hc j), hi.low hb⟩
/-- a part's parts: its cells, its value, its names, its kids -/
structure NPt (w : World) (h : Nat) (A : NT) (g o : Nat) (io : Option Addr) (ic : Nat) (yo : Option Addr) (yc : Nat) (no : Option Addr) (nc : Nat) (ko : Option Addr) (kc : Nat) : Prop where
  c0 : w.cell? ⟨g, o, none⟩ = some (.int .i64 A.op)
  c1 : w.cell? ⟨g, o + 1, none⟩ = some (.int .i64 A.at_)
  c2 : w.cell? ⟨g, o + 2, none⟩ = some (.string A.text)
  c3 : w.cell? ⟨g, o + 3, none⟩ = some (.int .i64 A.value.kind)
  c4 : w.cell? ⟨g, o + 4, none⟩ = some (.string A.value.num)
  c5 : w.cell? ⟨g, o + 5, none⟩ = some (.string A.value.text)
  c6 : w.cell? ⟨g, o + 6, none⟩ = some (.slice io A.value.items.length ic)
  c7 : w.cell? ⟨g, o + 7, none⟩ = some (.slice yo A.value.keys.length yc)
  c8 : w.cell? ⟨g, o + 8, none⟩ = some (.slice no A.names.length nc)
  c9 : w.cell? ⟨g, o + 9, none⟩ = some (.slice ko A.kids.length kc)
  tx : A.text.size ≤ 140737488355328
  val : VAt w (h + 1) A.value g (o + 3)
  nl : A.names.length ≤ nc ∧ A.names.length ≤ 140737488355328 ∧ ∀ k ∈ A.names, k.size ≤ 140737488355328
  names : KIn w no A.names
  kl : A.kids.length ≤ kc ∧ A.kids.length ≤ 140737488355328
  kids : 0 < A.kids.length → ∃ b off, ko = some ⟨b, off, none⟩ ∧ ∀ i, (hi : i < A.kids.length) → NAt w h A.kids[i] b (off + i * 10)
theorem NAt.open_ {w : World} {h : Nat} {A : NT} {g o : Nat} (hv : NAt w (h + 1) A g o) : ∃ io ic yo yc no nc ko kc, NPt w h A g o io ic yo yc no nc ko kc := by
  obtain ⟨c, hc, io, ic, yo, yc, no, nc, ko, kc, e, a1, a2, a3, a4, hn, hk⟩ := hv
  unfold ndV at e
  simp only [Value.agg.injEq, Array.mk.injEq, List.cons.injEq, and_true] at e
  obtain ⟨e0, e1, e2, e3, e4, e5, e6, e7, e8, e9⟩ := e
  have d : ∀ j v, c j = v → w.cell? ⟨g, o + j.1, none⟩ = some v := fun j v h => h ▸ hc j
  refine ⟨io, ic, yo, yc, no, nc, ko, kc, d 0 _ e0, d 1 _ e1, d 2 _ e2, d 3 _ e3, d 4 _ e4, d 5 _ e5, d 6 _ e6, d 7 _ e7, d 8 _ e8, d 9 _ e9, a1, ⟨_, _, _, _, _, ⟨d 3 _ e3, d 4 _ e4, d 5 _ e5, d 6 _ e6, d 7 _ e7⟩, a2.toH⟩, a3, ⟨fun h0 => ?_⟩, a4, fun h0 => ?_⟩
  · obtain ⟨b, off, e, _, hl, hc⟩ := hn h0
    exact ⟨b, off, e, hl, hc⟩
  · obtain ⟨b, off, e, _, hl, hc⟩ := hk h0
    exact ⟨b, off, e, fun i hi => hc i hi⟩
def SmOk (h : Nat) : Prop := ∀ (A B : NT) (ga oa gb ob : Nat) (w : World), NAt w h A ga oa → NAt w h B gb ob → Calls Tryz.prog 34 #[.pointer (some ⟨ga, oa, none⟩), .pointer (some ⟨gb, ob, none⟩)] w fun e w' => e = .returned (.bool (sq (noA A) (noA B))) ∧ Below w.heap.size w w'

set_option maxRecDepth 100000 in
set_option maxHeartbeats 6400000 in
theorem sm_step (h : Nat) (ih : SmOk h) : SmOk (h + 1) := by
  rintro A B ga oa gb ob w hA hB
  obtain ⟨aio, aic, ayo, ayc, ano, anc, ako, akc, HA⟩ := hA.open_
  obtain ⟨bio, bic, byo, byc, bno, bnc, bko, bkc, HB⟩ := hB.open_
  obtain ⟨R, HR⟩ : ∃ R, Hid (sq (noA A) (noA B) = R) := ⟨_, rfl⟩
  rw [HR.out]
  have HEq : Hid (noA A = noA B ↔ A.op = B.op ∧ A.text = B.text ∧ A.value = B.value ∧ A.names = B.names ∧ noAs A.kids = noAs B.kids) := noA_eq
  have HVr : Hid (∀ d os, Calls Tryz.prog 63 #[.pointer (some ⟨ga, oa + 3, none⟩), .pointer (some ⟨gb, ob + 3, none⟩)] (grow (redrawn w d) os) fun e w' => e = .returned (.bool (sq A.value B.value)) ∧ Below (grow (redrawn w d) os).heap.size (grow (redrawn w d) os) w') := fun d os => w_alike (h + 1) _ _ _ _ _ _ _ (HA.val.keep (below_regrown w d os)) (HB.val.keep (below_regrown w d os))
  have HKr : Hid (∀ d os, Calls Tryz.prog 64 #[.slice ano A.names.length anc, .slice bno B.names.length bnc] (grow (redrawn w d) os) fun e w' => e = .returned (.bool (sq A.names B.names)) ∧ Below (grow (redrawn w d) os).heap.size (grow (redrawn w d) os) w') := fun d os => w_EqualS ano _ anc A.names bno _ bnc B.names _ (HA.names.keep (below_regrown w d os)) (HB.names.keep (below_regrown w d os)) rfl rfl HA.nl.1 HB.nl.1 HA.nl.2.1 HB.nl.2.1
  have HI : Hid (∀ (k : Nat) (h1 : k < A.kids.length) (h2 : k < B.kids.length), ∃ b off b2 off2, ako = some ⟨b, off, none⟩ ∧ bko = some ⟨b2, off2, none⟩ ∧ ∀ u, Below w.heap.size w u → Calls Tryz.prog 34 #[.pointer (some ⟨b, off + k * 10, none⟩), .pointer (some ⟨b2, off2 + k * 10, none⟩)] u fun e w' => e = .returned (.bool (sq (noA A.kids[k]) (noA B.kids[k]))) ∧ Below u.heap.size u w') := fun k h1 h2 => by
    obtain ⟨b, off, e1, hr1⟩ := HA.kids (by omega)
    obtain ⟨b2, off2, e2, hr2⟩ := HB.kids (by omega)
    exact ⟨b, off, b2, off2, e1, e2, fun u hu => ih _ _ b (off + k * 10) b2 (off2 + k * 10) u (NAt.keep (hr1 k h1) hu) (NAt.keep (hr2 k h2) hu)⟩
  have P0 := fun d os => cell_regrown HA.c0 d os
  have P2 := fun d os => cell_regrown HA.c2 d os
  have P8 := fun d os => cell_regrown HA.c8 d os
  have P9 := fun d os => cell_regrown HA.c9 d os
  have Q0 := fun d os => cell_regrown HB.c0 d os
  have Q2 := fun d os => cell_regrown HB.c2 d os
  have Q8 := fun d os => cell_regrown HB.c8 d os
  have Q9 := fun d os => cell_regrown HB.c9 d os
  have HM : Hid (A.kids.length ≤ akc ∧ B.kids.length ≤ bkc ∧ A.kids.length ≤ 140737488355328 ∧ B.kids.length ≤ 140737488355328) := ⟨HA.kl.1, HB.kl.1, HA.kl.2, HB.kl.2⟩
  have HP : Hid ((w.cell? ⟨ga, oa + 9, none⟩ = some (.slice ako A.kids.length akc)) ∧ (w.cell? ⟨gb, ob + 9, none⟩ = some (.slice bko B.kids.length bkc))) := ⟨HA.c9, HB.c9⟩
  clear HA HB hA hB
  obtain ⟨aop, aat, atx, aV, aN, aI⟩ := A
  obtain ⟨bop, bat, btx, bV, bN, bI⟩ := B
  simp only [NT.op, NT.text, NT.value, NT.names, NT.kids] at *
  by_cases hk : aop = bop
  rotate_left
  · have HT : Hid (R = false) := HR.out.symm.trans (sq_no (fun e => hk (HEq.out.1 e).1))
    have g1 : (aop != bop) = true := by simpa using hk
    go_enter Tryz.func34, Tryz.ntmps34
    go_wp2_with fail
    refine wp_region_quiet_below (by kernel_rfl) (by kernel_rfl) ?_
    repeat (go_big_quiet_step (first | exact Calls.regrown_of (HVr.out _ _) | exact Calls.regrown_of (HKr.out _ _)))
    refine wpQuiet_nil ?_
    intro w2 hw'
    have HB2 : Hid (Below w.heap.size w w2) := by
      obtain ⟨⟨dq, osq⟩, rfl⟩ := hw'
      exact below_regrown w dq osq
    clear hw' P0 P2 P8 P9 Q0 Q2 Q8 Q9
    go_wp2_with fail
    go_ret
    exact ⟨by rw [HT.out]; rfl, HB2.out⟩
  subst hk
  have g1 : (aop != aop) = false := by simp
  by_cases hx : atx = btx
  rotate_left
  · have HT : Hid (R = false) := HR.out.symm.trans (sq_no (fun e => hx (HEq.out.1 e).2.1))
    have g3 : (atx.toList == btx.toList) = false := by cases hc : (atx.toList == btx.toList) with
      | true => exact absurd (beqQ_yes hc) hx
      | false => rfl
    have g3x : (atx.toList != btx.toList) = true := by simp only [bne]; rw [g3]; rfl
    go_enter Tryz.func34, Tryz.ntmps34
    go_wp2_with fail
    refine wp_region_quiet_below (by kernel_rfl) (by kernel_rfl) ?_
    repeat (go_big_quiet_step (first | exact Calls.regrown_of (HVr.out _ _) | exact Calls.regrown_of (HKr.out _ _)))
    refine wpQuiet_nil ?_
    intro w2 hw'
    have HB2 : Hid (Below w.heap.size w w2) := by
      obtain ⟨⟨dq, osq⟩, rfl⟩ := hw'
      exact below_regrown w dq osq
    clear hw' P0 P2 P8 P9 Q0 Q2 Q8 Q9
    go_wp2_with fail
    go_ret
    exact ⟨by rw [HT.out]; rfl, HB2.out⟩
  subst hx
  have g3 : (atx.toList != atx.toList) = false := by simp
  by_cases hv : aV = bV
  rotate_left
  · have HT : Hid (R = false) := HR.out.symm.trans (sq_no (fun e => hv (HEq.out.1 e).2.2.1))
    rw [sq_no hv] at HVr
    go_enter Tryz.func34, Tryz.ntmps34
    go_wp2_with fail
    refine wp_region_quiet_below (by kernel_rfl) (by kernel_rfl) ?_
    repeat (go_big_quiet_step (first | exact Calls.regrown_of (HVr.out _ _) | exact Calls.regrown_of (HKr.out _ _)))
    refine wpQuiet_nil ?_
    intro w2 hw'
    have HB2 : Hid (Below w.heap.size w w2) := by
      obtain ⟨⟨dq, osq⟩, rfl⟩ := hw'
      exact below_regrown w dq osq
    clear hw' P0 P2 P8 P9 Q0 Q2 Q8 Q9
    go_wp2_with fail
    go_ret
    exact ⟨by rw [HT.out]; rfl, HB2.out⟩
  rw [sq_iff.2 hv] at HVr
  have HV := Hid.mk hv
  clear hv
  by_cases hy : aN = bN
  rotate_left
  · have HT : Hid (R = false) := HR.out.symm.trans (sq_no (fun e => hy (HEq.out.1 e).2.2.2.1))
    rw [sq_no hy] at HKr
    go_enter Tryz.func34, Tryz.ntmps34
    go_wp2_with fail
    refine wp_region_quiet_below (by kernel_rfl) (by kernel_rfl) ?_
    repeat (go_big_quiet_step (first | exact Calls.regrown_of (HVr.out _ _) | exact Calls.regrown_of (HKr.out _ _)))
    refine wpQuiet_nil ?_
    intro w2 hw'
    have HB2 : Hid (Below w.heap.size w w2) := by
      obtain ⟨⟨dq, osq⟩, rfl⟩ := hw'
      exact below_regrown w dq osq
    clear hw' P0 P2 P8 P9 Q0 Q2 Q8 Q9
    go_wp2_with fail
    go_ret
    exact ⟨by rw [HT.out]; rfl, HB2.out⟩
  rw [sq_iff.2 hy] at HKr
  have HY := Hid.mk hy
  clear hy
  by_cases hl : aI.length = bI.length
  rotate_left
  · have HT : Hid (R = false) := HR.out.symm.trans (sq_no (fun e => hl (noAs_len_eq (HEq.out.1 e).2.2.2.2)))
    have g4 : ((aI.length : Int) != (bI.length : Int)) = true := by simp; omega
    go_enter Tryz.func34, Tryz.ntmps34
    go_wp2_with fail
    refine wp_region_quiet_below (by kernel_rfl) (by kernel_rfl) ?_
    repeat (go_big_quiet_step (first | exact Calls.regrown_of (HVr.out _ _) | exact Calls.regrown_of (HKr.out _ _)))
    refine wpQuiet_nil ?_
    intro w2 hw'
    have HB2 : Hid (Below w.heap.size w w2) := by
      obtain ⟨⟨dq, osq⟩, rfl⟩ := hw'
      exact below_regrown w dq osq
    clear hw' P0 P2 P8 P9 Q0 Q2 Q8 Q9
    go_wp2_with fail
    go_ret
    exact ⟨by rw [HT.out]; rfl, HB2.out⟩
  have HL := Hid.mk hl
  obtain ⟨N, hN⟩ : ∃ N, N = aI.length := ⟨_, rfl⟩
  have hN2 : N = bI.length := hN.trans hl
  rw [← hN] at HP HM
  rw [← hN2] at HP HM
  simp only [← hN, ← hN2] at P9 Q9
  have g4 : ((N : Int) != (N : Int)) = false := by simp
  have HN := Hid.mk (And.intro hN hN2)
  have hcap := HM.out.1
  have hcap2 := HM.out.2.1
  have hbig := HM.out.2.2.1
  clear hl hN hN2
  go_enter Tryz.func34, Tryz.ntmps34
  go_wp2_with fail
  refine wp_region_quiet_below (by kernel_rfl) (by kernel_rfl) ?_
  repeat (go_big_quiet_step (first | exact Calls.regrown_of (HVr.out _ _) | exact Calls.regrown_of (HKr.out _ _)))
  refine wpQuiet_nil ?_
  intro w2 hw'
  have HB2 : Hid (Below w.heap.size w w2) := by
    obtain ⟨⟨dq, osq⟩, rfl⟩ := hw'
    exact below_regrown w dq osq
  clear hw' P0 P2 P8 P9 Q0 Q2 Q8 Q9
  have r3 := (HB2.out.cell (p := ⟨ga, oa + 9, none⟩) (block_lt_of_cell HP.out.1)).trans HP.out.1
  go_wp2_with fail
  clear r3
  go_loopw [66] (fun i wr => ∃ k : Nat, k ≤ N ∧ i = .int .i64 (k : Int) ∧ Hid (Below w.heap.size w wr) ∧ Hid (∀ i, (h1 : i < aI.length) → (h2 : i < bI.length) → i < k → noA aI[i] = noA bI[i])) (fun i _ => N - (intOf i).toNat)
  case atStart => exact ⟨0, Nat.zero_le _, rfl, HB2, fun i _ _ hi => absurd hi (Nat.not_lt_zero _)⟩
  case round =>
    obtain ⟨k, hk, rfl, HBw, HQ⟩ := hrel
    by_cases hlt : k < N
    · have hl1 : (k : Int) < (N : Int) := by omega
      have hl0 : (0 : Int) ≤ (k : Int) := by omega
      have hkx : k < aI.length := by rw [← HN.out.1]; exact hlt
      have hky : k < bI.length := by rw [← HN.out.2]; exact hlt
      obtain ⟨b, off, b2, off2, e1, e2, HCk⟩ := HI.out k hkx hky
      have t3 := (HBw.out.cell (p := ⟨ga, oa + 9, none⟩) (block_lt_of_cell HP.out.1)).trans HP.out.1
      have u3 := (HBw.out.cell (p := ⟨gb, ob + 9, none⟩) (block_lt_of_cell HP.out.2)).trans HP.out.2
      rw [e1] at t3
      rw [e2] at u3
      have T3 := fun d os => cell_regrown t3 d os
      have U3 := fun d os => cell_regrown u3 d os
      have HCr : Hid (∀ d os, Calls Tryz.prog 34 #[.pointer (some ⟨b, off + k * 10, none⟩), .pointer (some ⟨b2, off2 + k * 10, none⟩)] (grow (redrawn wr d) os) fun e w' => e = .returned (.bool (sq (noA aI[k]) (noA bI[k]))) ∧ Below (grow (redrawn wr d) os).heap.size (grow (redrawn wr d) os) w') := fun d os => HCk _ (HBw.out.trans ((below_regrown wr d os).mono HBw.out.size))
      have HNo := Hid.mk (fun (e : noAs aI = noAs bI) => noAs_at e hkx hky)
      clear e1 e2 t3 u3 HCk
      by_cases he : noA aI[k] = noA bI[k]
      · have HQ2 : Hid (∀ i, (h1 : i < aI.length) → (h2 : i < bI.length) → i < k + 1 → noA aI[i] = noA bI[i]) := fun i h1 h2 hi => by
          by_cases e : i = k
          · subst e; exact he
          · exact HQ.out i h1 h2 (by omega)
        rw [sq_iff.2 he] at HCr
        clear HNo he hkx hky
        go_wp2_with fail
        refine wp_region_quiet_below (by kernel_rfl) (by kernel_rfl) ?_
        repeat (go_big_quiet_step (exact Calls.regrown_of (HCr.out _ _)))
        refine wpQuiet_nil ?_
        intro w3 hw'
        have HB3 : Hid (Below w.heap.size w w3) := by
          obtain ⟨⟨dq, osq⟩, rfl⟩ := hw'
          exact HBw.out.trans ((below_regrown wr dq osq).mono HBw.out.size)
        clear hw' T3 U3
        go_wp2_with fail
        go_roundw
        case rel => exact ⟨k + 1, by omega, by go_num, HB3, HQ2⟩
        case measure => simp [intOf]; omega
      · have HT : Hid (R = false) := HR.out.symm.trans (sq_no (fun e => he (HNo.out (HEq.out.1 e).2.2.2.2)))
        rw [sq_no he] at HCr
        clear HNo he hkx hky
        go_wp2_with fail
        refine wp_region_quiet_below (by kernel_rfl) (by kernel_rfl) ?_
        repeat (go_big_quiet_step (exact Calls.regrown_of (HCr.out _ _)))
        refine wpQuiet_nil ?_
        intro w3 hw'
        have HB3 : Hid (Below w.heap.size w w3) := by
          obtain ⟨⟨dq, osq⟩, rfl⟩ := hw'
          exact HBw.out.trans ((below_regrown wr dq osq).mono HBw.out.size)
        clear hw' T3 U3
        go_wp2_with fail
        go_ret
        exact ⟨by rw [HT.out]; rfl, HB3.out⟩
    · have hl1 : ¬ (k : Int) < (N : Int) := by omega
      have HT : Hid (R = true) := HR.out.symm.trans (sq_iff.2 (HEq.out.2 ⟨by first | rfl | trivial, by first | rfl | trivial, HV.out, HY.out, noAs_eq HL.out (fun i h1 h2 => HQ.out i h1 h2 (by rw [← HN.out.1] at h1; omega))⟩))
      go_wp2_with fail
      go_ret
      exact ⟨by rw [HT.out]; rfl, HBw.out⟩
theorem w_same : ∀ h, SmOk h
  | 0 => fun _ _ _ _ _ _ _ ⟨_, _, hA⟩ _ => hA.elim
  | h + 1 => sm_step h (w_same h)
end Go.Proofs.YtdmkfdaddacdhaaGreatDoor
namespace Go.Proofs.YtdmkfdaddacdhaaGreatDoor
open Go.ChangeShapes Go.WideShapes Go.RowKit
set_option linter.unusedVariables false

theorem g_laidOut : laidOutB Tryz.prog = true := by kernel_rfl
theorem g_cells9 : Tryz.prog.cellsOf 9 = 1 := by kernel_rfl
theorem g_cells3 : Tryz.prog.cellsOf 3 = 1 := by kernel_rfl
theorem g_cellsV : Tryz.prog.cellsOf 25 = 5 := by kernel_rfl
theorem g_cellsVs : Tryz.prog.cellsOf 22 = 1 := by kernel_rfl
theorem g_cellsSs : Tryz.prog.cellsOf 23 = 1 := by kernel_rfl

section
variable {H : Type} {enc : TypeId × Value → H} {W : World}

/-- all the strings and rows that a reading meets are within reach -/
def WtOk (l : List Nat) : Prop := ∀ x ∈ l, x ≤ 140737488355328

theorem keys_open {fuel : Nat} {cs : List Value} {x : DataW H × List MemPlace} (h : DataW.trod enc Tryz.prog W 0 (fun _ => true) true fuel 23 cs = some x) :
    ∃ (ko : Option Addr) (kcap : Nat) (keys : List ByteArray) (D : Nat → DataW H) (sp : List (DataW H)), cs = [.slice ko keys.length kcap] ∧ keys.length ≤ kcap ∧ KIn W ko keys ∧ (x.1 = .nil ∧ keys = [] ∨ x.1 = .slice ((List.range keys.length).map D) sp ∧ ∀ i, i < keys.length → D i = .lit (.string (keys.getD i .empty).data.toList)) := by
  rcases Go.Deep.open_slice1 Tryz.underlying23 g_cells9 h with ⟨rfl, rfl⟩ | ⟨a, len, cap, m, n, V, D, Pl, rfl, hb, hl, hm, hmm, rfl, hx⟩
  · exact ⟨none, 0, [], fun _ => .nil, [], rfl, Nat.le_refl _, ⟨fun h => by cases h⟩, .inl ⟨rfl, rfl⟩⟩
  · have hmc : m = cap := by simpa using hmm
    obtain ⟨s, hs⟩ := Go.Deep.choose_lt (α := ByteArray) (n := len) (p := fun i s => W.cell? (a.add i) = some (.string s) ∧ D i = .lit (.string s.data.toList)) (fun i hi => by
      obtain ⟨h1, h2⟩ := hx i (by omega)
      obtain ⟨s, hs, hd, _⟩ := DataW.trod_string Tryz.underlying9 h2
      have : V i = .string s := by simpa using hs
      rw [this] at h1
      exact ⟨s, h1, congrArg Prod.fst hd⟩)
    have hg : ∀ i, i < len → ((List.range len).map s).getD i ByteArray.empty = s i := fun i hi => by simp [List.getD, hi]
    refine ⟨some a, cap, (List.range len).map s, D, (List.range (m - len)).map fun j => D (len + j), by simp, by simpa using hl, ⟨fun hp => ?_⟩, .inr ⟨by simp, fun i hi => ?_⟩⟩
    · have hp' : 0 < len := by simpa using hp
      have h0 := (hs 0 hp').1
      obtain ⟨b, off, spot⟩ := a
      have hspot : spot = none := by simpa [Addr.add] using World.cell?_spot h0
      subst hspot
      refine ⟨b, off, rfl, ?_, fun i hi => ?_⟩
      · have := World.block_lt_of_cell? W _ h0
        simpa [Addr.add] using this
      · have hi' : i < len := by simpa using hi
        rw [hg i hi', ← Go.WideShapes.add_plain]; exact (hs i hi').1
    · have hi' : i < len := by simpa using hi
      rw [hg i hi']; exact (hs i hi').2
end
end Go.Proofs.YtdmkfdaddacdhaaGreatDoor
namespace Go.Proofs.YtdmkfdaddacdhaaGreatDoor
open Go.ChangeShapes Go.WideShapes Go.RowKit
set_option linter.unusedVariables false

instance : Inhabited VT := ⟨.mk 0 .empty .empty [] []⟩

theorem InH.up {W : World} : ∀ {h : Nat} {T : VT} {v : Value}, InH W h T v → InH W (h + 1) T v
  | 0, _, _, h => h.elim
  | h + 1, T, v, hI => by
    obtain ⟨io, icap, ko, kcap, e, a1, a2, a3, a4, a5, a6, a7, hk, hi⟩ := hI
    refine ⟨io, icap, ko, kcap, e, a1, a2, a3, a4, a5, a6, a7, hk, fun h0 => ?_⟩
    obtain ⟨b, off, e2, hl, hc⟩ := hi h0
    refine ⟨b, off, e2, hl, fun i hil => ?_⟩
    obtain ⟨v0, v1, v2, v3, v4, c, ht⟩ := hc i hil
    exact ⟨v0, v1, v2, v3, v4, c, InH.up ht⟩
theorem InH.le {W : World} {h h' : Nat} {T : VT} {v : Value} (hI : InH W h T v) (hle : h ≤ h') : InH W h' T v := by
  obtain ⟨k, rfl⟩ := Nat.exists_eq_add_of_le hle
  clear hle
  induction k with
  | zero => exact hI
  | succ k ih => exact ih.up

section
variable {H : Type} {enc : TypeId × Value → H} {W : World}

theorem mem_wAll {P : Program} {e : TypeId} {d : DataW H} {y : Nat} : ∀ {l : List (DataW H)}, d ∈ l → y ∈ d.weights P e → y ∈ DataW.weightsAll P e l
  | a :: r, h, hy => by
    simp only [DataW.weightsAll, List.mem_append]
    rcases List.mem_cons.1 h with rfl | h
    · exact .inl hy
    · exact .inr (mem_wAll h hy)

/-- a slice's elements, each at a lesser fuel -/
theorem elems_open {t e : TypeId} {fuel : Nat} {cs : List Value} {x : DataW H × List MemPlace} (ht : Tryz.prog.underlying t = some (.slice e)) (h : DataW.trod enc Tryz.prog W 0 (fun _ => true) true fuel t cs = some x) :
    (cs = [.slice none 0 0] ∧ x.1 = .nil) ∨ ∃ (a : Addr) (len cap n : Nat) (elems sp : List (DataW H)), fuel = n + 1 ∧ cs = [.slice (some a) len cap] ∧ len ≤ cap ∧ elems.length = len ∧ x.1 = .slice elems sp ∧
      ∀ i, (hi : i < elems.length) → ∃ cs' ps, W.cells? 0 (a.add (i * Tryz.prog.cellsOf e)) (Tryz.prog.cellsOf e) = some cs' ∧ DataW.trod enc Tryz.prog W 0 (fun _ => true) true n e cs' = some (elems[i], ps) := by
  rcases DataW.trod_slice ht h with ⟨h0, h1⟩ | ⟨a, len, cap, elems, rest, n, hf, hc, hx, hb, hl, hm, hlen, hel, hsp, hns⟩
  · exact .inl ⟨h0, by rw [h1]⟩
  · refine .inr ⟨a, len, cap, n, elems.map (·.1), rest.map (·.1), hf, hc, hl, by simpa using hlen, by rw [hx], fun i hi => ?_⟩
    have hi' : i < elems.length := by simpa using hi
    have key := hel i (by omega)
    rw [List.getElem?_eq_getElem hi'] at key
    obtain ⟨cs', h1, h2⟩ := Option.bind_eq_some_iff.1 key
    exact ⟨cs', elems[i].2, h1, by rw [h2]; simp⟩

set_option maxRecDepth 100000 in
theorem vt_open : ∀ (fuel : Nat) (cs : List Value) (x : DataW H × List MemPlace), DataW.trod enc Tryz.prog W 0 (fun _ => true) true fuel 25 cs = some x → WtOk (x.1.weights Tryz.prog 25) →
    ∃ (T : VT) (v0 v1 v2 v3 v4 : Value), cs = [v0, v1, v2, v3, v4] ∧ InH W fuel T (.agg #[v0, v1, v2, v3, v4]) := by
  intro fuel
  induction fuel using Nat.strongRecOn with
  | ind fuel ih =>
  intro cs x h hw
  obtain ⟨xs, m, hfu, hx, hl, hn, hi⟩ := DataW.trod_struct Tryz.underlying25 h
  rw [g_cellsV] at hl
  have hn5 : xs.length = 5 := hn
  have h0 := hi 0 _ rfl
  have h1 := hi 1 _ rfl
  have h2 := hi 2 _ rfl
  have h3 := hi 3 _ rfl
  have h4 := hi 4 _ rfl
  match xs, hn5, cs, hl with
  | [y0, y1, y2, y3, y4], _, [v0, v1, v2, v3, v4], _ =>
    simp [g_cells3, g_cells9, g_cellsVs, g_cellsSs] at h0 h1 h2 h3 h4
    have hw' : WtOk (y1.1.weights Tryz.prog 9 ++ (y2.1.weights Tryz.prog 9 ++ (y3.1.weights Tryz.prog 22 ++ y4.1.weights Tryz.prog 23))) := by
      intro y hy
      apply hw y
      rw [hx]
      simp only [DataW.weights, Tryz.underlying25, List.map_cons, List.map_nil, DataW.weightsEach, List.append_nil]
      exact List.mem_append.2 (.inr hy)
    obtain ⟨k, e0, _, _⟩ := DataW.trod_int Tryz.underlying3 h0
    obtain ⟨nm, e1, d1, _⟩ := DataW.trod_string Tryz.underlying9 h1
    obtain ⟨tx, e2, d2, _⟩ := DataW.trod_string Tryz.underlying9 h2
    obtain ⟨ko, kcap, keys, Dk, spk, e4, hkc, hkin, hkd⟩ := keys_open h4
    have e0' : v0 = .int .i64 k := by simpa using e0
    have e1' : v1 = .string nm := by simpa using e1
    have e2' : v2 = .string tx := by simpa using e2
    have e4' : v4 = .slice ko keys.length kcap := by simpa using e4
    have s1 : nm.size ≤ 140737488355328 := by
      have := hw' nm.data.toList.length (by rw [d1]; simp [DataW.weights])
      rw [Array.length_toList] at this
      exact this
    have s2 : tx.size ≤ 140737488355328 := by
      have := hw' tx.data.toList.length (by rw [d2]; simp [DataW.weights])
      rw [Array.length_toList] at this
      exact this
    have s4 : keys.length ≤ 140737488355328 ∧ ∀ k ∈ keys, k.size ≤ 140737488355328 := by
      rcases hkd with ⟨_, rfl⟩ | ⟨hd, hdi⟩
      · exact ⟨by simp, by simp⟩
      · have hb : Tryz.prog.bytesOf 9 = 16 := by kernel_rfl
        constructor
        · have := hw' ((keys.length + spk.length) * 16) (by rw [hd]; simp [DataW.weights, Tryz.underlying23, hb])
          omega
        · intro kk hk
          obtain ⟨i, hil, rfl⟩ := List.getElem_of_mem hk
          have hgd : keys.getD i ByteArray.empty = keys[i] := by simp [List.getD, hil]
          have := hw' keys[i].data.toList.length (by
            rw [hd]
            simp only [DataW.weights, Tryz.underlying23]
            refine List.mem_append.2 (.inr (List.mem_append.2 (.inr (List.mem_append.2 (.inr (List.mem_cons.2 (.inr (List.mem_append.2 (.inl ?_)))))))))
            refine mem_wAll (d := Dk i) (List.mem_map.2 ⟨i, List.mem_range.2 hil, rfl⟩) ?_
            rw [hdi i hil, hgd]; simp [DataW.weights])
          rw [Array.length_toList] at this
          exact this
    rcases elems_open Tryz.underlying22 h3 with ⟨e3, _⟩ | ⟨a, len, cap, n, elems, sp, hfn, e3, hlc, hel, hd, hcell⟩
    · have e3' : v3 = .slice none 0 0 := by simpa using e3
      subst e0' e1' e2' e3' e4'
      refine ⟨.mk k nm tx [] keys, _, _, _, _, _, rfl, ?_⟩
      rw [hfu]
      exact ⟨none, 0, ko, kcap, rfl, s1, s2, by simp [VT.items], s4.1, by simp [VT.items], hkc, s4.2, hkin, fun h => by simp [VT.items] at h⟩
    · have e3' : v3 = .slice (some a) len cap := by simpa using e3
      have hbV : Tryz.prog.bytesOf 25 = 88 := by kernel_rfl
      have s3 : len ≤ 140737488355328 := by
        have := hw' ((elems.length + sp.length) * 88) (by rw [hd]; simp [DataW.weights, Tryz.underlying22, hbV])
        omega
      have hchild : ∀ i, i < len → ∃ T : VT, ∃ v0 v1 v2 v3 v4 : Value, (W.cell? (a.add (i * 5)) = some v0 ∧ W.cell? (a.add (i * 5 + 1)) = some v1 ∧ W.cell? (a.add (i * 5 + 2)) = some v2 ∧ W.cell? (a.add (i * 5 + 3)) = some v3 ∧ W.cell? (a.add (i * 5 + 4)) = some v4) ∧ InH W m T (.agg #[v0, v1, v2, v3, v4]) := by
        intro i hil
        obtain ⟨cs', ps, hc1, hc2⟩ := hcell i (by omega)
        rw [g_cellsV] at hc1
        obtain ⟨T, u0, u1, u2, u3, u4, rfl, hT⟩ := ih n (by omega) cs' _ hc2 (by
          intro y hy
          apply hw' y
          rw [hd]
          simp only [DataW.weights, Tryz.underlying22]
          refine List.mem_append.2 (.inr (List.mem_append.2 (.inr (List.mem_append.2 (.inl (List.mem_cons.2 (.inr (List.mem_append.2 (.inl ?_)))))))))
          exact mem_wAll (List.getElem_mem (by omega)) hy)
        obtain ⟨_, _, hcc⟩ := World.cells?_some hc1
        refine ⟨T, u0, u1, u2, u3, u4, ⟨?_, ?_, ?_, ?_, ?_⟩, hT.le (by omega)⟩
        · have := hcc 0 (by omega); rw [Go.Deep.add_add] at this; simpa using this
        · have := hcc 1 (by omega); rw [Go.Deep.add_add] at this; simpa using this
        · have := hcc 2 (by omega); rw [Go.Deep.add_add] at this; simpa using this
        · have := hcc 3 (by omega); rw [Go.Deep.add_add] at this; simpa using this
        · have := hcc 4 (by omega); rw [Go.Deep.add_add] at this; simpa using this
      obtain ⟨Ts, hTs⟩ := Go.Deep.choose_lt hchild
      subst e0' e1' e2' e3' e4'
      refine ⟨.mk k nm tx ((List.range len).map Ts) keys, _, _, _, _, _, rfl, ?_⟩
      rw [hfu]
      have hitl : (VT.mk k nm tx ((List.range len).map Ts) keys).items.length = len := by simp [VT.items]
      refine ⟨some a, cap, ko, kcap, by rw [hitl]; rfl, s1, s2, by rw [hitl]; exact s3, s4.1, by rw [hitl]; exact hlc, hkc, s4.2, hkin, fun hp => ?_⟩
      rw [hitl] at hp
      obtain ⟨w0, w1, w2, w3, w4, ⟨c0, _⟩, _⟩ := hTs 0 hp
      obtain ⟨b, off, spot⟩ := a
      have hspot : spot = none := by simpa [Addr.add] using World.cell?_spot c0
      subst hspot
      refine ⟨b, off, rfl, ?_, fun i hil => ?_⟩
      · have := World.block_lt_of_cell? W _ c0
        simpa [Addr.add] using this
      · rw [hitl] at hil
        obtain ⟨u0, u1, u2, u3, u4, ⟨c0, c1, c2, c3, c4⟩, hT⟩ := hTs i hil
        have hit : (VT.mk k nm tx ((List.range len).map Ts) keys).items[i]'(by rw [hitl]; exact hil) = Ts i := by simp [VT.items]
        rw [hit]
        rw [Go.WideShapes.add_plain] at c0 c1 c2 c3 c4
        refine ⟨u0, u1, u2, u3, u4, ⟨c0, ?_, ?_, ?_, ?_⟩, hT⟩
        · rw [Nat.add_assoc]; exact c1
        · rw [Nat.add_assoc]; exact c2
        · rw [Nat.add_assoc]; exact c3
        · rw [Nat.add_assoc]; exact c4
end
end Go.Proofs.YtdmkfdaddacdhaaGreatDoor
