import Derived.Test.YtdjoelhiahpmlaaM44
import Derived.Test.YtdjoelhiahpmlaaM51
import Derived.Test.YtdjoelhiahpmlaaM38
import Derived.Test.YtdjoelhiahpmlaaM53
import Derived.Test.YtdjoelhiahpmlaaM39
import Derived.Deep.Cut
namespace Go.Proofs.Ytdjoelhiahpmlaa
open Go.RowKit Go.Shelf Go.Sort
set_option linter.unusedVariables false
set_option linter.unusedSimpArgs false
attribute [local go_sem] Oper.semAt_some

set_option maxRecDepth 100000 in
set_option maxHeartbeats 6400000 in
theorem only_step (kd : Int) (nm tx : ByteArray) (io : Option Addr) (N icap : Nat) (ko : Option Addr) (K kcap : Nat) (ld : Int) (mm ux : ByteArray) (jo : Option Addr) (M jcap : Nat) (lo : Option Addr) (L lcap : Nat) (w : World) (T : TT) (s1 s2 f1 f2 p1 i2 l1 : Bool) (dp : Nat)
    (H0 : Hid (∀ u, Calls Try.prog 4 #[] u fun e w' => e = .returned (.bool true) ∧ Below u.heap.size u w'))
    (HS1 : Hid (∀ u, Below w.heap.size w u → Calls Try.prog 5 #[.agg #[.int .i64 kd, .string nm, .string tx, .slice io N icap, .slice ko K kcap]] u fun e w' => e = .returned (.bool s1) ∧ Below u.heap.size u w'))
    (HS2 : Hid (∀ u, Below w.heap.size w u → Calls Try.prog 5 #[.agg #[.int .i64 ld, .string mm, .string ux, .slice jo M jcap, .slice lo L lcap]] u fun e w' => e = .returned (.bool s2) ∧ Below u.heap.size u w'))
    (HF1 : Hid (∀ u, Below w.heap.size w u → Calls Try.prog 6 #[.agg #[.int .i64 kd, .string nm, .string tx, .slice io N icap, .slice ko K kcap]] u fun e w' => e = .returned (.bool f1) ∧ Below u.heap.size u w'))
    (HF2 : Hid (∀ u, Below w.heap.size w u → Calls Try.prog 6 #[.agg #[.int .i64 ld, .string mm, .string ux, .slice jo M jcap, .slice lo L lcap]] u fun e w' => e = .returned (.bool f2) ∧ Below u.heap.size u w'))
    (HD : Hid (s1 = true → f1 = true → ∀ u, Below w.heap.size w u → Calls Try.prog 7 #[.agg #[.int .i64 kd, .string nm, .string tx, .slice io N icap, .slice ko K kcap]] u fun e w' => e = .returned (.int .i64 (dp : Int)) ∧ Below u.heap.size u w'))
    (HP : Hid (∀ u, Below w.heap.size w u → Calls Try.prog 8 #[.agg #[.int .i64 kd, .string nm, .string tx, .slice io N icap, .slice ko K kcap]] u fun e w' => e = .returned (.bool p1) ∧ Below u.heap.size u w'))
    (HO : Hid (f1 = true → ∀ u, Below w.heap.size w u → Calls Try.prog 9 #[.agg #[.int .i64 kd, .string nm, .string tx, .slice io N icap, .slice ko K kcap]] u fun e w' => (∃ v, e = .returned (.tuple #[v, .int .i64 0]) ∧ Hid (FrT u.heap.size w' 10 T v)) ∧ Below u.heap.size u w'))
    (HI1 : Hid (f1 = true → ∀ u vt, Below w.heap.size w u → InT u 10 T vt → Calls Try.prog 10 #[.agg #[.int .i64 kd, .string nm, .string tx, .slice io N icap, .slice ko K kcap], vt] u fun e w' => e = .returned (.bool true) ∧ Below u.heap.size u w'))
    (HI2 : Hid (f1 = true → f2 = true → ∀ u vt, Below w.heap.size w u → InT u 10 T vt → Calls Try.prog 10 #[.agg #[.int .i64 ld, .string mm, .string ux, .slice jo M jcap, .slice lo L lcap], vt] u fun e w' => e = .returned (.bool i2) ∧ Below u.heap.size u w'))
    (HL : Hid (∀ u, Below w.heap.size w u → Calls Try.prog 11 #[.agg #[.int .i64 kd, .string nm, .string tx, .slice io N icap, .slice ko K kcap], .agg #[.int .i64 ld, .string mm, .string ux, .slice jo M jcap, .slice lo L lcap]] u fun e w' => e = .returned (.bool l1) ∧ Below u.heap.size u w'))
    (HE : Hid (f1 = true → f2 = true → dp ≤ 8 → p1 = true → i2 = true → l1 = true)) :
    Calls Try.prog 3 #[.agg #[.int .i64 kd, .string nm, .string tx, .slice io N icap, .slice ko K kcap], .agg #[.int .i64 ld, .string mm, .string ux, .slice jo M jcap, .slice lo L lcap]] w fun e w' => e = .returned (.bool true) ∧ Below w.heap.size w w' := by
  have HX0 := Hid.mk (bx2_new w #[.int .i64 kd, .string nm, .string tx, .slice io N icap, .slice ko K kcap] #[.int .i64 ld, .string mm, .string ux, .slice jo M jcap, .slice lo L lcap] 25)
  obtain ⟨w0, hw0⟩ : ∃ w0, (w.alloc (.cells #[.int .i64 kd, .string nm, .string tx, .slice io N icap, .slice ko K kcap] 25)).alloc (.cells #[.int .i64 ld, .string mm, .string ux, .slice jo M jcap, .slice lo L lcap] 25) = w0 := ⟨_, rfl⟩
  rw [hw0] at HX0
  have a0 : w0.cell? ⟨w.heap.size, 0, none⟩ = _ := HX0.out.one 0
  have b0 : w0.cell? ⟨w.heap.size + 1, 0, none⟩ = _ := HX0.out.two 0
  have a1 : w0.cell? ⟨w.heap.size, 1, none⟩ = _ := HX0.out.one 1
  have b1 : w0.cell? ⟨w.heap.size + 1, 1, none⟩ = _ := HX0.out.two 1
  have a2 : w0.cell? ⟨w.heap.size, 2, none⟩ = _ := HX0.out.one 2
  have b2 : w0.cell? ⟨w.heap.size + 1, 2, none⟩ = _ := HX0.out.two 2
  have a3 : w0.cell? ⟨w.heap.size, 3, none⟩ = _ := HX0.out.one 3
  have b3 : w0.cell? ⟨w.heap.size + 1, 3, none⟩ = _ := HX0.out.two 3
  have a4 : w0.cell? ⟨w.heap.size, 4, none⟩ = _ := HX0.out.one 4
  have b4 : w0.cell? ⟨w.heap.size + 1, 4, none⟩ = _ := HX0.out.two 4
  go_enter Try.func3, Try.ntmps3
  go_wp2_with fail
  refine (H0.out _).mono ?_
  rintro e w1 ⟨rfl, hq⟩
  have HX1 := Hid.mk (HX0.out.keep hq)
  clear hq hw0 a0 b0 a1 b1 a2 b2 a3 b3 a4 b4
  have a0 : w1.cell? ⟨w.heap.size, 0, none⟩ = _ := HX1.out.one 0
  have b0 : w1.cell? ⟨w.heap.size + 1, 0, none⟩ = _ := HX1.out.two 0
  have a1 : w1.cell? ⟨w.heap.size, 1, none⟩ = _ := HX1.out.one 1
  have b1 : w1.cell? ⟨w.heap.size + 1, 1, none⟩ = _ := HX1.out.two 1
  have a2 : w1.cell? ⟨w.heap.size, 2, none⟩ = _ := HX1.out.one 2
  have b2 : w1.cell? ⟨w.heap.size + 1, 2, none⟩ = _ := HX1.out.two 2
  have a3 : w1.cell? ⟨w.heap.size, 3, none⟩ = _ := HX1.out.one 3
  have b3 : w1.cell? ⟨w.heap.size + 1, 3, none⟩ = _ := HX1.out.two 3
  have a4 : w1.cell? ⟨w.heap.size, 4, none⟩ = _ := HX1.out.one 4
  have b4 : w1.cell? ⟨w.heap.size + 1, 4, none⟩ = _ := HX1.out.two 4
  go_wp2_with fail
  refine (HS1.out _ HX1.out.below).mono ?_
  rintro e w2 ⟨rfl, hq⟩
  have HX2 := Hid.mk (HX1.out.keep hq)
  clear hq
  clear a0 b0 a1 b1 a2 b2 a3 b3 a4 b4
  have a0 : w2.cell? ⟨w.heap.size, 0, none⟩ = _ := HX2.out.one 0
  have b0 : w2.cell? ⟨w.heap.size + 1, 0, none⟩ = _ := HX2.out.two 0
  have a1 : w2.cell? ⟨w.heap.size, 1, none⟩ = _ := HX2.out.one 1
  have b1 : w2.cell? ⟨w.heap.size + 1, 1, none⟩ = _ := HX2.out.two 1
  have a2 : w2.cell? ⟨w.heap.size, 2, none⟩ = _ := HX2.out.one 2
  have b2 : w2.cell? ⟨w.heap.size + 1, 2, none⟩ = _ := HX2.out.two 2
  have a3 : w2.cell? ⟨w.heap.size, 3, none⟩ = _ := HX2.out.one 3
  have b3 : w2.cell? ⟨w.heap.size + 1, 3, none⟩ = _ := HX2.out.two 3
  have a4 : w2.cell? ⟨w.heap.size, 4, none⟩ = _ := HX2.out.one 4
  have b4 : w2.cell? ⟨w.heap.size + 1, 4, none⟩ = _ := HX2.out.two 4
  cases s1 with
  | false =>
    go_wp2_with fail
    go_ret
    exact ⟨rfl, HX2.out.below⟩
  | true =>
    go_wp2_with fail
    refine (HS2.out _ HX2.out.below).mono ?_
    rintro e w3 ⟨rfl, hq⟩
    have HX3 := Hid.mk (HX2.out.keep hq)
    clear hq
    clear a0 b0 a1 b1 a2 b2 a3 b3 a4 b4
    have a0 : w3.cell? ⟨w.heap.size, 0, none⟩ = _ := HX3.out.one 0
    have b0 : w3.cell? ⟨w.heap.size + 1, 0, none⟩ = _ := HX3.out.two 0
    have a1 : w3.cell? ⟨w.heap.size, 1, none⟩ = _ := HX3.out.one 1
    have b1 : w3.cell? ⟨w.heap.size + 1, 1, none⟩ = _ := HX3.out.two 1
    have a2 : w3.cell? ⟨w.heap.size, 2, none⟩ = _ := HX3.out.one 2
    have b2 : w3.cell? ⟨w.heap.size + 1, 2, none⟩ = _ := HX3.out.two 2
    have a3 : w3.cell? ⟨w.heap.size, 3, none⟩ = _ := HX3.out.one 3
    have b3 : w3.cell? ⟨w.heap.size + 1, 3, none⟩ = _ := HX3.out.two 3
    have a4 : w3.cell? ⟨w.heap.size, 4, none⟩ = _ := HX3.out.one 4
    have b4 : w3.cell? ⟨w.heap.size + 1, 4, none⟩ = _ := HX3.out.two 4
    cases s2 with
    | false =>
      go_wp2_with fail
      go_ret
      exact ⟨rfl, HX3.out.below⟩
    | true =>
      go_wp2_with fail
      refine (HF1.out _ HX3.out.below).mono ?_
      rintro e w4 ⟨rfl, hq⟩
      have HX4 := Hid.mk (HX3.out.keep hq)
      clear hq
      clear a0 b0 a1 b1 a2 b2 a3 b3 a4 b4
      have a0 : w4.cell? ⟨w.heap.size, 0, none⟩ = _ := HX4.out.one 0
      have b0 : w4.cell? ⟨w.heap.size + 1, 0, none⟩ = _ := HX4.out.two 0
      have a1 : w4.cell? ⟨w.heap.size, 1, none⟩ = _ := HX4.out.one 1
      have b1 : w4.cell? ⟨w.heap.size + 1, 1, none⟩ = _ := HX4.out.two 1
      have a2 : w4.cell? ⟨w.heap.size, 2, none⟩ = _ := HX4.out.one 2
      have b2 : w4.cell? ⟨w.heap.size + 1, 2, none⟩ = _ := HX4.out.two 2
      have a3 : w4.cell? ⟨w.heap.size, 3, none⟩ = _ := HX4.out.one 3
      have b3 : w4.cell? ⟨w.heap.size + 1, 3, none⟩ = _ := HX4.out.two 3
      have a4 : w4.cell? ⟨w.heap.size, 4, none⟩ = _ := HX4.out.one 4
      have b4 : w4.cell? ⟨w.heap.size + 1, 4, none⟩ = _ := HX4.out.two 4
      cases f1 with
      | false =>
        go_wp2_with fail
        go_ret
        exact ⟨rfl, HX4.out.below⟩
      | true =>
        go_wp2_with fail
        refine (HF2.out _ HX4.out.below).mono ?_
        rintro e w5 ⟨rfl, hq⟩
        have HX5 := Hid.mk (HX4.out.keep hq)
        clear hq
        clear a0 b0 a1 b1 a2 b2 a3 b3 a4 b4
        have a0 : w5.cell? ⟨w.heap.size, 0, none⟩ = _ := HX5.out.one 0
        have b0 : w5.cell? ⟨w.heap.size + 1, 0, none⟩ = _ := HX5.out.two 0
        have a1 : w5.cell? ⟨w.heap.size, 1, none⟩ = _ := HX5.out.one 1
        have b1 : w5.cell? ⟨w.heap.size + 1, 1, none⟩ = _ := HX5.out.two 1
        have a2 : w5.cell? ⟨w.heap.size, 2, none⟩ = _ := HX5.out.one 2
        have b2 : w5.cell? ⟨w.heap.size + 1, 2, none⟩ = _ := HX5.out.two 2
        have a3 : w5.cell? ⟨w.heap.size, 3, none⟩ = _ := HX5.out.one 3
        have b3 : w5.cell? ⟨w.heap.size + 1, 3, none⟩ = _ := HX5.out.two 3
        have a4 : w5.cell? ⟨w.heap.size, 4, none⟩ = _ := HX5.out.one 4
        have b4 : w5.cell? ⟨w.heap.size + 1, 4, none⟩ = _ := HX5.out.two 4
        cases f2 with
        | false =>
          go_wp2_with fail
          go_ret
          exact ⟨rfl, HX5.out.below⟩
        | true =>
          go_wp2_with fail
          refine (HD.out (by first | trivial | rfl) (by first | trivial | rfl) _ HX5.out.below).mono ?_
          rintro e w6 ⟨rfl, hq⟩
          have HX6 := Hid.mk (HX5.out.keep hq)
          clear hq
          clear a0 b0 a1 b1 a2 b2 a3 b3 a4 b4
          have a0 : w6.cell? ⟨w.heap.size, 0, none⟩ = _ := HX6.out.one 0
          have b0 : w6.cell? ⟨w.heap.size + 1, 0, none⟩ = _ := HX6.out.two 0
          have a1 : w6.cell? ⟨w.heap.size, 1, none⟩ = _ := HX6.out.one 1
          have b1 : w6.cell? ⟨w.heap.size + 1, 1, none⟩ = _ := HX6.out.two 1
          have a2 : w6.cell? ⟨w.heap.size, 2, none⟩ = _ := HX6.out.one 2
          have b2 : w6.cell? ⟨w.heap.size + 1, 2, none⟩ = _ := HX6.out.two 2
          have a3 : w6.cell? ⟨w.heap.size, 3, none⟩ = _ := HX6.out.one 3
          have b3 : w6.cell? ⟨w.heap.size + 1, 3, none⟩ = _ := HX6.out.two 3
          have a4 : w6.cell? ⟨w.heap.size, 4, none⟩ = _ := HX6.out.one 4
          have b4 : w6.cell? ⟨w.heap.size + 1, 4, none⟩ = _ := HX6.out.two 4
          by_cases hd8 : 8 < dp
          · have hd9 : (8 : Int) < (dp : Int) := by omega
            go_wp2_with fail
            go_ret
            exact ⟨rfl, HX6.out.below⟩
          · have hd9 : ¬ (8 : Int) < (dp : Int) := by omega
            go_wp2_with fail
            refine (HP.out _ HX6.out.below).mono ?_
            rintro e w7 ⟨rfl, hq⟩
            have HX7 := Hid.mk (HX6.out.keep hq)
            clear hq
            clear a0 b0 a1 b1 a2 b2 a3 b3 a4 b4
            have a0 : w7.cell? ⟨w.heap.size, 0, none⟩ = _ := HX7.out.one 0
            have b0 : w7.cell? ⟨w.heap.size + 1, 0, none⟩ = _ := HX7.out.two 0
            have a1 : w7.cell? ⟨w.heap.size, 1, none⟩ = _ := HX7.out.one 1
            have b1 : w7.cell? ⟨w.heap.size + 1, 1, none⟩ = _ := HX7.out.two 1
            have a2 : w7.cell? ⟨w.heap.size, 2, none⟩ = _ := HX7.out.one 2
            have b2 : w7.cell? ⟨w.heap.size + 1, 2, none⟩ = _ := HX7.out.two 2
            have a3 : w7.cell? ⟨w.heap.size, 3, none⟩ = _ := HX7.out.one 3
            have b3 : w7.cell? ⟨w.heap.size + 1, 3, none⟩ = _ := HX7.out.two 3
            have a4 : w7.cell? ⟨w.heap.size, 4, none⟩ = _ := HX7.out.one 4
            have b4 : w7.cell? ⟨w.heap.size + 1, 4, none⟩ = _ := HX7.out.two 4
            cases p1 with
            | false =>
              go_wp2_with fail
              go_ret
              exact ⟨rfl, HX7.out.below⟩
            | true =>
              go_wp2_with fail
              refine (HO.out (by first | trivial | rfl) _ HX7.out.below).mono ?_
              rintro e w8 ⟨⟨vw, rfl, hF⟩, hq⟩
              have HX8 := Hid.mk (HX7.out.keep hq)
              have hF2 := hF.out.here
              obtain ⟨ta, tb, tc, td, ⟨teo, ten, tec⟩, tf, ⟨tgo, tgn, tgc⟩, ⟨tio, tinn, tic⟩, ⟨tjo, tjn, tjc⟩, esht⟩ := inT_shape hF2
              simp only [Value.agg.injEq, Array.mk.injEq, List.cons.injEq, and_true] at esht
              obtain ⟨rfl, rfl, rfl, rfl, rfl, rfl, rfl, rfl, rfl⟩ := esht
              clear a0 b0 a1 b1 a2 b2 a3 b3 a4 b4
              obtain ⟨TB, hTB⟩ : ∃ TB, w8.heap.size = TB := ⟨_, rfl⟩
              obtain ⟨w9, hw9⟩ : ∃ w9, w8.alloc (.cells #[.bool ta, .bool tb, .bool tc, .bool td, .slice teo ten tec, .bool tf, .slice tgo tgn tgc, .slice tio tinn tic, .slice tjo tjn tjc] 33) = w9 := ⟨_, rfl⟩
              have hb9 : Below w8.heap.size w8 w9 := by rw [← hw9]; exact below1 w8 _
              have HX9 := Hid.mk (HX8.out.keep hb9)
              have HT9 := Hid.mk (hF.out.keep hb9)
              have HR9 : Hid (w9.heap[TB]? = some (.cells #[.bool ta, .bool tb, .bool tc, .bool td, .slice teo ten tec, .bool tf, .slice tgo tgn tgc, .slice tio tinn tic, .slice tjo tjn tjc] 33 (0, 0))) := by show _ = _; rw [← hw9, ← hTB]; exact World.alloc_heap_new w8 _
              have HWq := Hid.mk hw9
              have HBq := Hid.mk hTB
              clear hq hF hF2 hb9 hw9 hTB
              go_upto_region 6 with fail
              try rw [HWq.out]
              try rw [HBq.out]
              clear HWq HBq
              have a0 : w9.cell? ⟨w.heap.size, 0, none⟩ = _ := HX9.out.one 0
              have b0 : w9.cell? ⟨w.heap.size + 1, 0, none⟩ = _ := HX9.out.two 0
              have a1 : w9.cell? ⟨w.heap.size, 1, none⟩ = _ := HX9.out.one 1
              have b1 : w9.cell? ⟨w.heap.size + 1, 1, none⟩ = _ := HX9.out.two 1
              have a2 : w9.cell? ⟨w.heap.size, 2, none⟩ = _ := HX9.out.one 2
              have b2 : w9.cell? ⟨w.heap.size + 1, 2, none⟩ = _ := HX9.out.two 2
              have a3 : w9.cell? ⟨w.heap.size, 3, none⟩ = _ := HX9.out.one 3
              have b3 : w9.cell? ⟨w.heap.size + 1, 3, none⟩ = _ := HX9.out.two 3
              have a4 : w9.cell? ⟨w.heap.size, 4, none⟩ = _ := HX9.out.one 4
              have b4 : w9.cell? ⟨w.heap.size + 1, 4, none⟩ = _ := HX9.out.two 4
              have t0 := cell_of_row _ _ 0 _ _ _ HR9.out
              have t1 := cell_of_row _ _ 1 _ _ _ HR9.out
              have t2 := cell_of_row _ _ 2 _ _ _ HR9.out
              have t3 := cell_of_row _ _ 3 _ _ _ HR9.out
              have t4 := cell_of_row _ _ 4 _ _ _ HR9.out
              have t5 := cell_of_row _ _ 5 _ _ _ HR9.out
              have t6 := cell_of_row _ _ 6 _ _ _ HR9.out
              have t7 := cell_of_row _ _ 7 _ _ _ HR9.out
              have t8 := cell_of_row _ _ 8 _ _ _ HR9.out
              go_wp2_with fail
              refine (HI1.out (by first | trivial | rfl) _ _ HX9.out.below HT9.out.here).mono ?_
              rintro e w10 ⟨rfl, hq⟩
              have HX10 := Hid.mk (HX9.out.keep hq)
              have HT10 := Hid.mk (HT9.out.keep hq)
              have HR10 : Hid (w10.heap[TB]? = _) := (hq.block _ (lt_of_row HR9.out)).trans HR9.out
              clear hq t0 t1 t2 t3 t4 t5 t6 t7 t8
              clear a0 b0 a1 b1 a2 b2 a3 b3 a4 b4
              have a0 : w10.cell? ⟨w.heap.size, 0, none⟩ = _ := HX10.out.one 0
              have b0 : w10.cell? ⟨w.heap.size + 1, 0, none⟩ = _ := HX10.out.two 0
              have a1 : w10.cell? ⟨w.heap.size, 1, none⟩ = _ := HX10.out.one 1
              have b1 : w10.cell? ⟨w.heap.size + 1, 1, none⟩ = _ := HX10.out.two 1
              have a2 : w10.cell? ⟨w.heap.size, 2, none⟩ = _ := HX10.out.one 2
              have b2 : w10.cell? ⟨w.heap.size + 1, 2, none⟩ = _ := HX10.out.two 2
              have a3 : w10.cell? ⟨w.heap.size, 3, none⟩ = _ := HX10.out.one 3
              have b3 : w10.cell? ⟨w.heap.size + 1, 3, none⟩ = _ := HX10.out.two 3
              have a4 : w10.cell? ⟨w.heap.size, 4, none⟩ = _ := HX10.out.one 4
              have b4 : w10.cell? ⟨w.heap.size + 1, 4, none⟩ = _ := HX10.out.two 4
              have t0 := cell_of_row _ _ 0 _ _ _ HR10.out
              have t1 := cell_of_row _ _ 1 _ _ _ HR10.out
              have t2 := cell_of_row _ _ 2 _ _ _ HR10.out
              have t3 := cell_of_row _ _ 3 _ _ _ HR10.out
              have t4 := cell_of_row _ _ 4 _ _ _ HR10.out
              have t5 := cell_of_row _ _ 5 _ _ _ HR10.out
              have t6 := cell_of_row _ _ 6 _ _ _ HR10.out
              have t7 := cell_of_row _ _ 7 _ _ _ HR10.out
              have t8 := cell_of_row _ _ 8 _ _ _ HR10.out
              go_wp2_with fail
              refine (HI2.out (by first | trivial | rfl) (by first | trivial | rfl) _ _ HX10.out.below HT10.out.here).mono ?_
              rintro e w11 ⟨rfl, hq⟩
              have HX11 := Hid.mk (HX10.out.keep hq)
              clear hq t0 t1 t2 t3 t4 t5 t6 t7 t8
              clear a0 b0 a1 b1 a2 b2 a3 b3 a4 b4
              have a0 : w11.cell? ⟨w.heap.size, 0, none⟩ = _ := HX11.out.one 0
              have b0 : w11.cell? ⟨w.heap.size + 1, 0, none⟩ = _ := HX11.out.two 0
              have a1 : w11.cell? ⟨w.heap.size, 1, none⟩ = _ := HX11.out.one 1
              have b1 : w11.cell? ⟨w.heap.size + 1, 1, none⟩ = _ := HX11.out.two 1
              have a2 : w11.cell? ⟨w.heap.size, 2, none⟩ = _ := HX11.out.one 2
              have b2 : w11.cell? ⟨w.heap.size + 1, 2, none⟩ = _ := HX11.out.two 2
              have a3 : w11.cell? ⟨w.heap.size, 3, none⟩ = _ := HX11.out.one 3
              have b3 : w11.cell? ⟨w.heap.size + 1, 3, none⟩ = _ := HX11.out.two 3
              have a4 : w11.cell? ⟨w.heap.size, 4, none⟩ = _ := HX11.out.one 4
              have b4 : w11.cell? ⟨w.heap.size + 1, 4, none⟩ = _ := HX11.out.two 4
              cases hi2 : i2 with
              | false =>
                clear hi2
                go_wp2_with fail
                go_ret
                exact ⟨rfl, HX11.out.below⟩
              | true =>
                have HEE := Hid.mk (HE.out (by first | trivial | rfl) (by first | trivial | rfl) (by omega) (by first | trivial | rfl) hi2)
                clear hi2
                go_wp2_with fail
                refine (HL.out _ HX11.out.below).mono ?_
                rintro e w12 ⟨rfl, hq⟩
                have HX12 := Hid.mk (HX11.out.keep hq)
                clear hq
                go_wp2_with fail
                go_ret
                exact ⟨by rw [HEE.out]; rfl, HX12.out.below⟩

set_option maxRecDepth 100000 in
/-- THE LAW: of the near type of a plain value no other value is -/
theorem w_ShapeOnly (hv : Nat) (V : VT) (vv : Value) (W : VT) (ww : Value) (w : World) (hV : InH w (hv + 1) V vv) (hW : InH w (hv + 1) W ww) :
    Calls Try.prog 3 #[vv, ww] w fun e w' => e = .returned (.bool true) ∧ Below w.heap.size w w' := by
  have hV2 := hV
  have hW2 := hW
  obtain ⟨io, icap, ko, kcap, rfl, a1, a2, a3, a4, a5, a6, a7, hkk, hi⟩ := hV2.open
  obtain ⟨jo, jcap, lo, lcap, rfl, b1, b2, b3, b4, b5, b6, b7, hll, hj⟩ := hW2.open
  refine only_step _ _ _ _ _ _ _ _ _ _ _ _ _ _ _ _ _ _ w (nrN 8 V) (decide (szN (hv + 1) V ≤ 20000)) (decide (szN (hv + 1) W ≤ 20000)) (formN (hv + 1) V) (formN (hv + 1) W) (plN (hv + 1) V) (inN 10 W (nrN 8 V)) (likeD V W) (dpN (hv + 1) V)
    (Hid.mk fun u => w_lives9 u)
    (Hid.mk fun u hu => w_small9 (hv + 1) V u _ _ _ _ _ _ _ _ _ (hV.keep hu))
    (Hid.mk fun u hu => w_small9 (hv + 1) W u _ _ _ _ _ _ _ _ _ (hW.keep hu))
    (Hid.mk fun u hu => w_rFormed (hv + 1) V _ u (hV.keep hu))
    (Hid.mk fun u hu => w_rFormed (hv + 1) W _ u (hW.keep hu))
    (Hid.mk fun hs hf u hu => w_rDepth (hv + 1) V _ u (hV.keep hu) (by have := of_decide_eq_true hs; omega) hf)
    (Hid.mk fun u hu => w_plain (hv + 1) V _ u (hV.keep hu))
    (Hid.mk fun hf u hu => by
      have h := w_sOf (hv + 1) V _ u (hV.keep hu)
      rw [hf, if_pos rfl, if_pos rfl] at h
      exact h)
    (Hid.mk fun hf u vt hu hI => by
      have h := w_rIn 10 (hv + 1) V (nrN 8 V) _ vt u (hV.keep hu) hf (good_nr 8 (hv + 1) V hf hV.bd) hI
      rw [in_nr 8 (hv + 1) V hf] at h
      exact h)
    (Hid.mk fun hf hg u vt hu hI => w_rIn 10 (hv + 1) W (nrN 8 V) _ vt u (hW.keep hu) hg (good_nr 8 (hv + 1) V hf hV.bd) hI)
    (Hid.mk fun u hu => w_Like (hv + 1) V W _ _ u (hV.keep hu) (hW.keep hu))
    (Hid.mk fun hf hg hd hp hin => likeD_iff.2 (only_nr 8 (hv + 1) (hv + 1) 10 V W hf hV.bd hg hd hp hin).symm)
end Go.Proofs.Ytdjoelhiahpmlaa
