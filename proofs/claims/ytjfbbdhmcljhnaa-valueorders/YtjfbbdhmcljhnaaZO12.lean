import Derived.Test.YtjfbbdhmcljhnaaZT13
import Derived.Test.YtjfbbdhmcljhnaaZO11
import Derived.Test.YtjfbbdhmcljhnaaZH6x
import Derived.Test.YtjfbbdhmcljhnaaM15
namespace Go.Proofs.Ytjfbbdhmcljhnaa
open Go.RowKit
set_option linter.unusedVariables false
set_option linter.unusedSimpArgs false

set_option maxRecDepth 100000 in
set_option maxHeartbeats 6400000 in
theorem w_vSame (c : Int) (w : World) (xak : Int) (xan xat : ByteArray) (xaio : Option Addr) (xaN xaic : Nat) (xako : Option Addr) (xaK xakc : Nat) (xbk : Int) (xbn xbt : ByteArray) (xbio : Option Addr) (xbN xbic : Nat) (xbko : Option Addr) (xbK xbkc : Nat) (HC : Hid (∀ u, Below w.heap.size w u → Calls Try.prog 14 #[.agg #[.int .i64 xak, .string xan, .string xat, .slice xaio xaN xaic, .slice xako xaK xakc], .agg #[.int .i64 xbk, .string xbn, .string xbt, .slice xbio xbN xbic, .slice xbko xbK xbkc]] u fun e w' => e = .returned (.int .i64 c) ∧ Below u.heap.size u w')) :
    Calls Try.prog 15 #[.agg #[.int .i64 xak, .string xan, .string xat, .slice xaio xaN xaic, .slice xako xaK xakc], .agg #[.int .i64 xbk, .string xbn, .string xbt, .slice xbio xbN xbic, .slice xbko xbK xbkc]] w fun e w' => e = .returned (.bool (c == 0)) ∧ Below w.heap.size w w' := by
  have HX := Hid.mk (rb2_new w (.int .i64 xak) (.string xan) (.string xat) (.slice xaio xaN xaic) (.slice xako xaK xakc) (.int .i64 xbk) (.string xbn) (.string xbt) (.slice xbio xbN xbic) (.slice xbko xbK xbkc))
  go_enter Try.func15, Try.ntmps15
  go_wp2_with fail
  refine (HC.out _ HX.out.one.below).mono ?_
  rintro e w1 ⟨rfl, hb1⟩
  have HX1 := Hid.mk (HX.out.keep hb1)
  clear hb1
  go_wp2_with fail
  go_ret
  exact ⟨rfl, HX1.out.one.below⟩

set_option maxRecDepth 100000 in
set_option maxHeartbeats 6400000 in
theorem w_ValueOrders (h : Nat) (A B : VT) (w : World) (xak : Int) (xan xat : ByteArray) (xaio : Option Addr) (xaN xaic : Nat) (xako : Option Addr) (xaK xakc : Nat) (xbk : Int) (xbn xbt : ByteArray) (xbio : Option Addr) (xbN xbic : Nat) (xbko : Option Addr) (xbK xbkc : Nat) (hA : InH w h A (.agg #[.int .i64 xak, .string xan, .string xat, .slice xaio xaN xaic, .slice xako xaK xakc])) (hB : InH w h B (.agg #[.int .i64 xbk, .string xbn, .string xbt, .slice xbio xbN xbic, .slice xbko xbK xbkc])) :
    Calls Try.prog 4 #[.agg #[.int .i64 xak, .string xan, .string xat, .slice xaio xaN xaic, .slice xako xaK xakc], .agg #[.int .i64 xbk, .string xbn, .string xbt, .slice xbio xbN xbic, .slice xbko xbK xbkc]] w fun e w' => e = .returned (.bool true) ∧ Below w.heap.size w w' := by
  have HX := Hid.mk (rb2_new w (.int .i64 xak) (.string xan) (.string xat) (.slice xaio xaN xaic) (.slice xako xaK xakc) (.int .i64 xbk) (.string xbn) (.string xbt) (.slice xbio xbN xbic) (.slice xbko xbK xbkc))
  have HSa := Hid.mk (fun u (hu : RB2 w u (.int .i64 xak) (.string xan) (.string xat) (.slice xaio xaN xaic) (.slice xako xaK xakc) (.int .i64 xbk) (.string xbn) (.string xbt) (.slice xbio xbN xbic) (.slice xbko xbK xbkc)) => w_small h A _ u (hA.keep hu.one.below))
  have HFa := Hid.mk (fun u (hu : RB2 w u (.int .i64 xak) (.string xan) (.string xat) (.slice xaio xaN xaic) (.slice xako xaK xakc) (.int .i64 xbk) (.string xbn) (.string xbt) (.slice xbio xbN xbic) (.slice xbko xbK xbkc)) => w_rFormed h A _ u (hA.keep hu.one.below))
  have HSb := Hid.mk (fun u (hu : RB2 w u (.int .i64 xak) (.string xan) (.string xat) (.slice xaio xaN xaic) (.slice xako xaK xakc) (.int .i64 xbk) (.string xbn) (.string xbt) (.slice xbio xbN xbic) (.slice xbko xbK xbkc)) => w_small h B _ u (hB.keep hu.one.below))
  have HFb := Hid.mk (fun u (hu : RB2 w u (.int .i64 xak) (.string xan) (.string xat) (.slice xaio xaN xaic) (.slice xako xaK xakc) (.int .i64 xbk) (.string xbn) (.string xbt) (.slice xbio xbN xbic) (.slice xbko xbK xbkc)) => w_rFormed h B _ u (hB.keep hu.one.below))
  have HC := Hid.mk (fun u (hu : RB2 w u (.int .i64 xak) (.string xan) (.string xat) (.slice xaio xaN xaic) (.slice xako xaK xakc) (.int .i64 xbk) (.string xbn) (.string xbt) (.slice xbio xbN xbic) (.slice xbko xbK xbkc)) => w_vCmp h A B _ _ u (hA.keep hu.one.below) (hB.keep hu.one.below))
  have HR : Hid (formN h A = true → formN h B = true → ∀ u, RB2 w u (.int .i64 xak) (.string xan) (.string xat) (.slice xaio xaN xaic) (.slice xako xaK xakc) (.int .i64 xbk) (.string xbn) (.string xbt) (.slice xbio xbN xbic) (.slice xbko xbK xbkc) → Calls Try.prog 13 #[.agg #[.int .i64 xak, .string xan, .string xat, .slice xaio xaN xaic, .slice xako xaK xakc], .agg #[.int .i64 xbk, .string xbn, .string xbt, .slice xbio xbN xbic, .slice xbko xbK xbkc]] u fun e w' => e = .returned (.int .i64 (cmpH h A B)) ∧ Below u.heap.size u w') := fun fa fb u hu => w_rCmp h A B _ _ u (hA.keep hu.one.below) (hB.keep hu.one.below) fa fb
  have HSm := Hid.mk (fun u (hu : RB2 w u (.int .i64 xak) (.string xan) (.string xat) (.slice xaio xaN xaic) (.slice xako xaK xakc) (.int .i64 xbk) (.string xbn) (.string xbt) (.slice xbio xbN xbic) (.slice xbko xbK xbkc)) => w_vSame (cmpH h A B) u _ _ _ _ _ _ _ _ _  _ _ _ _ _ _ _ _ _  (fun u2 hu2 => w_vCmp h A B _ _ u2 (hA.keep (hu.one.below.trans (hu2.mono hu.one.below.size))) (hB.keep (hu.one.below.trans (hu2.mono hu.one.below.size)))))
  have HLk := Hid.mk (fun u (hu : RB2 w u (.int .i64 xak) (.string xan) (.string xat) (.slice xaio xaN xaic) (.slice xako xaK xakc) (.int .i64 xbk) (.string xbn) (.string xbt) (.slice xbio xbN xbic) (.slice xbko xbK xbkc)) => w_Like h A B _ _ u (hA.keep hu.one.below) (hB.keep hu.one.below))
  have HEq : Hid (formN h A = true → formN h B = true → ((cmpH h A B == 0) == likeD A B) = true) := fun fa fb => by
    have o := cmpH_ord h
    by_cases h0 : cmpH h A B = 0
    · rw [likeD_iff.2 (o.zr A B fa fb h0), h0]; rfl
    · have : likeD A B = false := likeD_no (fun e => h0 (by rw [e] at fa ⊢; exact o.rf fa))
      rw [this, beq_eq_false_iff_ne.2 h0]; rfl
  clear hA hB
  generalize formN h A = fa at HFa HEq HR
  generalize formN h B = fb at HFb HEq HR
  generalize cmpH h A B = c at HC HEq HR HSm
  generalize likeD A B = lk at HLk HEq
  go_enter Try.func4, Try.ntmps4
  have HY := HX
  go_wp2_with fail
  refine (HSa.out _ HY.out).mono ?_
  rintro e w2 ⟨b2, rfl, hb2⟩
  have HY := Hid.mk (HY.out.keep hb2)
  clear hb2
  have ag0 := HY.out.one.c0
  have ag1 := HY.out.one.c1
  have ag2 := HY.out.one.c2
  have ag3 := HY.out.one.c3
  have ag4 := HY.out.one.c4
  have bg0 := HY.out.d0
  have bg1 := HY.out.d1
  have bg2 := HY.out.d2
  have bg3 := HY.out.d3
  have bg4 := HY.out.d4
  cases b2 with
  | false =>
    go_wp2_with fail
    go_ret
    exact ⟨rfl, HY.out.one.below⟩
  | true =>
    clear ag0 ag1 ag2 ag3 ag4 bg0 bg1 bg2 bg3 bg4
    have ag0 := HY.out.one.c0
    have ag1 := HY.out.one.c1
    have ag2 := HY.out.one.c2
    have ag3 := HY.out.one.c3
    have ag4 := HY.out.one.c4
    have bg0 := HY.out.d0
    have bg1 := HY.out.d1
    have bg2 := HY.out.d2
    have bg3 := HY.out.d3
    have bg4 := HY.out.d4
    go_wp2_with fail
    refine (HSb.out _ HY.out).mono ?_
    rintro e w3 ⟨b3, rfl, hb3⟩
    have HY := Hid.mk (HY.out.keep hb3)
    clear hb3
    cases b3 with
    | false =>
      go_wp2_with fail
      go_ret
      exact ⟨rfl, HY.out.one.below⟩
    | true =>
      clear ag0 ag1 ag2 ag3 ag4 bg0 bg1 bg2 bg3 bg4
      have ag0 := HY.out.one.c0
      have ag1 := HY.out.one.c1
      have ag2 := HY.out.one.c2
      have ag3 := HY.out.one.c3
      have ag4 := HY.out.one.c4
      have bg0 := HY.out.d0
      have bg1 := HY.out.d1
      have bg2 := HY.out.d2
      have bg3 := HY.out.d3
      have bg4 := HY.out.d4
      go_wp2_with fail
      refine (w_lives _).mono ?_
      rintro e w4 ⟨rfl, hb4⟩
      have HY := Hid.mk (HY.out.keep hb4)
      clear hb4
      clear ag0 ag1 ag2 ag3 ag4 bg0 bg1 bg2 bg3 bg4
      have ag0 := HY.out.one.c0
      have ag1 := HY.out.one.c1
      have ag2 := HY.out.one.c2
      have ag3 := HY.out.one.c3
      have ag4 := HY.out.one.c4
      have bg0 := HY.out.d0
      have bg1 := HY.out.d1
      have bg2 := HY.out.d2
      have bg3 := HY.out.d3
      have bg4 := HY.out.d4
      go_wp2_with fail
      refine (HFa.out _ HY.out).mono ?_
      rintro e w5 ⟨rfl, hb5⟩
      have HY := Hid.mk (HY.out.keep hb5)
      clear hb5
      cases fa with
      | false =>
        go_wp2_with fail
        go_ret
        exact ⟨rfl, HY.out.one.below⟩
      | true =>
        clear ag0 ag1 ag2 ag3 ag4 bg0 bg1 bg2 bg3 bg4
        have ag0 := HY.out.one.c0
        have ag1 := HY.out.one.c1
        have ag2 := HY.out.one.c2
        have ag3 := HY.out.one.c3
        have ag4 := HY.out.one.c4
        have bg0 := HY.out.d0
        have bg1 := HY.out.d1
        have bg2 := HY.out.d2
        have bg3 := HY.out.d3
        have bg4 := HY.out.d4
        go_wp2_with fail
        refine (HFb.out _ HY.out).mono ?_
        rintro e w6 ⟨rfl, hb6⟩
        have HY := Hid.mk (HY.out.keep hb6)
        clear hb6
        cases fb with
        | false =>
          go_wp2_with fail
          go_ret
          exact ⟨rfl, HY.out.one.below⟩
        | true =>
          have HE : Hid (((c == 0) == lk) = true) := HEq.out (by first | trivial | rfl) (by first | trivial | rfl)
          have HR2 := Hid.mk (HR.out (by first | trivial | rfl) (by first | trivial | rfl))
          clear HEq HR
          clear ag0 ag1 ag2 ag3 ag4 bg0 bg1 bg2 bg3 bg4
          have ag0 := HY.out.one.c0
          have ag1 := HY.out.one.c1
          have ag2 := HY.out.one.c2
          have ag3 := HY.out.one.c3
          have ag4 := HY.out.one.c4
          have bg0 := HY.out.d0
          have bg1 := HY.out.d1
          have bg2 := HY.out.d2
          have bg3 := HY.out.d3
          have bg4 := HY.out.d4
          go_wp2_with fail
          refine (HR2.out _ HY.out).mono ?_
          rintro e w7 ⟨rfl, hb7⟩
          have HY := Hid.mk (HY.out.keep hb7)
          clear hb7
          clear ag0 ag1 ag2 ag3 ag4 bg0 bg1 bg2 bg3 bg4
          have ag0 := HY.out.one.c0
          have ag1 := HY.out.one.c1
          have ag2 := HY.out.one.c2
          have ag3 := HY.out.one.c3
          have ag4 := HY.out.one.c4
          have bg0 := HY.out.d0
          have bg1 := HY.out.d1
          have bg2 := HY.out.d2
          have bg3 := HY.out.d3
          have bg4 := HY.out.d4
          go_wp2_with fail
          refine (HC.out _ HY.out).mono ?_
          rintro e w8 ⟨rfl, hb8⟩
          have HY := Hid.mk (HY.out.keep hb8)
          clear hb8
          clear ag0 ag1 ag2 ag3 ag4 bg0 bg1 bg2 bg3 bg4
          have ag0 := HY.out.one.c0
          have ag1 := HY.out.one.c1
          have ag2 := HY.out.one.c2
          have ag3 := HY.out.one.c3
          have ag4 := HY.out.one.c4
          have bg0 := HY.out.d0
          have bg1 := HY.out.d1
          have bg2 := HY.out.d2
          have bg3 := HY.out.d3
          have bg4 := HY.out.d4
          go_wp2_with fail
          refine (HSm.out _ HY.out).mono ?_
          rintro e w9 ⟨rfl, hb9⟩
          have HY := Hid.mk (HY.out.keep hb9)
          clear hb9
          clear ag0 ag1 ag2 ag3 ag4 bg0 bg1 bg2 bg3 bg4
          have ag0 := HY.out.one.c0
          have ag1 := HY.out.one.c1
          have ag2 := HY.out.one.c2
          have ag3 := HY.out.one.c3
          have ag4 := HY.out.one.c4
          have bg0 := HY.out.d0
          have bg1 := HY.out.d1
          have bg2 := HY.out.d2
          have bg3 := HY.out.d3
          have bg4 := HY.out.d4
          go_wp2_with fail
          refine (HLk.out _ HY.out).mono ?_
          rintro e w10 ⟨rfl, hb10⟩
          have HY := Hid.mk (HY.out.keep hb10)
          clear hb10
          clear ag0 ag1 ag2 ag3 ag4 bg0 bg1 bg2 bg3 bg4
          go_wp2_with fail
          go_ret
          exact ⟨by rw [HE.out]; rfl, HY.out.one.below⟩
end Go.Proofs.Ytjfbbdhmcljhnaa
