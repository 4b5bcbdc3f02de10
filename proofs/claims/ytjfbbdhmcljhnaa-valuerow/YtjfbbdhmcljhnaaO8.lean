import Derived.Test.YtjfbbdhmcljhnaaO7
import Derived.Test.YtjfbbdhmcljhnaaE9z
namespace Go.Proofs.Ytjfbbdhmcljhnaa
open Go.RowKit
set_option linter.unusedVariables false
set_option linter.unusedSimpArgs false

/-- three boxes -/
structure VB3 (w u : World) (a0 a1 a2 a3 a4 b0 b1 b2 b3 b4 c0 c1 c2 c3 c4 : Value) : Prop where
  one : VBx w u a0 a1 a2 a3 a4
  two : VBx (w.alloc (.cells #[a0, a1, a2, a3, a4] 25)) u b0 b1 b2 b3 b4
  tri : VBx ((w.alloc (.cells #[a0, a1, a2, a3, a4] 25)).alloc (.cells #[b0, b1, b2, b3, b4] 25)) u c0 c1 c2 c3 c4
theorem VB3.keep {w u u' : World} {a0 a1 a2 a3 a4 b0 b1 b2 b3 b4 c0 c1 c2 c3 c4 : Value} (h : VB3 w u a0 a1 a2 a3 a4 b0 b1 b2 b3 b4 c0 c1 c2 c3 c4) (hb : Below u.heap.size u u') : VB3 w u' a0 a1 a2 a3 a4 b0 b1 b2 b3 b4 c0 c1 c2 c3 c4 := ⟨h.one.keep hb, h.two.keep hb, h.tri.keep hb⟩
theorem vb3_new (w : World) (a0 a1 a2 a3 a4 b0 b1 b2 b3 b4 c0 c1 c2 c3 c4 : Value) : VB3 w (((w.alloc (.cells #[a0, a1, a2, a3, a4] 25)).alloc (.cells #[b0, b1, b2, b3, b4] 25)).alloc (.cells #[c0, c1, c2, c3, c4] 25)) a0 a1 a2 a3 a4 b0 b1 b2 b3 b4 c0 c1 c2 c3 c4 :=
  ⟨((vbx_new w a0 a1 a2 a3 a4).keep (below1 _ _)).keep (below1 _ _), (vbx_new _ b0 b1 b2 b3 b4).keep (below1 _ _), vbx_new _ c0 c1 c2 c3 c4⟩
theorem VB3.t0 {w u : World} {a0 a1 a2 a3 a4 b0 b1 b2 b3 b4 c0 c1 c2 c3 c4 : Value} (h : VB3 w u a0 a1 a2 a3 a4 b0 b1 b2 b3 b4 c0 c1 c2 c3 c4) : u.cell? ⟨w.heap.size + 1, 0, none⟩ = some b0 := by have := h.two.c0; rwa [World.size_alloc] at this
theorem VB3.s0 {w u : World} {a0 a1 a2 a3 a4 b0 b1 b2 b3 b4 c0 c1 c2 c3 c4 : Value} (h : VB3 w u a0 a1 a2 a3 a4 b0 b1 b2 b3 b4 c0 c1 c2 c3 c4) : u.cell? ⟨w.heap.size + 1 + 1, 0, none⟩ = some c0 := by have := h.tri.c0; rwa [World.size_alloc, World.size_alloc] at this
theorem VB3.t1 {w u : World} {a0 a1 a2 a3 a4 b0 b1 b2 b3 b4 c0 c1 c2 c3 c4 : Value} (h : VB3 w u a0 a1 a2 a3 a4 b0 b1 b2 b3 b4 c0 c1 c2 c3 c4) : u.cell? ⟨w.heap.size + 1, 1, none⟩ = some b1 := by have := h.two.c1; rwa [World.size_alloc] at this
theorem VB3.s1 {w u : World} {a0 a1 a2 a3 a4 b0 b1 b2 b3 b4 c0 c1 c2 c3 c4 : Value} (h : VB3 w u a0 a1 a2 a3 a4 b0 b1 b2 b3 b4 c0 c1 c2 c3 c4) : u.cell? ⟨w.heap.size + 1 + 1, 1, none⟩ = some c1 := by have := h.tri.c1; rwa [World.size_alloc, World.size_alloc] at this
theorem VB3.t2 {w u : World} {a0 a1 a2 a3 a4 b0 b1 b2 b3 b4 c0 c1 c2 c3 c4 : Value} (h : VB3 w u a0 a1 a2 a3 a4 b0 b1 b2 b3 b4 c0 c1 c2 c3 c4) : u.cell? ⟨w.heap.size + 1, 2, none⟩ = some b2 := by have := h.two.c2; rwa [World.size_alloc] at this
theorem VB3.s2 {w u : World} {a0 a1 a2 a3 a4 b0 b1 b2 b3 b4 c0 c1 c2 c3 c4 : Value} (h : VB3 w u a0 a1 a2 a3 a4 b0 b1 b2 b3 b4 c0 c1 c2 c3 c4) : u.cell? ⟨w.heap.size + 1 + 1, 2, none⟩ = some c2 := by have := h.tri.c2; rwa [World.size_alloc, World.size_alloc] at this
theorem VB3.t3 {w u : World} {a0 a1 a2 a3 a4 b0 b1 b2 b3 b4 c0 c1 c2 c3 c4 : Value} (h : VB3 w u a0 a1 a2 a3 a4 b0 b1 b2 b3 b4 c0 c1 c2 c3 c4) : u.cell? ⟨w.heap.size + 1, 3, none⟩ = some b3 := by have := h.two.c3; rwa [World.size_alloc] at this
theorem VB3.s3 {w u : World} {a0 a1 a2 a3 a4 b0 b1 b2 b3 b4 c0 c1 c2 c3 c4 : Value} (h : VB3 w u a0 a1 a2 a3 a4 b0 b1 b2 b3 b4 c0 c1 c2 c3 c4) : u.cell? ⟨w.heap.size + 1 + 1, 3, none⟩ = some c3 := by have := h.tri.c3; rwa [World.size_alloc, World.size_alloc] at this
theorem VB3.t4 {w u : World} {a0 a1 a2 a3 a4 b0 b1 b2 b3 b4 c0 c1 c2 c3 c4 : Value} (h : VB3 w u a0 a1 a2 a3 a4 b0 b1 b2 b3 b4 c0 c1 c2 c3 c4) : u.cell? ⟨w.heap.size + 1, 4, none⟩ = some b4 := by have := h.two.c4; rwa [World.size_alloc] at this
theorem VB3.s4 {w u : World} {a0 a1 a2 a3 a4 b0 b1 b2 b3 b4 c0 c1 c2 c3 c4 : Value} (h : VB3 w u a0 a1 a2 a3 a4 b0 b1 b2 b3 b4 c0 c1 c2 c3 c4) : u.cell? ⟨w.heap.size + 1 + 1, 4, none⟩ = some c4 := by have := h.tri.c4; rwa [World.size_alloc, World.size_alloc] at this

/-- what the order of three values comes to -/
structure Row3 (ab ba bc ac aa : Int) (lk : Bool) : Prop where
  lo : ¬ ab < -1
  hi : ¬ 1 < ab
  sw : ba = - ab
  tr : ab ≤ 0 → bc ≤ 0 → ¬ 0 < ac
  aa : aa = 0
  lk : ab = 0 → lk = true
theorem row3 {h : Nat} {A B C : VT} (ha : formN h A = true) (hb : formN h B = true) (hc : formN h C = true) : Row3 (cmpH h A B) (cmpH h B A) (cmpH h B C) (cmpH h A C) (cmpH h A A) (likeD A B) := by
  have o := cmpH_ord h
  have b := o.bd A B ha hb
  exact ⟨by omega, by omega, o.sw A B ha hb, fun h1 h2 => by have := o.tr A B C ha hb hc h1 h2; omega, o.rf ha, fun h0 => likeD_iff.2 (o.zr A B ha hb h0)⟩

set_option maxRecDepth 100000 in
set_option maxHeartbeats 6400000 in
theorem w_ValueRow (h : Nat) (A B C : VT) (w : World) (xak : Int) (xan xat : ByteArray) (xaio : Option Addr) (xaN xaic : Nat) (xako : Option Addr) (xaK xakc : Nat) (xbk : Int) (xbn xbt : ByteArray) (xbio : Option Addr) (xbN xbic : Nat) (xbko : Option Addr) (xbK xbkc : Nat) (xck : Int) (xcn xct : ByteArray) (xcio : Option Addr) (xcN xcic : Nat) (xcko : Option Addr) (xcK xckc : Nat) (hA : InH w h A (.agg #[.int .i64 xak, .string xan, .string xat, .slice xaio xaN xaic, .slice xako xaK xakc])) (hB : InH w h B (.agg #[.int .i64 xbk, .string xbn, .string xbt, .slice xbio xbN xbic, .slice xbko xbK xbkc])) (hC : InH w h C (.agg #[.int .i64 xck, .string xcn, .string xct, .slice xcio xcN xcic, .slice xcko xcK xckc])) :
    Calls Try.prog 5 #[.agg #[.int .i64 xak, .string xan, .string xat, .slice xaio xaN xaic, .slice xako xaK xakc], .agg #[.int .i64 xbk, .string xbn, .string xbt, .slice xbio xbN xbic, .slice xbko xbK xbkc], .agg #[.int .i64 xck, .string xcn, .string xct, .slice xcio xcN xcic, .slice xcko xcK xckc]] w fun e w' => e = .returned (.bool true) ∧ Below w.heap.size w w' := by
  have HX := Hid.mk (vb3_new w (.int .i64 xak) (.string xan) (.string xat) (.slice xaio xaN xaic) (.slice xako xaK xakc) (.int .i64 xbk) (.string xbn) (.string xbt) (.slice xbio xbN xbic) (.slice xbko xbK xbkc) (.int .i64 xck) (.string xcn) (.string xct) (.slice xcio xcN xcic) (.slice xcko xcK xckc))
  have HSa := Hid.mk (fun u (hu : VB3 w u (.int .i64 xak) (.string xan) (.string xat) (.slice xaio xaN xaic) (.slice xako xaK xakc) (.int .i64 xbk) (.string xbn) (.string xbt) (.slice xbio xbN xbic) (.slice xbko xbK xbkc) (.int .i64 xck) (.string xcn) (.string xct) (.slice xcio xcN xcic) (.slice xcko xcK xckc)) => w_small h A _ u (hA.keep hu.one.below))
  have HFa := Hid.mk (fun u (hu : VB3 w u (.int .i64 xak) (.string xan) (.string xat) (.slice xaio xaN xaic) (.slice xako xaK xakc) (.int .i64 xbk) (.string xbn) (.string xbt) (.slice xbio xbN xbic) (.slice xbko xbK xbkc) (.int .i64 xck) (.string xcn) (.string xct) (.slice xcio xcN xcic) (.slice xcko xcK xckc)) => w_rFormed h A _ u (hA.keep hu.one.below))
  have HSb := Hid.mk (fun u (hu : VB3 w u (.int .i64 xak) (.string xan) (.string xat) (.slice xaio xaN xaic) (.slice xako xaK xakc) (.int .i64 xbk) (.string xbn) (.string xbt) (.slice xbio xbN xbic) (.slice xbko xbK xbkc) (.int .i64 xck) (.string xcn) (.string xct) (.slice xcio xcN xcic) (.slice xcko xcK xckc)) => w_small h B _ u (hB.keep hu.one.below))
  have HFb := Hid.mk (fun u (hu : VB3 w u (.int .i64 xak) (.string xan) (.string xat) (.slice xaio xaN xaic) (.slice xako xaK xakc) (.int .i64 xbk) (.string xbn) (.string xbt) (.slice xbio xbN xbic) (.slice xbko xbK xbkc) (.int .i64 xck) (.string xcn) (.string xct) (.slice xcio xcN xcic) (.slice xcko xcK xckc)) => w_rFormed h B _ u (hB.keep hu.one.below))
  have HSc := Hid.mk (fun u (hu : VB3 w u (.int .i64 xak) (.string xan) (.string xat) (.slice xaio xaN xaic) (.slice xako xaK xakc) (.int .i64 xbk) (.string xbn) (.string xbt) (.slice xbio xbN xbic) (.slice xbko xbK xbkc) (.int .i64 xck) (.string xcn) (.string xct) (.slice xcio xcN xcic) (.slice xcko xcK xckc)) => w_small h C _ u (hC.keep hu.one.below))
  have HFc := Hid.mk (fun u (hu : VB3 w u (.int .i64 xak) (.string xan) (.string xat) (.slice xaio xaN xaic) (.slice xako xaK xakc) (.int .i64 xbk) (.string xbn) (.string xbt) (.slice xbio xbN xbic) (.slice xbko xbK xbkc) (.int .i64 xck) (.string xcn) (.string xct) (.slice xcio xcN xcic) (.slice xcko xcK xckc)) => w_rFormed h C _ u (hC.keep hu.one.below))
  have HCab := Hid.mk (fun u (hu : VB3 w u (.int .i64 xak) (.string xan) (.string xat) (.slice xaio xaN xaic) (.slice xako xaK xakc) (.int .i64 xbk) (.string xbn) (.string xbt) (.slice xbio xbN xbic) (.slice xbko xbK xbkc) (.int .i64 xck) (.string xcn) (.string xct) (.slice xcio xcN xcic) (.slice xcko xcK xckc)) => w_vCmp h A B _ _ u (hA.keep hu.one.below) (hB.keep hu.one.below))
  have HCba := Hid.mk (fun u (hu : VB3 w u (.int .i64 xak) (.string xan) (.string xat) (.slice xaio xaN xaic) (.slice xako xaK xakc) (.int .i64 xbk) (.string xbn) (.string xbt) (.slice xbio xbN xbic) (.slice xbko xbK xbkc) (.int .i64 xck) (.string xcn) (.string xct) (.slice xcio xcN xcic) (.slice xcko xcK xckc)) => w_vCmp h B A _ _ u (hB.keep hu.one.below) (hA.keep hu.one.below))
  have HCbc := Hid.mk (fun u (hu : VB3 w u (.int .i64 xak) (.string xan) (.string xat) (.slice xaio xaN xaic) (.slice xako xaK xakc) (.int .i64 xbk) (.string xbn) (.string xbt) (.slice xbio xbN xbic) (.slice xbko xbK xbkc) (.int .i64 xck) (.string xcn) (.string xct) (.slice xcio xcN xcic) (.slice xcko xcK xckc)) => w_vCmp h B C _ _ u (hB.keep hu.one.below) (hC.keep hu.one.below))
  have HCac := Hid.mk (fun u (hu : VB3 w u (.int .i64 xak) (.string xan) (.string xat) (.slice xaio xaN xaic) (.slice xako xaK xakc) (.int .i64 xbk) (.string xbn) (.string xbt) (.slice xbio xbN xbic) (.slice xbko xbK xbkc) (.int .i64 xck) (.string xcn) (.string xct) (.slice xcio xcN xcic) (.slice xcko xcK xckc)) => w_vCmp h A C _ _ u (hA.keep hu.one.below) (hC.keep hu.one.below))
  have HCaa := Hid.mk (fun u (hu : VB3 w u (.int .i64 xak) (.string xan) (.string xat) (.slice xaio xaN xaic) (.slice xako xaK xakc) (.int .i64 xbk) (.string xbn) (.string xbt) (.slice xbio xbN xbic) (.slice xbko xbK xbkc) (.int .i64 xck) (.string xcn) (.string xct) (.slice xcio xcN xcic) (.slice xcko xcK xckc)) => w_vCmp h A A _ _ u (hA.keep hu.one.below) (hA.keep hu.one.below))
  have HLk := Hid.mk (fun u (hu : VB3 w u (.int .i64 xak) (.string xan) (.string xat) (.slice xaio xaN xaic) (.slice xako xaK xakc) (.int .i64 xbk) (.string xbn) (.string xbt) (.slice xbio xbN xbic) (.slice xbko xbK xbkc) (.int .i64 xck) (.string xcn) (.string xct) (.slice xcio xcN xcic) (.slice xcko xcK xckc)) => w_Like h A B _ _ u (hA.keep hu.one.below) (hB.keep hu.one.below))
  have HR := Hid.mk (fun a b c => @row3 h A B C a b c)
  clear hA hB hC
  generalize formN h A = fa at HFa HR
  generalize formN h B = fb at HFb HR
  generalize formN h C = fc at HFc HR
  generalize cmpH h A B = ab at HCab HR
  generalize cmpH h B A = ba at HCba HR
  generalize cmpH h B C = bc at HCbc HR
  generalize cmpH h A C = ac at HCac HR
  generalize cmpH h A A = aa at HCaa HR
  generalize likeD A B = lk at HLk HR
  go_enter Try.func5, Try.ntmps5
  go_wp2_with fail
  refine (vcmp_ne _ 0 5 (by decide) _ _ _ _ _ _ _ _ _ _ _ _ _ _ _ _).mono ?_
  rintro e w1 ⟨rfl, hb1⟩
  have hm1 : Pl.cmpI 0 5 = -1 := by decide
  rw [hm1]
  have HY := Hid.mk (HX.out.keep hb1)
  clear hb1 hm1 HX
  have ag0 := HY.out.one.c0
  have ag1 := HY.out.one.c1
  have ag2 := HY.out.one.c2
  have ag3 := HY.out.one.c3
  have ag4 := HY.out.one.c4
  have bg0 := HY.out.t0
  have bg1 := HY.out.t1
  have bg2 := HY.out.t2
  have bg3 := HY.out.t3
  have bg4 := HY.out.t4
  have cg0 := HY.out.s0
  have cg1 := HY.out.s1
  have cg2 := HY.out.s2
  have cg3 := HY.out.s3
  have cg4 := HY.out.s4
  go_wp2_with fail
  refine (HSa.out _ HY.out).mono ?_
  rintro e w2 ⟨b2, rfl, hb2⟩
  have HY := Hid.mk (HY.out.keep hb2)
  clear hb2
  cases b2 with
  | false =>
    go_wp2_with fail
    go_ret
    exact ⟨rfl, HY.out.one.below⟩
  | true =>
    clear ag0 ag1 ag2 ag3 ag4 bg0 bg1 bg2 bg3 bg4 cg0 cg1 cg2 cg3 cg4
    have ag0 := HY.out.one.c0
    have ag1 := HY.out.one.c1
    have ag2 := HY.out.one.c2
    have ag3 := HY.out.one.c3
    have ag4 := HY.out.one.c4
    have bg0 := HY.out.t0
    have bg1 := HY.out.t1
    have bg2 := HY.out.t2
    have bg3 := HY.out.t3
    have bg4 := HY.out.t4
    have cg0 := HY.out.s0
    have cg1 := HY.out.s1
    have cg2 := HY.out.s2
    have cg3 := HY.out.s3
    have cg4 := HY.out.s4
    go_wp2_with fail
    refine (HSb.out _ HY.out).mono ?_
    rintro e w3 ⟨b3, rfl, hb3⟩
    have HY := Hid.mk (HY.out.keep hb3)
    clear hb3
    cases b3 with
    | false =>
      go_wp2_with fail
      go_ret
      exact ⟨rfl, HY.out.one.below⟩
    | true =>
      clear ag0 ag1 ag2 ag3 ag4 bg0 bg1 bg2 bg3 bg4 cg0 cg1 cg2 cg3 cg4
      have ag0 := HY.out.one.c0
      have ag1 := HY.out.one.c1
      have ag2 := HY.out.one.c2
      have ag3 := HY.out.one.c3
      have ag4 := HY.out.one.c4
      have bg0 := HY.out.t0
      have bg1 := HY.out.t1
      have bg2 := HY.out.t2
      have bg3 := HY.out.t3
      have bg4 := HY.out.t4
      have cg0 := HY.out.s0
      have cg1 := HY.out.s1
      have cg2 := HY.out.s2
      have cg3 := HY.out.s3
      have cg4 := HY.out.s4
      go_wp2_with fail
      refine (HSc.out _ HY.out).mono ?_
      rintro e w4 ⟨b4, rfl, hb4⟩
      have HY := Hid.mk (HY.out.keep hb4)
      clear hb4
      cases b4 with
      | false =>
        go_wp2_with fail
        go_ret
        exact ⟨rfl, HY.out.one.below⟩
      | true =>
        clear ag0 ag1 ag2 ag3 ag4 bg0 bg1 bg2 bg3 bg4 cg0 cg1 cg2 cg3 cg4
        have ag0 := HY.out.one.c0
        have ag1 := HY.out.one.c1
        have ag2 := HY.out.one.c2
        have ag3 := HY.out.one.c3
        have ag4 := HY.out.one.c4
        have bg0 := HY.out.t0
        have bg1 := HY.out.t1
        have bg2 := HY.out.t2
        have bg3 := HY.out.t3
        have bg4 := HY.out.t4
        have cg0 := HY.out.s0
        have cg1 := HY.out.s1
        have cg2 := HY.out.s2
        have cg3 := HY.out.s3
        have cg4 := HY.out.s4
        go_wp2_with fail
        refine (HFa.out _ HY.out).mono ?_
        rintro e w5 ⟨rfl, hb5⟩
        have HY := Hid.mk (HY.out.keep hb5)
        clear hb5
        cases fa with
        | false =>
          go_wp2_with fail
          go_ret
          exact ⟨rfl, HY.out.one.below⟩
        | true =>
          clear ag0 ag1 ag2 ag3 ag4 bg0 bg1 bg2 bg3 bg4 cg0 cg1 cg2 cg3 cg4
          have ag0 := HY.out.one.c0
          have ag1 := HY.out.one.c1
          have ag2 := HY.out.one.c2
          have ag3 := HY.out.one.c3
          have ag4 := HY.out.one.c4
          have bg0 := HY.out.t0
          have bg1 := HY.out.t1
          have bg2 := HY.out.t2
          have bg3 := HY.out.t3
          have bg4 := HY.out.t4
          have cg0 := HY.out.s0
          have cg1 := HY.out.s1
          have cg2 := HY.out.s2
          have cg3 := HY.out.s3
          have cg4 := HY.out.s4
          go_wp2_with fail
          refine (HFb.out _ HY.out).mono ?_
          rintro e w6 ⟨rfl, hb6⟩
          have HY := Hid.mk (HY.out.keep hb6)
          clear hb6
          cases fb with
          | false =>
            go_wp2_with fail
            go_ret
            exact ⟨rfl, HY.out.one.below⟩
          | true =>
            clear ag0 ag1 ag2 ag3 ag4 bg0 bg1 bg2 bg3 bg4 cg0 cg1 cg2 cg3 cg4
            have ag0 := HY.out.one.c0
            have ag1 := HY.out.one.c1
            have ag2 := HY.out.one.c2
            have ag3 := HY.out.one.c3
            have ag4 := HY.out.one.c4
            have bg0 := HY.out.t0
            have bg1 := HY.out.t1
            have bg2 := HY.out.t2
            have bg3 := HY.out.t3
            have bg4 := HY.out.t4
            have cg0 := HY.out.s0
            have cg1 := HY.out.s1
            have cg2 := HY.out.s2
            have cg3 := HY.out.s3
            have cg4 := HY.out.s4
            go_wp2_with fail
            refine (HFc.out _ HY.out).mono ?_
            rintro e w7 ⟨rfl, hb7⟩
            have HY := Hid.mk (HY.out.keep hb7)
            clear hb7
            cases fc with
            | false =>
              go_wp2_with fail
              go_ret
              exact ⟨rfl, HY.out.one.below⟩
            | true =>
              have hR := HR.out (by first | trivial | rfl) (by first | trivial | rfl) (by first | trivial | rfl)
              obtain ⟨h1, h2, h3, h4, h5, h6⟩ := hR
              subst h3
              subst h5
              have hneg : IntKind.i64.wrap (-(-ab)) = ab := by rw [IntKind.wrap_i64]; omega
              have hneg2 : -(-ab) = ab := by omega
              have H4 := Hid.mk h4
              have H6 := Hid.mk h6
              clear h4 h6 HR
              clear ag0 ag1 ag2 ag3 ag4 bg0 bg1 bg2 bg3 bg4 cg0 cg1 cg2 cg3 cg4
              have ag0 := HY.out.one.c0
              have ag1 := HY.out.one.c1
              have ag2 := HY.out.one.c2
              have ag3 := HY.out.one.c3
              have ag4 := HY.out.one.c4
              have bg0 := HY.out.t0
              have bg1 := HY.out.t1
              have bg2 := HY.out.t2
              have bg3 := HY.out.t3
              have bg4 := HY.out.t4
              have cg0 := HY.out.s0
              have cg1 := HY.out.s1
              have cg2 := HY.out.s2
              have cg3 := HY.out.s3
              have cg4 := HY.out.s4
              go_wp2_with fail
              refine (HCab.out _ HY.out).mono ?_
              rintro e w8 ⟨rfl, hb8⟩
              have HY := Hid.mk (HY.out.keep hb8)
              clear hb8
              clear ag0 ag1 ag2 ag3 ag4 bg0 bg1 bg2 bg3 bg4 cg0 cg1 cg2 cg3 cg4
              have ag0 := HY.out.one.c0
              have ag1 := HY.out.one.c1
              have ag2 := HY.out.one.c2
              have ag3 := HY.out.one.c3
              have ag4 := HY.out.one.c4
              have bg0 := HY.out.t0
              have bg1 := HY.out.t1
              have bg2 := HY.out.t2
              have bg3 := HY.out.t3
              have bg4 := HY.out.t4
              have cg0 := HY.out.s0
              have cg1 := HY.out.s1
              have cg2 := HY.out.s2
              have cg3 := HY.out.s3
              have cg4 := HY.out.s4
              go_wp2_with fail
              refine (HCba.out _ HY.out).mono ?_
              rintro e w9 ⟨rfl, hb9⟩
              have HY := Hid.mk (HY.out.keep hb9)
              clear hb9
              clear ag0 ag1 ag2 ag3 ag4 bg0 bg1 bg2 bg3 bg4 cg0 cg1 cg2 cg3 cg4
              have ag0 := HY.out.one.c0
              have ag1 := HY.out.one.c1
              have ag2 := HY.out.one.c2
              have ag3 := HY.out.one.c3
              have ag4 := HY.out.one.c4
              have bg0 := HY.out.t0
              have bg1 := HY.out.t1
              have bg2 := HY.out.t2
              have bg3 := HY.out.t3
              have bg4 := HY.out.t4
              have cg0 := HY.out.s0
              have cg1 := HY.out.s1
              have cg2 := HY.out.s2
              have cg3 := HY.out.s3
              have cg4 := HY.out.s4
              go_wp2_with fail
              refine (HCbc.out _ HY.out).mono ?_
              rintro e w10 ⟨rfl, hb10⟩
              have HY := Hid.mk (HY.out.keep hb10)
              clear hb10
              clear ag0 ag1 ag2 ag3 ag4 bg0 bg1 bg2 bg3 bg4 cg0 cg1 cg2 cg3 cg4
              have ag0 := HY.out.one.c0
              have ag1 := HY.out.one.c1
              have ag2 := HY.out.one.c2
              have ag3 := HY.out.one.c3
              have ag4 := HY.out.one.c4
              have bg0 := HY.out.t0
              have bg1 := HY.out.t1
              have bg2 := HY.out.t2
              have bg3 := HY.out.t3
              have bg4 := HY.out.t4
              have cg0 := HY.out.s0
              have cg1 := HY.out.s1
              have cg2 := HY.out.s2
              have cg3 := HY.out.s3
              have cg4 := HY.out.s4
              go_wp2_with fail
              refine (HCac.out _ HY.out).mono ?_
              rintro e w11 ⟨rfl, hb11⟩
              have HY := Hid.mk (HY.out.keep hb11)
              clear hb11
              clear ag0 ag1 ag2 ag3 ag4 bg0 bg1 bg2 bg3 bg4 cg0 cg1 cg2 cg3 cg4
              have ag0 := HY.out.one.c0
              have ag1 := HY.out.one.c1
              have ag2 := HY.out.one.c2
              have ag3 := HY.out.one.c3
              have ag4 := HY.out.one.c4
              have bg0 := HY.out.t0
              have bg1 := HY.out.t1
              have bg2 := HY.out.t2
              have bg3 := HY.out.t3
              have bg4 := HY.out.t4
              have cg0 := HY.out.s0
              have cg1 := HY.out.s1
              have cg2 := HY.out.s2
              have cg3 := HY.out.s3
              have cg4 := HY.out.s4
              by_cases ha : ab ≤ 0
              · by_cases hb : bc ≤ 0
                · have hc := H4.out ha hb
                  go_wp2_with fail
                  refine (HCaa.out _ HY.out).mono ?_
                  rintro e w20 ⟨rfl, hb20⟩
                  have HY := Hid.mk (HY.out.keep hb20)
                  clear hb20
                  clear ag0 ag1 ag2 ag3 ag4 bg0 bg1 bg2 bg3 bg4 cg0 cg1 cg2 cg3 cg4
                  have ag0 := HY.out.one.c0
                  have ag1 := HY.out.one.c1
                  have ag2 := HY.out.one.c2
                  have ag3 := HY.out.one.c3
                  have ag4 := HY.out.one.c4
                  have bg0 := HY.out.t0
                  have bg1 := HY.out.t1
                  have bg2 := HY.out.t2
                  have bg3 := HY.out.t3
                  have bg4 := HY.out.t4
                  have cg0 := HY.out.s0
                  have cg1 := HY.out.s1
                  have cg2 := HY.out.s2
                  have cg3 := HY.out.s3
                  have cg4 := HY.out.s4
                  by_cases h0 : ab = 0
                  · have HT := Hid.mk (H6.out h0)
                    subst h0
                    go_wp2_with fail
                    refine (HLk.out _ HY.out).mono ?_
                    rintro e w21 ⟨rfl, hb21⟩
                    have HY := Hid.mk (HY.out.keep hb21)
                    clear hb21
                    clear ag0 ag1 ag2 ag3 ag4 bg0 bg1 bg2 bg3 bg4 cg0 cg1 cg2 cg3 cg4
                    go_wp2_with fail
                    go_ret
                    exact ⟨by rw [HT.out]; rfl, HY.out.one.below⟩
                  · have h0' : (ab != 0) = true := by simpa using h0
                    clear h0
                    go_wp2_with fail
                    go_ret
                    exact ⟨rfl, HY.out.one.below⟩
                · go_wp2_with fail
                  refine (HCaa.out _ HY.out).mono ?_
                  rintro e w20 ⟨rfl, hb20⟩
                  have HY := Hid.mk (HY.out.keep hb20)
                  clear hb20
                  clear ag0 ag1 ag2 ag3 ag4 bg0 bg1 bg2 bg3 bg4 cg0 cg1 cg2 cg3 cg4
                  have ag0 := HY.out.one.c0
                  have ag1 := HY.out.one.c1
                  have ag2 := HY.out.one.c2
                  have ag3 := HY.out.one.c3
                  have ag4 := HY.out.one.c4
                  have bg0 := HY.out.t0
                  have bg1 := HY.out.t1
                  have bg2 := HY.out.t2
                  have bg3 := HY.out.t3
                  have bg4 := HY.out.t4
                  have cg0 := HY.out.s0
                  have cg1 := HY.out.s1
                  have cg2 := HY.out.s2
                  have cg3 := HY.out.s3
                  have cg4 := HY.out.s4
                  by_cases h0 : ab = 0
                  · have HT := Hid.mk (H6.out h0)
                    subst h0
                    go_wp2_with fail
                    refine (HLk.out _ HY.out).mono ?_
                    rintro e w21 ⟨rfl, hb21⟩
                    have HY := Hid.mk (HY.out.keep hb21)
                    clear hb21
                    clear ag0 ag1 ag2 ag3 ag4 bg0 bg1 bg2 bg3 bg4 cg0 cg1 cg2 cg3 cg4
                    go_wp2_with fail
                    go_ret
                    exact ⟨by rw [HT.out]; rfl, HY.out.one.below⟩
                  · have h0' : (ab != 0) = true := by simpa using h0
                    clear h0
                    go_wp2_with fail
                    go_ret
                    exact ⟨rfl, HY.out.one.below⟩
              · go_wp2_with fail
                refine (HCaa.out _ HY.out).mono ?_
                rintro e w20 ⟨rfl, hb20⟩
                have HY := Hid.mk (HY.out.keep hb20)
                clear hb20
                clear ag0 ag1 ag2 ag3 ag4 bg0 bg1 bg2 bg3 bg4 cg0 cg1 cg2 cg3 cg4
                have ag0 := HY.out.one.c0
                have ag1 := HY.out.one.c1
                have ag2 := HY.out.one.c2
                have ag3 := HY.out.one.c3
                have ag4 := HY.out.one.c4
                have bg0 := HY.out.t0
                have bg1 := HY.out.t1
                have bg2 := HY.out.t2
                have bg3 := HY.out.t3
                have bg4 := HY.out.t4
                have cg0 := HY.out.s0
                have cg1 := HY.out.s1
                have cg2 := HY.out.s2
                have cg3 := HY.out.s3
                have cg4 := HY.out.s4
                by_cases h0 : ab = 0
                · have HT := Hid.mk (H6.out h0)
                  subst h0
                  go_wp2_with fail
                  refine (HLk.out _ HY.out).mono ?_
                  rintro e w21 ⟨rfl, hb21⟩
                  have HY := Hid.mk (HY.out.keep hb21)
                  clear hb21
                  clear ag0 ag1 ag2 ag3 ag4 bg0 bg1 bg2 bg3 bg4 cg0 cg1 cg2 cg3 cg4
                  go_wp2_with fail
                  go_ret
                  exact ⟨by rw [HT.out]; rfl, HY.out.one.below⟩
                · have h0' : (ab != 0) = true := by simpa using h0
                  clear h0
                  go_wp2_with fail
                  go_ret
                  exact ⟨rfl, HY.out.one.below⟩
end Go.Proofs.Ytjfbbdhmcljhnaa
