import Derived.Test.YtapjfocjeligiaaGreatDoorM24
import Derived.Test.YtapjfocjeligiaaGreatDoorM51
namespace Go.Proofs.YtapjfocjeligiaaGreatDoor
open Go.RowKit
set_option linter.unusedVariables false
set_option linter.unusedSimpArgs false

theorem cmpV_ne {ka kb : Int} (hk : ¬ ka = kb) (nc tc kc ic : Int) : cmpV ka kb nc tc kc ic = Pl.cmpI ka kb := by
  unfold cmpV Pl.cmpI
  by_cases h : ka < kb
  · rw [if_pos h, if_pos h]
  · rw [if_neg h, if_neg h, if_pos (by omega), if_pos (by omega)]
theorem cmpV_eq (k : Int) (nc tc kc ic : Int) : cmpV k k nc tc kc ic = if k = 3 then nc else if k = 4 then tc else if k = 5 then ic else if k = 6 then (if kc = 0 then ic else kc) else 0 := by
  unfold cmpV; rw [if_neg (by omega), if_neg (by omega)]
end Go.Proofs.YtapjfocjeligiaaGreatDoor
namespace Go.Proofs.YtapjfocjeligiaaGreatDoor
open Go.RowKit
set_option linter.unusedVariables false
set_option linter.unusedSimpArgs false

/-- both boxes of the reference's Cmp -/
structure RB2 (w u : World) (a b c d e a' b' c' d' e' : Value) : Prop where
  one : VBx w u a b c d e
  two : VBx (w.alloc (.cells #[a, b, c, d, e] 37)) u a' b' c' d' e'
theorem RB2.keep {w u u' : World} {a b c d e a' b' c' d' e' : Value} (h : RB2 w u a b c d e a' b' c' d' e') (hb : Below u.heap.size u u') : RB2 w u' a b c d e a' b' c' d' e' := ⟨h.one.keep hb, h.two.keep hb⟩
theorem rb2_new (w : World) (a b c d e a' b' c' d' e' : Value) : RB2 w ((w.alloc (.cells #[a, b, c, d, e] 37)).alloc (.cells #[a', b', c', d', e'] 37)) a b c d e a' b' c' d' e' :=
  ⟨(vbx_new w a b c d e).keep (below1 _ _), vbx_new _ a' b' c' d' e'⟩
theorem RB2.d0 {w u : World} {a b c d e a' b' c' d' e' : Value} (h : RB2 w u a b c d e a' b' c' d' e') : u.cell? ⟨w.heap.size + 1, 0, none⟩ = some a' := by have := h.two.c0; rwa [World.size_alloc] at this
theorem RB2.d1 {w u : World} {a b c d e a' b' c' d' e' : Value} (h : RB2 w u a b c d e a' b' c' d' e') : u.cell? ⟨w.heap.size + 1, 1, none⟩ = some b' := by have := h.two.c1; rwa [World.size_alloc] at this
theorem RB2.d2 {w u : World} {a b c d e a' b' c' d' e' : Value} (h : RB2 w u a b c d e a' b' c' d' e') : u.cell? ⟨w.heap.size + 1, 2, none⟩ = some c' := by have := h.two.c2; rwa [World.size_alloc] at this
theorem RB2.d3 {w u : World} {a b c d e a' b' c' d' e' : Value} (h : RB2 w u a b c d e a' b' c' d' e') : u.cell? ⟨w.heap.size + 1, 3, none⟩ = some d' := by have := h.two.c3; rwa [World.size_alloc] at this
theorem RB2.d4 {w u : World} {a b c d e a' b' c' d' e' : Value} (h : RB2 w u a b c d e a' b' c' d' e') : u.cell? ⟨w.heap.size + 1, 4, none⟩ = some e' := by have := h.two.c4; rwa [World.size_alloc] at this
end Go.Proofs.YtapjfocjeligiaaGreatDoor
namespace Go.Proofs.YtapjfocjeligiaaGreatDoor
open Go.RowKit Go.Shelf Go.Sort
set_option linter.unusedVariables false
set_option linter.unusedSimpArgs false

set_option maxRecDepth 100000 in
set_option maxHeartbeats 3200000 in
theorem sv_kind (w : World) (ka kb : Int) (an at_ : ByteArray) (aio : Option Addr) (aN aic : Nat) (ako : Option Addr) (aK akc : Nat) (bn bt : ByteArray) (bio : Option Addr) (bN bic : Nat) (bko : Option Addr) (bK bkc : Nat) (hk : ¬ ka = kb) :
    Calls Tryz.prog 41 #[.agg #[.int .i64 ka, .string an, .string at_, .slice aio aN aic, .slice ako aK akc], .agg #[.int .i64 kb, .string bn, .string bt, .slice bio bN bic, .slice bko bK bkc]] w fun e w' => e = .returned (.bool false) ∧ Below w.heap.size w w' := by
  obtain ⟨w1, hw1⟩ : ∃ w1, (w.alloc (.cells #[.int .i64 ka, .string an, .string at_, .slice aio aN aic, .slice ako aK akc] 37)).alloc (.cells #[.int .i64 kb, .string bn, .string bt, .slice bio bN bic, .slice bko bK bkc] 37) = w1 := ⟨_, rfl⟩
  have HBx : Hid (Below w.heap.size w w1) := by subst hw1; exact below2 _ _ _
  have HX : Hid (RB2 w w1 (.int .i64 ka) (.string an) (.string at_) (.slice aio aN aic) (.slice ako aK akc) (.int .i64 kb) (.string bn) (.string bt) (.slice bio bN bic) (.slice bko bK bkc)) := by subst hw1; exact rb2_new _ _ _ _ _ _ _ _ _ _ _
  have x0 := HX.out.one.c0
  have x1 := HX.out.one.c1
  have x2 := HX.out.one.c2
  have x3 := HX.out.one.c3
  have x4 := HX.out.one.c4
  have y0 := HX.out.d0
  have y1 := HX.out.d1
  have y2 := HX.out.d2
  have y3 := HX.out.d3
  have y4 := HX.out.d4
  have g1 : (ka != kb) = true := by simpa using hk
  go_enter Tryz.func41, Tryz.ntmps41
  go_wp2_with fail
  try simp only [hw1]
  clear hw1
  go_ret
  exact ⟨rfl, HBx.out⟩

set_option maxRecDepth 100000 in
set_option maxHeartbeats 3200000 in
theorem sv_num (w : World) (ka kb : Int) (an at_ : ByteArray) (aio : Option Addr) (aN aic : Nat) (ako : Option Addr) (aK akc : Nat) (bn bt : ByteArray) (bio : Option Addr) (bN bic : Nat) (bko : Option Addr) (bK bkc : Nat) (hk : ka = kb) (hn : (an.toList == bn.toList) = false) :
    Calls Tryz.prog 41 #[.agg #[.int .i64 ka, .string an, .string at_, .slice aio aN aic, .slice ako aK akc], .agg #[.int .i64 kb, .string bn, .string bt, .slice bio bN bic, .slice bko bK bkc]] w fun e w' => e = .returned (.bool false) ∧ Below w.heap.size w w' := by
  subst hk
  obtain ⟨w1, hw1⟩ : ∃ w1, (w.alloc (.cells #[.int .i64 ka, .string an, .string at_, .slice aio aN aic, .slice ako aK akc] 37)).alloc (.cells #[.int .i64 ka, .string bn, .string bt, .slice bio bN bic, .slice bko bK bkc] 37) = w1 := ⟨_, rfl⟩
  have HBx : Hid (Below w.heap.size w w1) := by subst hw1; exact below2 _ _ _
  have HX : Hid (RB2 w w1 (.int .i64 ka) (.string an) (.string at_) (.slice aio aN aic) (.slice ako aK akc) (.int .i64 ka) (.string bn) (.string bt) (.slice bio bN bic) (.slice bko bK bkc)) := by subst hw1; exact rb2_new _ _ _ _ _ _ _ _ _ _ _
  have x0 := HX.out.one.c0
  have x1 := HX.out.one.c1
  have x2 := HX.out.one.c2
  have x3 := HX.out.one.c3
  have x4 := HX.out.one.c4
  have y0 := HX.out.d0
  have y1 := HX.out.d1
  have y2 := HX.out.d2
  have y3 := HX.out.d3
  have y4 := HX.out.d4
  have g1 : (ka != ka) = false := by simp
  have g2 : (an.toList != bn.toList) = true := by simp only [bne]; rw [hn]; rfl
  go_enter Tryz.func41, Tryz.ntmps41
  go_wp2_with fail
  try simp only [hw1]
  clear hw1
  go_ret
  exact ⟨rfl, HBx.out⟩

set_option maxRecDepth 100000 in
set_option maxHeartbeats 3200000 in
theorem sv_text (w : World) (ka kb : Int) (an at_ : ByteArray) (aio : Option Addr) (aN aic : Nat) (ako : Option Addr) (aK akc : Nat) (bn bt : ByteArray) (bio : Option Addr) (bN bic : Nat) (bko : Option Addr) (bK bkc : Nat) (hk : ka = kb) (hn : (an.toList == bn.toList) = true) (hx : (at_.toList == bt.toList) = false) :
    Calls Tryz.prog 41 #[.agg #[.int .i64 ka, .string an, .string at_, .slice aio aN aic, .slice ako aK akc], .agg #[.int .i64 kb, .string bn, .string bt, .slice bio bN bic, .slice bko bK bkc]] w fun e w' => e = .returned (.bool false) ∧ Below w.heap.size w w' := by
  subst hk
  obtain ⟨w1, hw1⟩ : ∃ w1, (w.alloc (.cells #[.int .i64 ka, .string an, .string at_, .slice aio aN aic, .slice ako aK akc] 37)).alloc (.cells #[.int .i64 ka, .string bn, .string bt, .slice bio bN bic, .slice bko bK bkc] 37) = w1 := ⟨_, rfl⟩
  have HBx : Hid (Below w.heap.size w w1) := by subst hw1; exact below2 _ _ _
  have HX : Hid (RB2 w w1 (.int .i64 ka) (.string an) (.string at_) (.slice aio aN aic) (.slice ako aK akc) (.int .i64 ka) (.string bn) (.string bt) (.slice bio bN bic) (.slice bko bK bkc)) := by subst hw1; exact rb2_new _ _ _ _ _ _ _ _ _ _ _
  have x0 := HX.out.one.c0
  have x1 := HX.out.one.c1
  have x2 := HX.out.one.c2
  have x3 := HX.out.one.c3
  have x4 := HX.out.one.c4
  have y0 := HX.out.d0
  have y1 := HX.out.d1
  have y2 := HX.out.d2
  have y3 := HX.out.d3
  have y4 := HX.out.d4
  have g1 : (ka != ka) = false := by simp
  have g2 : (an.toList != bn.toList) = false := by simp only [bne]; rw [hn]; rfl
  have g3 : (at_.toList != bt.toList) = true := by simp only [bne]; rw [hx]; rfl
  go_enter Tryz.func41, Tryz.ntmps41
  go_wp2_with fail
  try simp only [hw1]
  clear hw1
  go_ret
  exact ⟨rfl, HBx.out⟩

set_option maxRecDepth 100000 in
set_option maxHeartbeats 3200000 in
theorem sv_rest (w : World) (ka kb : Int) (an at_ : ByteArray) (aio : Option Addr) (aN aic : Nat) (ako : Option Addr) (aK akc : Nat) (bn bt : ByteArray) (bio : Option Addr) (bN bic : Nat) (bko : Option Addr) (bK bkc : Nat) (hk : ka = kb) (hn : (an.toList == bn.toList) = true) (hx : (at_.toList == bt.toList) = true) (p q : Bool)
    (HV : Hid (∀ u, Below w.heap.size w u → Calls Tryz.prog 21 #[.slice aio aN aic, .slice bio bN bic] u fun e w' => e = .returned (.bool p) ∧ Below u.heap.size u w'))
    (HS : Hid (∀ u, Below w.heap.size w u → Calls Tryz.prog 65 #[.slice ako aK akc, .slice bko bK bkc] u fun e w' => e = .returned (.bool q) ∧ Below u.heap.size u w')) :
    Calls Tryz.prog 41 #[.agg #[.int .i64 ka, .string an, .string at_, .slice aio aN aic, .slice ako aK akc], .agg #[.int .i64 kb, .string bn, .string bt, .slice bio bN bic, .slice bko bK bkc]] w fun e w' => e = .returned (.bool (p && q)) ∧ Below w.heap.size w w' := by
  subst hk
  obtain ⟨w1, hw1⟩ : ∃ w1, (w.alloc (.cells #[.int .i64 ka, .string an, .string at_, .slice aio aN aic, .slice ako aK akc] 37)).alloc (.cells #[.int .i64 ka, .string bn, .string bt, .slice bio bN bic, .slice bko bK bkc] 37) = w1 := ⟨_, rfl⟩
  have HBx : Hid (Below w.heap.size w w1) := by subst hw1; exact below2 _ _ _
  have HX : Hid (RB2 w w1 (.int .i64 ka) (.string an) (.string at_) (.slice aio aN aic) (.slice ako aK akc) (.int .i64 ka) (.string bn) (.string bt) (.slice bio bN bic) (.slice bko bK bkc)) := by subst hw1; exact rb2_new _ _ _ _ _ _ _ _ _ _ _
  have x0 := HX.out.one.c0
  have x1 := HX.out.one.c1
  have x2 := HX.out.one.c2
  have x3 := HX.out.one.c3
  have x4 := HX.out.one.c4
  have y0 := HX.out.d0
  have y1 := HX.out.d1
  have y2 := HX.out.d2
  have y3 := HX.out.d3
  have y4 := HX.out.d4
  have g1 : (ka != ka) = false := by simp
  have g2 : (an.toList != bn.toList) = false := by simp only [bne]; rw [hn]; rfl
  have g3 : (at_.toList != bt.toList) = false := by simp only [bne]; rw [hx]; rfl
  go_enter Tryz.func41, Tryz.ntmps41
  go_wp2_with fail
  try simp only [hw1]
  clear hw1
  refine (HV.out w1 HBx.out).mono ?_
  rintro e w2 ⟨rfl, hb2⟩
  have HX2 := Hid.mk (HX.out.keep hb2)
  have HB2 := Hid.mk (HBx.out.trans (hb2.mono HBx.out.size))
  clear hb2 x0 x1 x2 x3 x4 y0 y1 y2 y3 y4
  have x0 := HX2.out.one.c0
  have x1 := HX2.out.one.c1
  have x2 := HX2.out.one.c2
  have x3 := HX2.out.one.c3
  have x4 := HX2.out.one.c4
  have y0 := HX2.out.d0
  have y1 := HX2.out.d1
  have y2 := HX2.out.d2
  have y3 := HX2.out.d3
  have y4 := HX2.out.d4
  cases p with
  | false =>
    go_wp2_with fail
    go_ret
    exact ⟨rfl, HB2.out⟩
  | true =>
    go_wp2_with fail
    refine (HS.out w2 HB2.out).mono ?_
    rintro e w3 ⟨rfl, hb3⟩
    have HB3 := Hid.mk (HB2.out.trans (hb3.mono HB2.out.size))
    clear hb3
    cases q with
    | false =>
      go_wp2_with fail
      go_ret
      exact ⟨rfl, HB3.out⟩
    | true =>
      go_wp2_with fail
      go_ret
      exact ⟨rfl, HB3.out⟩

theorem VT.extZ {A B : VT} (h1 : A.kind = B.kind) (h2 : A.num = B.num) (h3 : A.text = B.text) (h4 : A.items = B.items) (h5 : A.keys = B.keys) : A = B := by
  cases A; cases B
  simp only [VT.kind, VT.num, VT.text, VT.items, VT.keys] at h1 h2 h3 h4 h5
  subst h1; subst h2; subst h3; subst h4; subst h5; rfl

theorem w_SameValue : ∀ h, SvOk h
  | 0 => fun A B va vb w hA _ => hA.elim
  | h + 1 => by
    intro A B va vb w hA hB
    obtain ⟨aio, aic, ako, akc, ea, _, _, a3, a4, a5, a6, _, ak, ai⟩ := hA
    obtain ⟨bio, bic, bko, bkc, eb, _, _, b3, b4, b5, b6, _, bk, bi⟩ := hB
    subst ea
    subst eb
    have iA : IIn w h aio A.items := ⟨ai⟩
    have iB : IIn w h bio B.items := ⟨bi⟩
    by_cases hk : A.kind = B.kind
    · cases hn : (A.num.toList == B.num.toList) with
      | false =>
        rw [sm_no (fun e => beqZ_no hn (by rw [e]))]
        exact sv_num w _ _ _ _ _ _ _ _ _ _ _ _ _ _ _ _ _ _ hk hn
      | true =>
        cases hx : (A.text.toList == B.text.toList) with
        | false =>
          rw [sm_no (fun e => beqZ_no hx (by rw [e]))]
          exact sv_text w _ _ _ _ _ _ _ _ _ _ _ _ _ _ _ _ _ _ hk hn hx
        | true =>
          have e : sm A B = (sm A.items B.items && sm A.keys B.keys) := by
            cases hp : sm A.items B.items with
            | false => rw [Bool.false_and]; exact sm_no (fun e => by rw [e, sm_yes] at hp; cases hp)
            | true =>
              rw [Bool.true_and]
              cases hq : sm A.keys B.keys with
              | false => exact sm_no (fun e => by rw [e, sm_yes] at hq; cases hq)
              | true => exact sm_iff.2 (VT.extZ hk (beqZ_yes hn) (beqZ_yes hx) (sm_iff.1 hp) (sm_iff.1 hq))
          rw [e]
          exact sv_rest w _ _ _ _ _ _ _ _ _ _ _ _ _ _ _ _ _ _ hk hn hx _ _ (Hid.mk fun u hb => same_values h (w_SameValue h) _ _ _ _ _ _ _ _ u (iA.keep hb) (iB.keep hb) rfl rfl a5 b5 a3 b3) (Hid.mk fun u hb => w_SameStrings _ _ _ _ _ _ _ _ u (ak.keep hb) (bk.keep hb) rfl rfl a6 b6 a4 b4)
    · rw [sm_no (fun e => hk (by rw [e]))]
      exact sv_kind w _ _ _ _ _ _ _ _ _ _ _ _ _ _ _ _ _ _ hk

theorem w_SameValues (h : Nat) (ao : Option Addr) (M acap : Nat) (xs : List VT) (bo : Option Addr) (N bcap : Nat) (ys : List VT) (w : World) (ha : IIn w h ao xs) (hb : IIn w h bo ys) (hM : xs.length = M) (hN : ys.length = N) (hac : M ≤ acap) (hbc : N ≤ bcap) (hM2 : M ≤ 140737488355328) (hN2 : N ≤ 140737488355328) :
    Calls Tryz.prog 21 #[.slice ao M acap, .slice bo N bcap] w fun e w' => e = .returned (.bool (sm xs ys)) ∧ Below w.heap.size w w' := same_values h (w_SameValue h) ao M acap xs bo N bcap ys w ha hb hM hN hac hbc hM2 hN2
end Go.Proofs.YtapjfocjeligiaaGreatDoor
