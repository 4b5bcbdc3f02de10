import Derived.Test.YtkoednenjnnjoaaDoorZW29
import Derived.Test.YtkoednenjnnjoaaDoorZW21
import Derived.Test.YtkoednenjnnjoaaDoorM27
namespace Go.Proofs.YtkoednenjnnjoaaDoor
open Go.RowKit
set_option linter.unusedVariables false
set_option linter.unusedSimpArgs false

/-- two values' boxes -/
structure VW2 (w u : World) (a0 a1 a2 a3 a4 b0 b1 b2 b3 b4 : Value) : Prop where
  below : Below w.heap.size w u
  ca : u.heap[w.heap.size]? = some (.cells #[a0, a1, a2, a3, a4] 25 (0, 0))
  cb : u.heap[w.heap.size + 1]? = some (.cells #[b0, b1, b2, b3, b4] 25 (0, 0))
theorem VW2.keep {w u u' : World} {a0 a1 a2 a3 a4 b0 b1 b2 b3 b4 : Value} (h : VW2 w u a0 a1 a2 a3 a4 b0 b1 b2 b3 b4) (hb : Below u.heap.size u u') : VW2 w u' a0 a1 a2 a3 a4 b0 b1 b2 b3 b4 :=
  ⟨h.below.trans (hb.mono h.below.size), (hb.block _ (heap_lt h.ca)).trans h.ca, (hb.block _ (heap_lt h.cb)).trans h.cb⟩
theorem vw2_new (w : World) (a0 a1 a2 a3 a4 b0 b1 b2 b3 b4 : Value) : VW2 w ((w.alloc (.cells #[a0, a1, a2, a3, a4] 25)).alloc (.cells #[b0, b1, b2, b3, b4] 25)) a0 a1 a2 a3 a4 b0 b1 b2 b3 b4 := by
  refine ⟨((Below.refl _ _).alloc (Nat.le_refl _) _).alloc (by simp) _, ?_, ?_⟩
  · rw [Lib.alloc_old _ _ _ (by simp)]
    exact heap_alloc_new w _
  · have e := heap_alloc_new (w.alloc (.cells #[a0, a1, a2, a3, a4] 25)) (.cells #[b0, b1, b2, b3, b4] 25)
    rw [World.size_alloc] at e
    exact e
theorem VW2.cells {w u : World} {a0 a1 a2 a3 a4 b0 b1 b2 b3 b4 : Value} (h : VW2 w u a0 a1 a2 a3 a4 b0 b1 b2 b3 b4) : (u.cell? ⟨w.heap.size, 0, none⟩ = some a0 ∧ u.cell? ⟨w.heap.size, 1, none⟩ = some a1 ∧ u.cell? ⟨w.heap.size, 2, none⟩ = some a2 ∧ u.cell? ⟨w.heap.size, 3, none⟩ = some a3 ∧ u.cell? ⟨w.heap.size, 4, none⟩ = some a4) ∧
    (u.cell? ⟨w.heap.size + 1, 0, none⟩ = some b0 ∧ u.cell? ⟨w.heap.size + 1, 1, none⟩ = some b1 ∧ u.cell? ⟨w.heap.size + 1, 2, none⟩ = some b2 ∧ u.cell? ⟨w.heap.size + 1, 3, none⟩ = some b3 ∧ u.cell? ⟨w.heap.size + 1, 4, none⟩ = some b4) :=
  ⟨⟨by rw [Lib.cell_of_heap h.ca]; rfl, by rw [Lib.cell_of_heap h.ca]; rfl, by rw [Lib.cell_of_heap h.ca]; rfl, by rw [Lib.cell_of_heap h.ca]; rfl, by rw [Lib.cell_of_heap h.ca]; rfl⟩,
   ⟨by rw [Lib.cell_of_heap h.cb]; rfl, by rw [Lib.cell_of_heap h.cb]; rfl, by rw [Lib.cell_of_heap h.cb]; rfl, by rw [Lib.cell_of_heap h.cb]; rfl, by rw [Lib.cell_of_heap h.cb]; rfl⟩⟩

set_option maxRecDepth 100000 in
set_option maxHeartbeats 6400000 in
theorem w_WriterOne (h : Nat) (TA TB : VT) (w : World) (ka : Int) (an at_ : ByteArray) (aio : Option Addr) (aN aic : Nat) (ako : Option Addr) (aK akc : Nat) (kb : Int) (bn bt : ByteArray) (bio : Option Addr) (bN bic : Nat) (bko : Option Addr) (bK bkc : Nat) (sp : Int) (hIA : InH w h TA (.agg #[.int .i64 ka, .string an, .string at_, .slice aio aN aic, .slice ako aK akc])) (hIB : InH w h TB (.agg #[.int .i64 kb, .string bn, .string bt, .slice bio bN bic, .slice bko bK bkc])) (hsA : ShV h TA) (hsB : ShV h TB) (hwd : WordsAt w) :
    Calls Tryd.prog 6 #[(.agg #[.int .i64 ka, .string an, .string at_, .slice aio aN aic, .slice ako aK akc]), (.agg #[.int .i64 kb, .string bn, .string bt, .slice bio bN bic, .slice bko bK bkc]), .int .i64 sp] w fun e w' => e = .returned (.bool true) ∧ Below w.heap.size w w' := by
  have HX := Hid.mk (vw2_new w (.int .i64 ka) (.string an) (.string at_) (.slice aio aN aic) (.slice ako aK akc) (.int .i64 kb) (.string bn) (.string bt) (.slice bio bN bic) (.slice bko bK bkc))
  obtain ⟨W0, hW0⟩ : ∃ W0, W0 = (w.alloc (.cells #[.int .i64 ka, .string an, .string at_, .slice aio aN aic, .slice ako aK akc] 25)).alloc (.cells #[.int .i64 kb, .string bn, .string bt, .slice bio bN bic, .slice bko bK bkc] 25) := ⟨_, rfl⟩
  rw [← hW0] at HX
  have HW0 := Hid.mk hW0
  have HLv : Hid (∀ u, VW2 w u (.int .i64 ka) (.string an) (.string at_) (.slice aio aN aic) (.slice ako aK akc) (.int .i64 kb) (.string bn) (.string bt) (.slice bio bN bic) (.slice bko bK bkc) → Calls Tryd.prog 8 #[] u fun e w' => e = .returned (.bool true) ∧ Hid (VW2 w w' (.int .i64 ka) (.string an) (.string at_) (.slice aio aN aic) (.slice ako aK akc) (.int .i64 kb) (.string bn) (.string bt) (.slice bio bN bic) (.slice bko bK bkc))) := fun u hu => (w_lives6 u (hwd.keep hu.below)).mono fun e w' ⟨he, hb⟩ => ⟨he, hu.keep hb⟩
  have HSA : Hid (∀ u, VW2 w u (.int .i64 ka) (.string an) (.string at_) (.slice aio aN aic) (.slice ako aK akc) (.int .i64 kb) (.string bn) (.string bt) (.slice bio bN bic) (.slice bko bK bkc) → Calls Tryd.prog 9 #[(.agg #[.int .i64 ka, .string an, .string at_, .slice aio aN aic, .slice ako aK akc])] u fun e w' => e = .returned (.bool (decide (szN h TA ≤ 20000))) ∧ Hid (VW2 w w' (.int .i64 ka) (.string an) (.string at_) (.slice aio aN aic) (.slice ako aK akc) (.int .i64 kb) (.string bn) (.string bt) (.slice bio bN bic) (.slice bko bK bkc))) := fun u hu => (w_small6 h TA u _ _ _ _ _ _ _ _ _ (hIA.keep hu.below)).mono fun e w' ⟨he, hb⟩ => ⟨he, hu.keep hb⟩
  have HSB : Hid (∀ u, VW2 w u (.int .i64 ka) (.string an) (.string at_) (.slice aio aN aic) (.slice ako aK akc) (.int .i64 kb) (.string bn) (.string bt) (.slice bio bN bic) (.slice bko bK bkc) → Calls Tryd.prog 9 #[(.agg #[.int .i64 kb, .string bn, .string bt, .slice bio bN bic, .slice bko bK bkc])] u fun e w' => e = .returned (.bool (decide (szN h TB ≤ 20000))) ∧ Hid (VW2 w w' (.int .i64 ka) (.string an) (.string at_) (.slice aio aN aic) (.slice ako aK akc) (.int .i64 kb) (.string bn) (.string bt) (.slice bio bN bic) (.slice bko bK bkc))) := fun u hu => (w_small6 h TB u _ _ _ _ _ _ _ _ _ (hIB.keep hu.below)).mono fun e w' ⟨he, hb⟩ => ⟨he, hu.keep hb⟩
  have HFA : Hid (∀ u, VW2 w u (.int .i64 ka) (.string an) (.string at_) (.slice aio aN aic) (.slice ako aK akc) (.int .i64 kb) (.string bn) (.string bt) (.slice bio bN bic) (.slice bko bK bkc) → Calls Tryd.prog 18 #[(.agg #[.int .i64 ka, .string an, .string at_, .slice aio aN aic, .slice ako aK akc])] u fun e w' => e = .returned (.bool (formN h TA)) ∧ Hid (VW2 w w' (.int .i64 ka) (.string an) (.string at_) (.slice aio aN aic) (.slice ako aK akc) (.int .i64 kb) (.string bn) (.string bt) (.slice bio bN bic) (.slice bko bK bkc))) := fun u hu => (w_rFormed h TA _ u (hIA.keep hu.below)).mono fun e w' ⟨he, hb⟩ => ⟨he, hu.keep hb⟩
  have HFB : Hid (∀ u, VW2 w u (.int .i64 ka) (.string an) (.string at_) (.slice aio aN aic) (.slice ako aK akc) (.int .i64 kb) (.string bn) (.string bt) (.slice bio bN bic) (.slice bko bK bkc) → Calls Tryd.prog 18 #[(.agg #[.int .i64 kb, .string bn, .string bt, .slice bio bN bic, .slice bko bK bkc])] u fun e w' => e = .returned (.bool (formN h TB)) ∧ Hid (VW2 w w' (.int .i64 ka) (.string an) (.string at_) (.slice aio aN aic) (.slice ako aK akc) (.int .i64 kb) (.string bn) (.string bt) (.slice bio bN bic) (.slice bko bK bkc))) := fun u hu => (w_rFormed h TB _ u (hIB.keep hu.below)).mono fun e w' ⟨he, hb⟩ => ⟨he, hu.keep hb⟩
  clear hW0
  cases ha : decide (szN h TA ≤ 20000) with
  | false =>
    rw [ha] at HSA
    clear ha hIA hIB hsA hsB hwd
    go_enter Tryd.func6, Tryd.ntmps6
    go_wp2_with fail
    rw [← HW0.out]
    refine (HLv.out _ HX.out).mono ?_
    rintro e w1 ⟨rfl, HX1⟩
    obtain ⟨⟨c0, c1, c2, c3, c4⟩, ⟨d0, d1, d2, d3, d4⟩⟩ := HX1.out.cells
    go_wp2_with fail
    refine (HSA.out _ HX1.out).mono ?_
    rintro e w2 ⟨rfl, HX2⟩
    clear c0 c1 c2 c3 c4 d0 d1 d2 d3 d4
    go_wp2_with fail
    go_ret
    exact ⟨by first | rfl | simp, HX2.out.below⟩
  | true =>
  have hza : szN h TA ≤ 20000 := of_decide_eq_true ha
  rw [ha] at HSA
  clear ha
  cases hb0 : decide (szN h TB ≤ 20000) with
  | false =>
    rw [hb0] at HSB
    clear hb0 hza hIA hIB hsA hsB hwd
    go_enter Tryd.func6, Tryd.ntmps6
    go_wp2_with fail
    rw [← HW0.out]
    refine (HLv.out _ HX.out).mono ?_
    rintro e w1 ⟨rfl, HX1⟩
    obtain ⟨⟨c0, c1, c2, c3, c4⟩, ⟨d0, d1, d2, d3, d4⟩⟩ := HX1.out.cells
    go_wp2_with fail
    refine (HSA.out _ HX1.out).mono ?_
    rintro e w2 ⟨rfl, HX2⟩
    clear c0 c1 c2 c3 c4 d0 d1 d2 d3 d4
    obtain ⟨⟨c0, c1, c2, c3, c4⟩, ⟨d0, d1, d2, d3, d4⟩⟩ := HX2.out.cells
    go_wp2_with fail
    refine (HSB.out _ HX2.out).mono ?_
    rintro e w3 ⟨rfl, HX3⟩
    clear c0 c1 c2 c3 c4 d0 d1 d2 d3 d4
    go_wp2_with fail
    go_ret
    exact ⟨by first | rfl | simp, HX3.out.below⟩
  | true =>
  have hzb : szN h TB ≤ 20000 := of_decide_eq_true hb0
  rw [hb0] at HSB
  clear hb0
  cases hfa : formN h TA with
  | false =>
    rw [hfa] at HFA
    clear hfa hza hzb hIA hIB hsA hsB hwd
    go_enter Tryd.func6, Tryd.ntmps6
    go_wp2_with fail
    rw [← HW0.out]
    refine (HLv.out _ HX.out).mono ?_
    rintro e w1 ⟨rfl, HX1⟩
    obtain ⟨⟨c0, c1, c2, c3, c4⟩, ⟨d0, d1, d2, d3, d4⟩⟩ := HX1.out.cells
    go_wp2_with fail
    refine (HSA.out _ HX1.out).mono ?_
    rintro e w2 ⟨rfl, HX2⟩
    clear c0 c1 c2 c3 c4 d0 d1 d2 d3 d4
    obtain ⟨⟨c0, c1, c2, c3, c4⟩, ⟨d0, d1, d2, d3, d4⟩⟩ := HX2.out.cells
    go_wp2_with fail
    refine (HSB.out _ HX2.out).mono ?_
    rintro e w3 ⟨rfl, HX3⟩
    clear c0 c1 c2 c3 c4 d0 d1 d2 d3 d4
    obtain ⟨⟨c0, c1, c2, c3, c4⟩, ⟨d0, d1, d2, d3, d4⟩⟩ := HX3.out.cells
    go_wp2_with fail
    refine (HFA.out _ HX3.out).mono ?_
    rintro e w4 ⟨rfl, HX4⟩
    clear c0 c1 c2 c3 c4 d0 d1 d2 d3 d4
    go_wp2_with fail
    go_ret
    exact ⟨by first | rfl | simp, HX4.out.below⟩
  | true =>
  rw [hfa] at HFA
  cases hfb : formN h TB with
  | false =>
    rw [hfb] at HFB
    clear hfa hfb hza hzb hIA hIB hsA hsB hwd
    go_enter Tryd.func6, Tryd.ntmps6
    go_wp2_with fail
    rw [← HW0.out]
    refine (HLv.out _ HX.out).mono ?_
    rintro e w1 ⟨rfl, HX1⟩
    obtain ⟨⟨c0, c1, c2, c3, c4⟩, ⟨d0, d1, d2, d3, d4⟩⟩ := HX1.out.cells
    go_wp2_with fail
    refine (HSA.out _ HX1.out).mono ?_
    rintro e w2 ⟨rfl, HX2⟩
    clear c0 c1 c2 c3 c4 d0 d1 d2 d3 d4
    obtain ⟨⟨c0, c1, c2, c3, c4⟩, ⟨d0, d1, d2, d3, d4⟩⟩ := HX2.out.cells
    go_wp2_with fail
    refine (HSB.out _ HX2.out).mono ?_
    rintro e w3 ⟨rfl, HX3⟩
    clear c0 c1 c2 c3 c4 d0 d1 d2 d3 d4
    obtain ⟨⟨c0, c1, c2, c3, c4⟩, ⟨d0, d1, d2, d3, d4⟩⟩ := HX3.out.cells
    go_wp2_with fail
    refine (HFA.out _ HX3.out).mono ?_
    rintro e w4 ⟨rfl, HX4⟩
    clear c0 c1 c2 c3 c4 d0 d1 d2 d3 d4
    obtain ⟨⟨c0, c1, c2, c3, c4⟩, ⟨d0, d1, d2, d3, d4⟩⟩ := HX4.out.cells
    go_wp2_with fail
    refine (HFB.out _ HX4.out).mono ?_
    rintro e w5 ⟨rfl, HX5⟩
    clear c0 c1 c2 c3 c4 d0 d1 d2 d3 d4
    go_wp2_with fail
    go_ret
    exact ⟨by first | rfl | simp, HX5.out.below⟩
  | true =>
  rw [hfb] at HFB
  by_cases h0 : sp < 0
  · clear hfa hfb hza hzb hIA hIB hsA hsB hwd
    go_enter Tryd.func6, Tryd.ntmps6
    go_wp2_with fail
    rw [← HW0.out]
    refine (HLv.out _ HX.out).mono ?_
    rintro e w1 ⟨rfl, HX1⟩
    obtain ⟨⟨c0, c1, c2, c3, c4⟩, ⟨d0, d1, d2, d3, d4⟩⟩ := HX1.out.cells
    go_wp2_with fail
    refine (HSA.out _ HX1.out).mono ?_
    rintro e w2 ⟨rfl, HX2⟩
    clear c0 c1 c2 c3 c4 d0 d1 d2 d3 d4
    obtain ⟨⟨c0, c1, c2, c3, c4⟩, ⟨d0, d1, d2, d3, d4⟩⟩ := HX2.out.cells
    go_wp2_with fail
    refine (HSB.out _ HX2.out).mono ?_
    rintro e w3 ⟨rfl, HX3⟩
    clear c0 c1 c2 c3 c4 d0 d1 d2 d3 d4
    obtain ⟨⟨c0, c1, c2, c3, c4⟩, ⟨d0, d1, d2, d3, d4⟩⟩ := HX3.out.cells
    go_wp2_with fail
    refine (HFA.out _ HX3.out).mono ?_
    rintro e w4 ⟨rfl, HX4⟩
    clear c0 c1 c2 c3 c4 d0 d1 d2 d3 d4
    obtain ⟨⟨c0, c1, c2, c3, c4⟩, ⟨d0, d1, d2, d3, d4⟩⟩ := HX4.out.cells
    go_wp2_with fail
    refine (HFB.out _ HX4.out).mono ?_
    rintro e w5 ⟨rfl, HX5⟩
    clear c0 c1 c2 c3 c4 d0 d1 d2 d3 d4
    go_wp2_with fail
    go_ret
    exact ⟨by first | rfl | simp, HX5.out.below⟩
  by_cases h8 : 8 < sp
  · clear hfa hfb hza hzb hIA hIB hsA hsB hwd
    go_enter Tryd.func6, Tryd.ntmps6
    go_wp2_with fail
    rw [← HW0.out]
    refine (HLv.out _ HX.out).mono ?_
    rintro e w1 ⟨rfl, HX1⟩
    obtain ⟨⟨c0, c1, c2, c3, c4⟩, ⟨d0, d1, d2, d3, d4⟩⟩ := HX1.out.cells
    go_wp2_with fail
    refine (HSA.out _ HX1.out).mono ?_
    rintro e w2 ⟨rfl, HX2⟩
    clear c0 c1 c2 c3 c4 d0 d1 d2 d3 d4
    obtain ⟨⟨c0, c1, c2, c3, c4⟩, ⟨d0, d1, d2, d3, d4⟩⟩ := HX2.out.cells
    go_wp2_with fail
    refine (HSB.out _ HX2.out).mono ?_
    rintro e w3 ⟨rfl, HX3⟩
    clear c0 c1 c2 c3 c4 d0 d1 d2 d3 d4
    obtain ⟨⟨c0, c1, c2, c3, c4⟩, ⟨d0, d1, d2, d3, d4⟩⟩ := HX3.out.cells
    go_wp2_with fail
    refine (HFA.out _ HX3.out).mono ?_
    rintro e w4 ⟨rfl, HX4⟩
    clear c0 c1 c2 c3 c4 d0 d1 d2 d3 d4
    obtain ⟨⟨c0, c1, c2, c3, c4⟩, ⟨d0, d1, d2, d3, d4⟩⟩ := HX4.out.cells
    go_wp2_with fail
    refine (HFB.out _ HX4.out).mono ?_
    rintro e w5 ⟨rfl, HX5⟩
    clear c0 c1 c2 c3 c4 d0 d1 d2 d3 d4
    go_wp2_with fail
    go_ret
    exact ⟨by first | rfl | simp, HX5.out.below⟩
  obtain ⟨s, hs⟩ : ∃ s : Nat, sp = (s : Int) := ⟨sp.toNat, by omega⟩
  subst hs
  have hs8 : s ≤ 8 := by omega
  obtain ⟨P1, hP1⟩ : ∃ P1 : ByteArray, P1 = ⟨(wrV none h 0 TA).toArray⟩ := ⟨_, rfl⟩
  obtain ⟨P2, hP2⟩ : ∃ P2 : ByteArray, P2 = ⟨(wrV none h 0 TB).toArray⟩ := ⟨_, rfl⟩
  obtain ⟨L1, hL1⟩ : ∃ L1 : ByteArray, L1 = ⟨(wrV (some s) h 0 TA).toArray⟩ := ⟨_, rfl⟩
  obtain ⟨L2, hL2⟩ : ∃ L2 : ByteArray, L2 = ⟨(wrV (some s) h 0 TB).toArray⟩ := ⟨_, rfl⟩
  have hq1 := text_iff none h TA TB hfa hfb P1 P2 hP1 hP2
  have hq2 := text_iff (some s) h TA TB hfa hfb L1 L2 hL1 hL2
  have HT1 : Hid (∀ u, VW2 w u (.int .i64 ka) (.string an) (.string at_) (.slice aio aN aic) (.slice ako aK akc) (.int .i64 kb) (.string bn) (.string bt) (.slice bio bN bic) (.slice bko bK bkc) → Calls Tryd.prog 10 #[(.agg #[.int .i64 ka, .string an, .string at_, .slice aio aN aic, .slice ako aK akc])] u fun e w' => e = .returned (.tuple #[.string P1, .int .i64 0]) ∧ Hid (VW2 w w' (.int .i64 ka) (.string an) (.string at_) (.slice aio aN aic) (.slice ako aK akc) (.int .i64 kb) (.string bn) (.string bt) (.slice bio bN bic) (.slice bko bK bkc))) := fun u hu => by
    have h1 := w_Text h TA u _ _ _ _ _ _ _ _ _ (hIA.keep hu.below) hsA hza (hwd.keep hu.below)
    rw [hfa] at h1
    simp only [if_true] at h1
    rw [← hP1] at h1
    exact h1.mono fun e w' ⟨he, hb⟩ => ⟨he, hu.keep hb⟩
  have HT2 : Hid (∀ u, VW2 w u (.int .i64 ka) (.string an) (.string at_) (.slice aio aN aic) (.slice ako aK akc) (.int .i64 kb) (.string bn) (.string bt) (.slice bio bN bic) (.slice bko bK bkc) → Calls Tryd.prog 10 #[(.agg #[.int .i64 kb, .string bn, .string bt, .slice bio bN bic, .slice bko bK bkc])] u fun e w' => e = .returned (.tuple #[.string P2, .int .i64 0]) ∧ Hid (VW2 w w' (.int .i64 ka) (.string an) (.string at_) (.slice aio aN aic) (.slice ako aK akc) (.int .i64 kb) (.string bn) (.string bt) (.slice bio bN bic) (.slice bko bK bkc))) := fun u hu => by
    have h1 := w_Text h TB u _ _ _ _ _ _ _ _ _ (hIB.keep hu.below) hsB hzb (hwd.keep hu.below)
    rw [hfb] at h1
    simp only [if_true] at h1
    rw [← hP2] at h1
    exact h1.mono fun e w' ⟨he, hb⟩ => ⟨he, hu.keep hb⟩
  have HD1 : Hid (∀ u, VW2 w u (.int .i64 ka) (.string an) (.string at_) (.slice aio aN aic) (.slice ako aK akc) (.int .i64 kb) (.string bn) (.string bt) (.slice bio bN bic) (.slice bko bK bkc) → Calls Tryd.prog 13 #[(.agg #[.int .i64 ka, .string an, .string at_, .slice aio aN aic, .slice ako aK akc]), .int .i64 (s : Int)] u fun e w' => e = .returned (.tuple #[.string L1, .int .i64 0]) ∧ Hid (VW2 w w' (.int .i64 ka) (.string an) (.string at_) (.slice aio aN aic) (.slice ako aK akc) (.int .i64 kb) (.string bn) (.string bt) (.slice bio bN bic) (.slice bko bK bkc))) := fun u hu => by
    have h1 := w_Laid h TA u _ _ _ _ _ _ _ _ _ s hs8 (hIA.keep hu.below) hsA hza (hwd.keep hu.below)
    rw [hfa] at h1
    simp only [if_true] at h1
    rw [← hL1] at h1
    exact h1.mono fun e w' ⟨he, hb⟩ => ⟨he, hu.keep hb⟩
  have HD2 : Hid (∀ u, VW2 w u (.int .i64 ka) (.string an) (.string at_) (.slice aio aN aic) (.slice ako aK akc) (.int .i64 kb) (.string bn) (.string bt) (.slice bio bN bic) (.slice bko bK bkc) → Calls Tryd.prog 13 #[(.agg #[.int .i64 kb, .string bn, .string bt, .slice bio bN bic, .slice bko bK bkc]), .int .i64 (s : Int)] u fun e w' => e = .returned (.tuple #[.string L2, .int .i64 0]) ∧ Hid (VW2 w w' (.int .i64 ka) (.string an) (.string at_) (.slice aio aN aic) (.slice ako aK akc) (.int .i64 kb) (.string bn) (.string bt) (.slice bio bN bic) (.slice bko bK bkc))) := fun u hu => by
    have h1 := w_Laid h TB u _ _ _ _ _ _ _ _ _ s hs8 (hIB.keep hu.below) hsB hzb (hwd.keep hu.below)
    rw [hfb] at h1
    simp only [if_true] at h1
    rw [← hL2] at h1
    exact h1.mono fun e w' ⟨he, hb⟩ => ⟨he, hu.keep hb⟩
  have HLk : Hid (∀ u, VW2 w u (.int .i64 ka) (.string an) (.string at_) (.slice aio aN aic) (.slice ako aK akc) (.int .i64 kb) (.string bn) (.string bt) (.slice bio bN bic) (.slice bko bK bkc) → Calls Tryd.prog 19 #[(.agg #[.int .i64 ka, .string an, .string at_, .slice aio aN aic, .slice ako aK akc]), (.agg #[.int .i64 kb, .string bn, .string bt, .slice bio bN bic, .slice bko bK bkc])] u fun e w' => e = .returned (.bool (likeD TA TB)) ∧ Hid (VW2 w w' (.int .i64 ka) (.string an) (.string at_) (.slice aio aN aic) (.slice ako aK akc) (.int .i64 kb) (.string bn) (.string bt) (.slice bio bN bic) (.slice bko bK bkc))) := fun u hu => (w_Like h TA TB _ _ u (hIA.keep hu.below) (hIB.keep hu.below)).mono fun e w' ⟨he, hb⟩ => ⟨he, hu.keep hb⟩
  generalize likeD TA TB = R at hq1 hq2 HLk
  have h9 : ¬ (s : Int) < 0 := h0
  clear hfa hfb hza hzb hIA hIB hsA hsB hwd hP1 hP2 hL1 hL2 hs8
  go_enter Tryd.func6, Tryd.ntmps6
  go_wp2_with fail
  rw [← HW0.out]
  refine (HLv.out _ HX.out).mono ?_
  rintro e w1 ⟨rfl, HX1⟩
  obtain ⟨⟨c0, c1, c2, c3, c4⟩, ⟨d0, d1, d2, d3, d4⟩⟩ := HX1.out.cells
  go_wp2_with fail
  refine (HSA.out _ HX1.out).mono ?_
  rintro e w2 ⟨rfl, HX2⟩
  clear c0 c1 c2 c3 c4 d0 d1 d2 d3 d4
  obtain ⟨⟨c0, c1, c2, c3, c4⟩, ⟨d0, d1, d2, d3, d4⟩⟩ := HX2.out.cells
  go_wp2_with fail
  refine (HSB.out _ HX2.out).mono ?_
  rintro e w3 ⟨rfl, HX3⟩
  clear c0 c1 c2 c3 c4 d0 d1 d2 d3 d4
  obtain ⟨⟨c0, c1, c2, c3, c4⟩, ⟨d0, d1, d2, d3, d4⟩⟩ := HX3.out.cells
  go_wp2_with fail
  refine (HFA.out _ HX3.out).mono ?_
  rintro e w4 ⟨rfl, HX4⟩
  clear c0 c1 c2 c3 c4 d0 d1 d2 d3 d4
  obtain ⟨⟨c0, c1, c2, c3, c4⟩, ⟨d0, d1, d2, d3, d4⟩⟩ := HX4.out.cells
  go_wp2_with fail
  refine (HFB.out _ HX4.out).mono ?_
  rintro e w5 ⟨rfl, HX5⟩
  clear c0 c1 c2 c3 c4 d0 d1 d2 d3 d4
  obtain ⟨⟨c0, c1, c2, c3, c4⟩, ⟨d0, d1, d2, d3, d4⟩⟩ := HX5.out.cells
  go_wp2_with fail
  refine (HT1.out _ HX5.out).mono ?_
  rintro e w6 ⟨rfl, HX6⟩
  clear c0 c1 c2 c3 c4 d0 d1 d2 d3 d4
  obtain ⟨⟨c0, c1, c2, c3, c4⟩, ⟨d0, d1, d2, d3, d4⟩⟩ := HX6.out.cells
  go_wp2_with fail
  refine (HT2.out _ HX6.out).mono ?_
  rintro e w7 ⟨rfl, HX7⟩
  clear c0 c1 c2 c3 c4 d0 d1 d2 d3 d4
  obtain ⟨⟨c0, c1, c2, c3, c4⟩, ⟨d0, d1, d2, d3, d4⟩⟩ := HX7.out.cells
  go_wp2_with fail
  refine (HD1.out _ HX7.out).mono ?_
  rintro e w8 ⟨rfl, HX8⟩
  clear c0 c1 c2 c3 c4 d0 d1 d2 d3 d4
  obtain ⟨⟨c0, c1, c2, c3, c4⟩, ⟨d0, d1, d2, d3, d4⟩⟩ := HX8.out.cells
  go_wp2_with fail
  refine (HD2.out _ HX8.out).mono ?_
  rintro e w9 ⟨rfl, HX9⟩
  clear c0 c1 c2 c3 c4 d0 d1 d2 d3 d4
  obtain ⟨⟨c0, c1, c2, c3, c4⟩, ⟨d0, d1, d2, d3, d4⟩⟩ := HX9.out.cells
  go_wp2_with fail
  refine (HLk.out _ HX9.out).mono ?_
  rintro e w10 ⟨rfl, HX10⟩
  clear c0 c1 c2 c3 c4 d0 d1 d2 d3 d4
  go_wp2_with fail
  go_ret
  exact ⟨by first | rfl | simp, HX10.out.below⟩
end Go.Proofs.YtkoednenjnnjoaaDoor
