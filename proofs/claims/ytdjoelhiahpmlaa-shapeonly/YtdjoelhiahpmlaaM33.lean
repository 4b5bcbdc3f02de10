import Derived.Test.YtdjoelhiahpmlaaM23
import Derived.Test.YtdjoelhiahpmlaaM21
import Derived.Lib.QuietBelow
import Derived.BigQuiet
namespace Go.Proofs.Ytdjoelhiahpmlaa
open Go.RowKit Go.Sort
set_option linter.unusedVariables false
set_option linter.unusedSimpArgs false
attribute [local go_sem] Oper.semAt_some

/-- two spans' boxes -/
structure SBx (w u : World) (a b c d : Value) : Prop where
  below : Below w.heap.size w u
  c0 : u.cell? ⟨w.heap.size, 0, none⟩ = some a
  c1 : u.cell? ⟨w.heap.size, 1, none⟩ = some b
  c2 : u.cell? ⟨w.heap.size + 1, 0, none⟩ = some c
  c3 : u.cell? ⟨w.heap.size + 1, 1, none⟩ = some d
  lt : w.heap.size + 1 < u.heap.size
theorem SBx.keep {w u u' : World} {a b c d : Value} (x : SBx w u a b c d) (hb : Below u.heap.size u u') : SBx w u' a b c d :=
  ⟨x.below.trans (hb.mono x.below.size), (hb.cell (p := ⟨_, _, _⟩) (by have := x.lt; show w.heap.size < _; omega)).trans x.c0, (hb.cell (p := ⟨_, _, _⟩) (by have := x.lt; show w.heap.size < _; omega)).trans x.c1, (hb.cell (p := ⟨_, _, _⟩) x.lt).trans x.c2, (hb.cell (p := ⟨_, _, _⟩) x.lt).trans x.c3, Nat.lt_of_lt_of_le x.lt hb.size⟩
theorem sbx_new (w : World) (a b c d : Value) : SBx w ((w.alloc (.cells #[a, b] 42)).alloc (.cells #[c, d] 42)) a b c d :=
  ⟨((Below.refl _ _).alloc (Nat.le_refl _) _).alloc (by simp) _, by simp [go_sem], by simp [go_sem], by simp [go_sem], by simp [go_sem], by simp⟩


/-- one span's box -/
structure S1x (w u : World) (a b : Value) : Prop where
  below : Below w.heap.size w u
  c0 : u.cell? ⟨w.heap.size, 0, none⟩ = some a
  c1 : u.cell? ⟨w.heap.size, 1, none⟩ = some b
  lt : w.heap.size < u.heap.size
theorem S1x.keep {w u u' : World} {a b : Value} (x : S1x w u a b) (hb : Below u.heap.size u u') : S1x w u' a b :=
  ⟨x.below.trans (hb.mono x.below.size), (hb.cell (p := ⟨_, _, _⟩) x.lt).trans x.c0, (hb.cell (p := ⟨_, _, _⟩) x.lt).trans x.c1, Nat.lt_of_lt_of_le x.lt hb.size⟩
theorem s1x_new (w : World) (a b : Value) : S1x w (w.alloc (.cells #[a, b] 42)) a b :=
  ⟨(Below.refl _ _).alloc (Nat.le_refl _) _, by simp [go_sem], by simp [go_sem], by simp⟩

end Go.Proofs.Ytdjoelhiahpmlaa
namespace Go.Proofs.Ytdjoelhiahpmlaa
open Go.RowKit Go.Sort
set_option linter.unusedVariables false
set_option linter.unusedSimpArgs false
attribute [local go_sem] Oper.semAt_some

set_option maxRecDepth 100000 in
set_option maxHeartbeats 3200000 in
theorem inspan_v (n bl bh : ByteArray) (w : World) (c d : Int)
    (H2 : Hid (¬ bl.toList = [] → ∀ u, Calls Try.prog 40 #[.string n, .string bl] u fun e w' => e = .returned (.int .i64 c) ∧ Below u.heap.size u w'))
    (H3 : Hid (¬ bh.toList = [] → ∀ u, Calls Try.prog 40 #[.string n, .string bh] u fun e w' => e = .returned (.int .i64 d) ∧ Below u.heap.size u w'))
    : Calls Try.prog 22 #[.string n, .agg #[.string bl, .string bh]] w fun e w' => e = .returned (.bool (!(!bl.toList.isEmpty && decide (c < 0)) && (bh.toList.isEmpty || decide (d ≤ 0)))) ∧ Below w.heap.size w w' := by
  obtain ⟨W0, hW0⟩ : ∃ W0, w.alloc (.cells #[.string bl, .string bh] 42) = W0 := ⟨_, rfl⟩
  have HX0 := Hid.mk (s1x_new w (.string bl) (.string bh))
  rw [hW0] at HX0
  obtain ⟨_, c0_0, c0_1, _⟩ := HX0.out
  go_enter Try.func22, Try.ntmps22
  by_cases e_bl : bl.toList = []
  · have i_bl : bl.toList.isEmpty = true := by rw [e_bl]; rfl
    by_cases e_bh : bh.toList = []
    · have i_bh : bh.toList.isEmpty = true := by rw [e_bh]; rfl
      go_wp2_with fail
      go_ret
      exact ⟨by first | (simp only [i_bl, i_bh]; rfl) | (simp [*]; done) | (simp [*]; omega), HX0.out.below⟩
    · have i_bh : bh.toList.isEmpty = false := by cases h : bh.toList with | nil => exact absurd h e_bh | cons => rfl
      by_cases hd : d ≤ 0
      · have d_hd := decide_eq_true hd
        go_wp2_with fail
        refine (H3.out e_bh _).mono ?_
        rintro e v1 ⟨rfl, hq⟩
        have HX1 := Hid.mk (HX0.out.keep hq)
        obtain ⟨_, c1_0, c1_1, _⟩ := HX1.out
        clear hq c0_0 c0_1 hW0
        go_wp2_with fail
        go_ret
        exact ⟨by first | (simp only [i_bl, i_bh, d_hd]; rfl) | (simp [*]; done) | (simp [*]; omega), HX1.out.below⟩
      · have d_hd := decide_eq_false hd
        go_wp2_with fail
        refine (H3.out e_bh _).mono ?_
        rintro e v1 ⟨rfl, hq⟩
        have HX1 := Hid.mk (HX0.out.keep hq)
        obtain ⟨_, c1_0, c1_1, _⟩ := HX1.out
        clear hq c0_0 c0_1 hW0
        go_wp2_with fail
        go_ret
        exact ⟨by first | (simp only [i_bl, i_bh, d_hd]; rfl) | (simp [*]; done) | (simp [*]; omega), HX1.out.below⟩
  · have i_bl : bl.toList.isEmpty = false := by cases h : bl.toList with | nil => exact absurd h e_bl | cons => rfl
    by_cases hc : c < 0
    · have d_hc := decide_eq_true hc
      go_wp2_with fail
      refine (H2.out e_bl _).mono ?_
      rintro e v1 ⟨rfl, hq⟩
      have HX1 := Hid.mk (HX0.out.keep hq)
      obtain ⟨_, c1_0, c1_1, _⟩ := HX1.out
      clear hq c0_0 c0_1 hW0
      go_wp2_with fail
      go_ret
      exact ⟨by first | (simp only [i_bl, d_hc]; rfl) | (simp [*]; done) | (simp [*]; omega), HX1.out.below⟩
    · have d_hc := decide_eq_false hc
      go_wp2_with fail
      refine (H2.out e_bl _).mono ?_
      rintro e v1 ⟨rfl, hq⟩
      have HX1 := Hid.mk (HX0.out.keep hq)
      obtain ⟨_, c1_0, c1_1, _⟩ := HX1.out
      clear hq c0_0 c0_1 hW0
      by_cases e_bh : bh.toList = []
      · have i_bh : bh.toList.isEmpty = true := by rw [e_bh]; rfl
        go_wp2_with fail
        go_ret
        exact ⟨by first | (simp only [i_bl, d_hc, i_bh]; rfl) | (simp [*]; done) | (simp [*]; omega), HX1.out.below⟩
      · have i_bh : bh.toList.isEmpty = false := by cases h : bh.toList with | nil => exact absurd h e_bh | cons => rfl
        by_cases hd : d ≤ 0
        · have d_hd := decide_eq_true hd
          go_wp2_with fail
          refine (H3.out e_bh _).mono ?_
          rintro e v2 ⟨rfl, hq⟩
          have HX2 := Hid.mk (HX1.out.keep hq)
          obtain ⟨_, c2_0, c2_1, _⟩ := HX2.out
          clear hq c1_0 c1_1
          go_wp2_with fail
          go_ret
          exact ⟨by first | (simp only [i_bl, d_hc, i_bh, d_hd]; rfl) | (simp [*]; done) | (simp [*]; omega), HX2.out.below⟩
        · have d_hd := decide_eq_false hd
          go_wp2_with fail
          refine (H3.out e_bh _).mono ?_
          rintro e v2 ⟨rfl, hq⟩
          have HX2 := Hid.mk (HX1.out.keep hq)
          obtain ⟨_, c2_0, c2_1, _⟩ := HX2.out
          clear hq c1_0 c1_1
          go_wp2_with fail
          go_ret
          exact ⟨by first | (simp only [i_bl, d_hc, i_bh, d_hd]; rfl) | (simp [*]; done) | (simp [*]; omega), HX2.out.below⟩

end Go.Proofs.Ytdjoelhiahpmlaa
