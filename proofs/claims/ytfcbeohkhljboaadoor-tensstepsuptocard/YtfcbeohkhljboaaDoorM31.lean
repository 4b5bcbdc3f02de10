import Derived.Test.YtfcbeohkhljboaaDoorM11
import Derived.Test.YtfcbeohkhljboaaDoorM30
import Derived.Test.YtfcbeohkhljboaaDoorM19
namespace Go.Proofs.YtfcbeohkhljboaaDoor
open Go.RowKit
set_option linter.unusedVariables false
set_option linter.unusedSimpArgs false

/-- a row of digits, perhaps with noughts at the top -/
def RU (w : World) (v : Value) (x : Nat) : Prop := ∃ zs, Nums .i64 w v zs ∧ Pl.dig 10 zs ∧ Pl.val 10 zs = x ∧ zs.length ≤ 1099511627776
/-- a row of digits without them -/
def RV (w : World) (v : Value) (x : Nat) : Prop := ∃ zs, Nums .i64 w v zs ∧ Pl.dig 10 zs ∧ Pl.Top zs ∧ Pl.val 10 zs = x

theorem RV.keep {w w' : World} {v : Value} {x : Nat} (h : RV w v x) (hb : Below w.heap.size w w') : RV w' v x := by
  obtain ⟨zs, h1, h2⟩ := h; exact ⟨zs, h1.keep hb, h2⟩
theorem RU.keep {w w' : World} {v : Value} {x : Nat} (h : RU w v x) (hb : Below w.heap.size w w') : RU w' v x := by
  obtain ⟨zs, h1, h2⟩ := h; exact ⟨zs, h1.keep hb, h2⟩
theorem RV.fits {w : World} {v : Value} {x K : Nat} (h : RV w v x) (hx : x < 10 ^ K) : ∃ zs, Nums .i64 w v zs ∧ Pl.dig 10 zs ∧ Pl.Top zs ∧ Pl.val 10 zs = x ∧ zs.length ≤ K := by
  obtain ⟨zs, h1, h2, h3, h4⟩ := h
  exact ⟨zs, h1, h2, h3, h4, Pl.len_of_val (B := 10) (by decide) h3 (by rw [h4]; exact hx)⟩

theorem trim_some (xs : List Nat) (hd : Pl.dig 10 xs) : decide (0 < (Pl.trimN xs).length) = decide (0 < Pl.val 10 xs) := by
  by_cases h : 0 < Pl.val 10 xs
  · have := Pl.trim_pos_of xs 10 h
    simp [h, this]
  · have h0 : Pl.val 10 (Pl.trimN xs) = 0 := by rw [Pl.val_trim]; omega
    have : ¬ 0 < (Pl.trimN xs).length := by
      intro hp
      have := Pl.val_ge_top (B := 10) hp (Pl.top_last (Pl.top_trim xs) hp)
      have h2 : 0 < 10 ^ ((Pl.trimN xs).length - 1) := Nat.pow_pos (by decide)
      omega
    rw [decide_eq_false this, decide_eq_false h]

theorem w_trimR (bl : Bool) (v : Value) (x : Nat) (w : World) (h : RU w v x) :
    Calls Tryd.prog 46 #[.agg #[.bool bl, v]] w fun e w' => ∃ ro rn rc, e = .returned (.agg #[.bool (bl && decide (0 < x)), .slice ro rn rc]) ∧ Hid (RV w' (.slice ro rn rc) x) ∧ Below w.heap.size w w' := by
  obtain ⟨zs, h1, h2, h3, h4⟩ := h
  refine (w_trim bl v zs w h1 (by unfold maxLen; omega)).mono ?_
  rintro e w' ⟨rfl, hb⟩
  obtain ⟨ao, cap, rfl, q⟩ := id h1
  refine ⟨ao, (Pl.trimN zs).length, cap, ?_, ?_, hb⟩
  · rw [trim_some zs h2, h3]; rfl
  · exact ⟨Pl.trimN zs, (h1.keep hb).trim, Pl.dig_trim h2, Pl.top_trim _, by rw [Pl.val_trim]; exact h3⟩

theorem RV.ru {w : World} {v : Value} {x K : Nat} (h : RV w v x) (hx : x < 10 ^ K) (hK : K ≤ 1099511627776) : RU w v x := by
  obtain ⟨zs, h1, h2, h3, h4, h5⟩ := h.fits hx
  exact ⟨zs, h1, h2, h4, by omega⟩

/-- what a number of the document's answers reads as -/
def RN (w w' : World) (e : Ending) (z : Int) : Prop := ∃ bl ro rn rc x, e = .returned (.agg #[.bool bl, .slice ro rn rc]) ∧ Hid (RV w' (.slice ro rn rc) x) ∧ Hid (sgn bl x = z) ∧ Hid (bl = true → 0 < x) ∧ Below w.heap.size w w'

theorem sgn_flag (bl : Bool) (x : Nat) : sgn (bl && decide (0 < x)) x = sgn bl x := by
  by_cases h : 0 < x
  · simp [h]
  · obtain rfl : x = 0 := by omega
    cases bl <;> simp [sgn]

theorem flag_sgn {b bl : Bool} {x : Nat} {z : Int} (h : (b && decide (0 < x)) = bl) (hz : sgn b x = z) : sgn bl x = z := by rw [← h, sgn_flag]; exact hz
theorem flag_pos {b bl : Bool} {x : Nat} (h : (b && decide (0 < x)) = bl) : bl = true → 0 < x := by rw [← h]; simp
theorem sgn_same (b : Bool) (x1 x2 : Nat) : sgn b (x1 + x2) = sgn b x1 + sgn b x2 := by cases b <;> simp [sgn] <;> omega
theorem sgn_less {b1 b2 : Bool} {x1 x2 : Nat} (hb : b1 ≠ b2) (h : x1 < x2) : sgn b2 (x2 - x1) = sgn b1 x1 + sgn b2 x2 := by cases b1 <;> cases b2 <;> simp [sgn] at hb ⊢ <;> omega
theorem sgn_more {b1 b2 : Bool} {x1 x2 : Nat} (hb : b1 ≠ b2) (h : ¬ x1 < x2) : sgn b1 (x1 - x2) = sgn b1 x1 + sgn b2 x2 := by cases b1 <;> cases b2 <;> simp [sgn] at hb ⊢ <;> omega

/-- the world with two numbers and a third one's room laid down -/
def rbox3 (w : World) (b1 : Bool) (v1 : Value) (b2 : Bool) (v2 : Value) : World := ((w.alloc (.cells #[.bool b1, v1] 48)).alloc (.cells #[.bool b2, v2] 48)).alloc (.cells #[.bool false, .slice none 0 0] 48)
theorem rbox3_below (w : World) (b1 : Bool) (v1 : Value) (b2 : Bool) (v2 : Value) : Below w.heap.size w (rbox3 w b1 v1 b2 v2) := (below2 w _ _).alloc (by simp; omega) _
theorem rbox3_size (w : World) (b1 : Bool) (v1 : Value) (b2 : Bool) (v2 : Value) : (rbox3 w b1 v1 b2 v2).heap.size = w.heap.size + 3 := by simp [rbox3]
theorem in3_rbox (w : World) (b1 : Bool) (v1 : Value) (b2 : Bool) (v2 : Value) : In3 w (rbox3 w b1 v1 b2 v2) b1 v1 b2 v2 where
  c00 := by simp [rbox3, go_sem]
  c01 := by simp [rbox3, go_sem]
  c10 := by simp [rbox3, go_sem]
  c11 := by simp [rbox3, go_sem]
  c20 := by simp [rbox3, go_sem]
  c21 := by simp [rbox3, go_sem]
  f00 := by simp [rbox3, go_sem]
  f01 := by simp [rbox3, go_sem]
  f10 := by simp [rbox3, go_sem]
  f11 := by simp [rbox3, go_sem]
  f20 := by simp [rbox3, go_sem]
  f21 := by simp [rbox3, go_sem]
  size := by rw [rbox3_size]; exact Nat.le_refl _
  below := rbox3_below _ _ _ _ _

theorem RNums.put {w : World} {v : Value} {xs : List Nat} (h : Nums .i64 w v xs) (a : Addr) (x y : Value) (hc : w.cell? a = some y) (hy : ∀ i, y ≠ .int .i64 i) : Nums .i64 (w.setCell a x) v xs := by
  obtain ⟨ao, cap, hv, hc', hk, hr⟩ := h
  have hsz : (w.setCell a x).heap.size = w.heap.size := by simp
  refine ⟨ao, cap, hv, hc', fun b e => by rw [hsz]; exact hk b e, fun hn => ?_⟩
  obtain ⟨b, off, ha, hlt, hcell⟩ := hr hn
  refine ⟨b, off, ha, by rw [hsz]; exact hlt, fun i hi => ?_⟩
  have h1 := hcell i hi
  have hne : a ≠ ⟨b, off + i, none⟩ := by
    intro e
    rw [← e, hc] at h1
    exact hy _ (Option.some.inj h1)
  rw [World.cell?_setCell_other _ _ _ _ hne]; exact h1

theorem RV.put {w : World} {v : Value} {z : Nat} (h : RV w v z) (a : Addr) (x y : Value) (hc : w.cell? a = some y) (hy : ∀ i, y ≠ .int .i64 i) : RV (w.setCell a x) v z := by
  obtain ⟨zs, h1, h2⟩ := h; exact ⟨zs, RNums.put h1 a x y hc hy, h2⟩

/-- the answer's room is filled -/
theorem rfill {w u : World} {g : Nat} {bl bq : Bool} {v vq : Value} {x : Nat} (hb : Below w.heap.size w u) (hg : w.heap.size ≤ g) (c0 : u.cell? ⟨g, 0, none⟩ = some (.bool bq)) (c1 : u.cell? ⟨g, 1, none⟩ = some vq) (hq : ∀ i, vq ≠ .int .i64 i) (hn : RV u v x) :
    ((u.setCell ⟨g, 0, none⟩ (.bool bl)).setCell ⟨g, 1, none⟩ v).cell? ⟨g, 0, none⟩ = some (.bool bl) ∧ ((u.setCell ⟨g, 0, none⟩ (.bool bl)).setCell ⟨g, 1, none⟩ v).cell? ⟨g, 1, none⟩ = some v ∧ RV ((u.setCell ⟨g, 0, none⟩ (.bool bl)).setCell ⟨g, 1, none⟩ v) v x ∧ Below w.heap.size w ((u.setCell ⟨g, 0, none⟩ (.bool bl)).setCell ⟨g, 1, none⟩ v) := by
  have d1 : (u.setCell ⟨g, 0, none⟩ (.bool bl)).cell? ⟨g, 1, none⟩ = some vq := by
    rw [World.cell?_setCell_other _ _ _ _ (by simp)]; exact c1
  refine ⟨?_, World.cell?_setCell_same _ _ _ d1, ?_, (hb.setCell hg _).setCell hg _⟩
  · rw [World.cell?_setCell_other _ _ _ _ (by simp)]; exact World.cell?_setCell_same _ _ _ c0
  · exact (hn.put _ _ _ c0 (by simp)).put _ _ _ d1 hq

theorem rsum_any {w : World} {v1 v2 : Value} {x1 x2 K : Nat} (h1 : RV w v1 x1) (h2 : RV w v2 x2) (k1 : x1 < 10 ^ K) (k2 : x2 < 10 ^ K) (hK : K ≤ 549755813888) (u : World) (hu : Below w.heap.size w u) :
    Calls Tryd.prog 81 #[v1, v2] u fun e w' => ∃ ro rn rc, e = .returned (.slice ro rn rc) ∧ Hid (RU w' (.slice ro rn rc) (x1 + x2)) ∧ Below u.heap.size u w' := by
  obtain ⟨xs, a1, a2, a3, a4, a5⟩ := h1.fits k1
  obtain ⟨ys, b1, b2, b3, b4, b5⟩ := h2.fits k2
  refine (w_rsum v1 v2 xs ys u (a1.keep hu) (b1.keep hu) (by omega) (by omega) a2 b2).mono ?_
  rintro e w' ⟨ro, rn, rc, zs, rfl, hf, hv, hl⟩
  exact ⟨ro, rn, rc, rfl, ⟨zs, hf.1, hf.2.1, by rw [hv, a4, b4], by omega⟩, hf.2.2.1⟩

theorem rrest_any {w : World} {v1 v2 : Value} {x1 x2 K : Nat} (h1 : RV w v1 x1) (h2 : RV w v2 x2) (k1 : x1 < 10 ^ K) (hle : x2 ≤ x1) (hK : K ≤ 549755813888) (u : World) (hu : Below w.heap.size w u) :
    Calls Tryd.prog 82 #[v1, v2] u fun e w' => ∃ ro rn rc, e = .returned (.slice ro rn rc) ∧ Hid (RU w' (.slice ro rn rc) (x1 - x2)) ∧ Below u.heap.size u w' := by
  obtain ⟨xs, a1, a2, a3, a4, a5⟩ := h1.fits k1
  obtain ⟨ys, b1, b2, b3, b4⟩ := h2
  have hll : ys.length ≤ xs.length := by
    rcases Nat.lt_or_ge xs.length ys.length with h | h
    · have := Pl.val_lt_of_len (by decide) a2 b3 h; omega
    · exact h
  refine (w_rrest v1 v2 xs ys u (a1.keep hu) (b1.keep hu) (by omega) hll a2 b2 (by omega)).mono ?_
  rintro e w' ⟨ro, rn, rc, zs, rfl, hf, hv, hl⟩
  exact ⟨ro, rn, rc, rfl, ⟨zs, hf.1, hf.2.1, by omega, by omega⟩, hf.2.2.1⟩

theorem rsize_any {w : World} {v1 v2 : Value} {x1 x2 K : Nat} (h1 : RV w v1 x1) (h2 : RV w v2 x2) (k1 : x1 < 10 ^ K) (k2 : x2 < 10 ^ K) (hK : K ≤ 549755813888) (u : World) (hu : Below w.heap.size w u) :
    Calls Tryd.prog 51 #[v1, v2] u fun e w' => e = .returned (.int .i64 (Pl.cmpI x1 x2)) ∧ Below u.heap.size u w' := by
  obtain ⟨xs, a1, a2, a3, a4, a5⟩ := h1.fits k1
  obtain ⟨ys, b1, b2, b3, b4, b5⟩ := h2.fits k2
  rw [← a4, ← b4]
  exact w_size v1 v2 xs ys u (a1.keep hu) (b1.keep hu) (by unfold maxLen; omega) (by unfold maxLen; omega) 10 (by decide) a2 b2 a3 b3

set_option maxRecDepth 100000 in
set_option maxHeartbeats 1600000 in
theorem w_radd_same (b1 : Bool) (v1 v2 : Value) (x1 x2 K : Nat) (w : World) (h1 : RV w v1 x1) (h2 : RV w v2 x2) (k1 : x1 < 10 ^ K) (k2 : x2 < 10 ^ K) (hK : K ≤ 549755813888) :
    Calls Tryd.prog 57 #[.agg #[.bool b1, v1], .agg #[.bool b1, v2]] w fun e w' => RN w w' e (sgn b1 x1 + sgn b1 x2) := by
  have HS := Hid.mk (rsum_any h1 h2 k1 k2 hK)
  obtain ⟨ao, na, ca, hv⟩ : ∃ ao na ca, v1 = .slice ao na ca := by obtain ⟨_, ⟨ao, ca, rfl, _⟩, _⟩ := h1; exact ⟨ao, _, ca, rfl⟩
  subst hv
  obtain ⟨bo, nb, cb, hv⟩ : ∃ ao na ca, v2 = .slice ao na ca := by obtain ⟨_, ⟨ao, ca, rfl, _⟩, _⟩ := h2; exact ⟨ao, _, ca, rfl⟩
  subst hv
  clear h1 h2 k1 k2
  have hbb : (b1 == b1) = true := by simp
  have HI := (in3_rbox w b1 (.slice ao na ca) b1 (.slice bo nb cb)).drew
  go_enter Tryd.func57, Tryd.ntmps57
  go_wp2_with fail
  go_region_with (first | (go_at_call 81; refine (HS.out _ HI.below).mono ?_; rintro e w1 ⟨so, sn, sc, rfl, HN, hb1⟩; have HJ := HI.keep hb1; have g00 := HJ.c00) | (go_at_call 46; refine (w_trimR b1 _ _ _ HN.out).mono ?_; rintro e w2 ⟨ro, rn, rc, rfl, HV, hb2⟩; have HK := HJ.keep hb2; have g20 := HK.c20; have g21 := HK.c21; have q20 := HK.f20; have q21 := HK.f21; have HK' := Hid.mk HK; clear HK))
  all_goals generalize hfl : (b1 && decide (0 < x1 + x2)) = bl
  all_goals have HFL := Hid.mk hfl
  all_goals clear hfl
  all_goals obtain ⟨r0, r1, r2, r3⟩ := rfill (bl := bl) HK'.out.below (by omega) g20 g21 (by simp) HV.out
  all_goals go_wp2_with fail
  all_goals refine bodyPost_ret (v := .agg #[.bool bl, .slice ro rn rc]) (by simp [results, Tryd.results57, go_sem, r0, r1]) rfl ?_
  all_goals exact ⟨bl, _, _, _, _, rfl, r2, flag_sgn HFL.out (sgn_same _ _ _), flag_pos HFL.out, r3⟩

end Go.Proofs.YtfcbeohkhljboaaDoor
