import Derived.Test.YtfcbeohkhljboaaDoorZWalk7
namespace Go.Proofs.YtfcbeohkhljboaaDoor
open Go.RowKit
set_option linter.unusedVariables false
set_option linter.unusedSimpArgs false

theorem keep2 {w : World} (o1 o2 : Obj) : Below w.heap.size w ((w.alloc o1).alloc o2) := ((Below.refl _ _).alloc (Nat.le_refl _) _).alloc (by simp) _

set_option maxHeartbeats 800000 in
theorem w_order (ba bb : Bool) (va vb : Value) (xs ys : List Nat) (w : World) (ha : Nums .i64 w va xs) (hb : Nums .i64 w vb ys) (hm : xs.length ≤ maxLen) (hm2 : ys.length ≤ maxLen) (B : Nat) (hB : 0 < B) (hx : Pl.dig B xs) (hy : Pl.dig B ys) (tx : Pl.Top xs) (ty : Pl.Top ys) :
    Calls Tryd.prog 64 #[.agg #[.bool ba, va], .agg #[.bool bb, vb]] w fun e w' => e = .returned (.int .i64 (Pl.ordI ba bb (Pl.cmpI (Pl.val B xs) (Pl.val B ys)))) ∧ Below w.heap.size w w' := by
  have hc1 := Pl.cmpI_bd (Pl.val B xs) (Pl.val B ys)
  have hA := fun o1 o2 => ha.keep (keep2 (w := w) o1 o2)
  have hB' := fun o1 o2 => hb.keep (keep2 (w := w) o1 o2)
  obtain ⟨ao, cap, rfl, q1, q2⟩ := ha
  clear q1 q2
  obtain ⟨ao2, cap2, rfl, q1, q2⟩ := hb
  clear q1 q2
  cases ba <;> cases bb
  · go_enter Tryd.func64, Tryd.ntmps64
    go_wp2_with fail
    refine (w_size _ _ xs ys _ (hA _ _) (hB' _ _) hm hm2 B hB hx hy tx ty).mono ?_
    rintro e w1 ⟨rfl, hb1⟩
    go_wp2_with fail
    go_ret
    exact ⟨rfl, (keep2 _ _).trans (hb1.mono (by simp; omega))⟩
  · go_enter Tryd.func64, Tryd.ntmps64
    go_wp2_with fail
    go_ret
    exact ⟨rfl, keep2 _ _⟩
  · go_enter Tryd.func64, Tryd.ntmps64
    go_wp2_with fail
    go_ret
    exact ⟨rfl, keep2 _ _⟩
  · go_enter Tryd.func64, Tryd.ntmps64
    go_wp2_with fail
    refine (w_size _ _ xs ys _ (hA _ _) (hB' _ _) hm hm2 B hB hx hy tx ty).mono ?_
    rintro e w1 ⟨rfl, hb1⟩
    generalize hcc : Pl.cmpI (Pl.val B xs) (Pl.val B ys) = c at hc1 ⊢
    have HCC := Hid.mk hcc
    clear hcc
    obtain ⟨hc1, hc2⟩ := hc1
    go_wp2_with fail
    go_ret
    exact ⟨by rw [HCC.out]; rfl, (keep2 _ _).trans (hb1.mono (by simp; omega))⟩
end Go.Proofs.YtfcbeohkhljboaaDoor
