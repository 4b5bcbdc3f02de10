import Derived.Test.YtgnaeddpdomgkabDoorTen7
namespace Go.Proofs.YtgnaeddpdomgkabDoor
open Go.RowKit
set_option linter.unusedVariables false
set_option linter.unusedSimpArgs false

set_option maxHeartbeats 1600000 in
theorem w_cut (va : Value) (xs : List Nat) (n : Nat) (w : World) (ha : Nums .u64 w va xs) (hma : xs.length ≤ 274877906944) (hn0 : 0 < n) (hn : n < xs.length) :
    Calls Tryd.prog 54 #[va, .int .i64 (n : Int)] w fun e w' => ∃ vl vh, e = .returned (.tuple #[vl, vh]) ∧ Below w.heap.size w w' ∧ Nums .u64 w vl (Pl.trimN (xs.take n)) ∧ Nums .u64 w vh (xs.drop n) ∧ vl.ownBlock = va.ownBlock ∧ vh.ownBlock = va.ownBlock := by
  rcases ha.open' with ⟨rfl, _⟩ | ⟨hp, b, off, cap, rfl, hc, hlt, hcell⟩
  · simp at hn
  have hlow : Nums .u64 w (.slice (some ⟨b, off, none⟩) n n) (xs.take n) := by
    refine Nums.mk (by simp; omega) (Nat.le_refl _) hlt (fun i hi => ?_)
    rw [getD_take hi]; exact hcell i (by omega)
  have hhigh : Nums .u64 w (.slice (some ⟨b, off + n, none⟩) (xs.length - n) (xs.length - n)) (xs.drop n) := by
    refine Nums.mk (by simp) (Nat.le_refl _) hlt (fun i hi => ?_)
    rw [Nat.add_assoc]
    have := hcell (n + i) (by omega)
    rw [this]
    simp
  have HLow := Hid.mk hlow
  have HHigh := Hid.mk hhigh
  have hlm : (xs.take n).length ≤ maxLen := by simp; unfold maxLen; omega
  generalize hl : xs.length = la at *
  clear hl hlow hhigh hcell ha
  have h1 : (n : Int) < (la : Int) := by omega
  have h2 : (la : Int) ≤ (cap : Int) := by omega
  have h3 : (n : Int) ≤ (cap : Int) := by omega
  go_enter Tryd.func54, Tryd.ntmps54
  go_wp2
  go_quiet ((go_at_call 38; exact Calls.quiet_of_same (w_tTrimD _ _ _ (HLow.out.keep (below_drewN (Below.refl _ _) _)) hlm)))
  go_wp2
  go_ret2
  exact ⟨_, _, rfl, below_drewN (Below.refl _ _) _, HLow.out.trim3, HHigh.out, rfl, rfl⟩
end Go.Proofs.YtgnaeddpdomgkabDoor
