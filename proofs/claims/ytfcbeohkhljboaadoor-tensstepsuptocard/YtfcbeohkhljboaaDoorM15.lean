import Derived.Test.YtfcbeohkhljboaaDoorM13
import Derived.Test.YtfcbeohkhljboaaDoorM14
namespace Go.Proofs.YtfcbeohkhljboaaDoor
open Go.RowKit
set_option linter.unusedVariables false
set_option linter.unusedSimpArgs false

theorem nat_max (a b : Nat) : (max (a : Int) (b : Int)) = ((max a b : Nat) : Int) := by omega

/-- what a row that was put together leaves: its trimmed slice, in memory of its own -/
def Fresh (w w' : World) (v : Value) (xs : List Nat) : Prop := Nums .u64 w' v xs ∧ Pl.dig 1000000000 xs ∧ Pl.Top xs ∧ Below w.heap.size w w' ∧ ∀ k, v.ownBlock = some k → w.heap.size ≤ k

/-- a row of the call's own, trimmed -/
theorem fresh_of {w w2 : World} {g : Nat} {rs : List Nat} {v v' : Value} (hb : Below w.heap.size w w2) (hg : w.heap.size ≤ g) (hd : Pl.dig 1000000000 rs) (hn : Nums .u64 w2 v' (Pl.trimN rs)) (ho : v'.ownBlock = v.ownBlock) (hv : v.ownBlock = some g) : Fresh w w2 v' (Pl.trimN rs) :=
  ⟨hn, Pl.dig_trim hd, Pl.top_trim _, hb, fun k hk => by rw [ho, hv] at hk; cases hk; exact hg⟩

theorem sum_fits {xs ys : List Nat} {L : Nat} (hx : Pl.dig 1000000000 xs) (hy : Pl.dig 1000000000 ys) (h1 : xs.length ≤ L) (h2 : ys.length ≤ L) : (Pl.val 1000000000 xs + Pl.val 1000000000 ys) % 1000000000 ^ (L + 1) = Pl.val 1000000000 xs + Pl.val 1000000000 ys := by
  apply Nat.mod_eq_of_lt
  have a1 := Pl.val_lt hx
  have a2 := Pl.val_lt hy
  have b1 : 1000000000 ^ xs.length ≤ 1000000000 ^ L := Nat.pow_le_pow_right (by decide) h1
  have b2 : 1000000000 ^ ys.length ≤ 1000000000 ^ L := Nat.pow_le_pow_right (by decide) h2
  rw [Nat.pow_succ]
  omega

set_option maxHeartbeats 1600000 in
theorem w_sum (va vb : Value) (xs ys : List Nat) (w : World) (ha : Nums .u64 w va xs) (hb : Nums .u64 w vb ys) (hma : xs.length ≤ 274877906944) (hmb : ys.length ≤ 274877906944) (hx : Pl.dig 1000000000 xs) (hy : Pl.dig 1000000000 ys) :
    Calls Tryd.prog 75 #[va, vb] w fun e w' => ∃ v zs, e = .returned v ∧ Fresh w w' v zs ∧ Pl.val 1000000000 zs = Pl.val 1000000000 xs + Pl.val 1000000000 ys := by
  have HA := Hid.mk ha
  have HB := Hid.mk hb
  obtain ⟨ao, capa, rfl, q1, q2⟩ := ha
  clear q1 q2
  obtain ⟨bo, capb, rfl, q1, q2⟩ := hb
  clear q1 q2
  have hcase : ys.length ≤ xs.length ∨ xs.length < ys.length := by omega
  obtain ⟨L, hL⟩ : ∃ L, L = max xs.length ys.length := ⟨_, rfl⟩
  have HL := Hid.mk hL
  have hmk := fun (z : Int) (hz : z = ((L + 1 : Nat) : Int)) (u : World) => run_make_row' (L + 1) z hz (by omega) u
  have h1 := ((Below.refl w.heap.size w).alloc (Nat.le_refl _) (zrow (L + 1)))
  have HA1 := Hid.mk (HA.out.keep h1)
  have HB1 := Hid.mk (HB.out.keep h1)
  have hr1 := Hid.mk (row_new w (L + 1))
  have offA : (Value.slice ao xs.length capa).ownBlock ≠ some w.heap.size := HA.out.older (Nat.le_refl _)
  have offB := Hid.mk (show (Value.slice bo ys.length capb).ownBlock ≠ some w.heap.size from HB.out.older (Nat.le_refl _))
  have HOA := Hid.mk offA
  clear h1 offA
  have HMK := Hid.mk hmk
  clear hmk hL
  obtain ⟨w1, hcp, HR, HG⟩ := run_copy_nums _ w.heap.size (L + 1) (L + 1) _ _ xs hr1.out (by simp) HA1.out (by have := HL.out; omega)
  have hgoI : goInt xs.length = .int .i64 xs.length := rfl
  have HSum : Hid (Row w1 w.heap.size ([] ++ (xs ++ List.replicate (L + 1 - xs.length) 0) ++ [])) := by
    have := HR.out
    rw [List.drop_replicate] at this
    show Row _ _ _
    simpa using this
  have HB2 := Hid.mk (HB1.out.off offB.out HG.out)
  have HV : Hid (Pl.val 1000000000 (xs ++ List.replicate (L + 1 - xs.length) 0) = Pl.val 1000000000 xs) := by
    show _ = _
    rw [Pl.val_append, val_zeros]; simp
  have HD : Hid (Pl.dig 1000000000 (xs ++ List.replicate (L + 1 - xs.length) 0)) := Pl.dig_append.2 ⟨hx, dig_zeros _ _ (by decide)⟩
  have HLen : Hid ((xs ++ List.replicate (L + 1 - xs.length) 0).length = L + 1) := by have := HL.out; show _ = _; simp; omega
  have hLm : L ≤ 274877906944 := by have := HL.out; omega
  have HBel : Hid (Below w.heap.size w w1) := by
    exact ((Below.refl w.heap.size w).alloc (Nat.le_refl _) (zrow (L + 1))).trans (below_grown HG.out (Nat.le_refl _) (by simp))
  generalize xs ++ List.replicate (L + 1 - xs.length) 0 = rs at *
  rcases hcase with hc | hc
  · obtain rfl : L = xs.length := by have := HL.out; omega
    have hmk := fun (u : World) => HMK.out ((xs.length : Int) + 1) (by omega) u
    clear HMK
    go_enter Tryd.func75, Tryd.ntmps75
    go_wp2_with fail
    refine (w_addTo w.heap.size 0 (xs.length + 1) (xs.length + 1) _ [] rs [] ys w1 HSum.out rfl HLen.out (Nat.le_refl _) (by omega) HD.out hy HB2.out offB.out (by omega)).mono ?_
    rintro e w2 ⟨rfl, hadd⟩
    have HAd := Hid.mk hadd
    clear hadd
    go_wp2_with fail
    obtain ⟨hg2, rs', hl', hd', hrow', hv'⟩ := HAd.out
    refine (w_tTrim _ rs' _ (hrow'.nums (pre := []) (post := []) rfl rfl hl' (Nat.le_refl _)) (by unfold maxLen; omega)).mono ?_
    rintro e w3 ⟨v', rfl, rfl, hn', ho'⟩
    have HF := Hid.mk (fresh_of (HBel.out.trans (below_grown hg2 (Nat.le_refl _) (by have := HBel.out.size; omega))) (Nat.le_refl _) hd' hn' ho' rfl)
    have HVal : Hid (Pl.val 1000000000 (Pl.trimN rs') = Pl.val 1000000000 xs + Pl.val 1000000000 ys) := by
      show _ = _
      rw [Pl.val_trim, hv', HV.out]; exact sum_fits hx hy (Nat.le_refl _) hc
    obtain ⟨ao', cap', hvv, q1, q2⟩ := hn'
    clear q1 q2 hl' hd' hrow' hv' hg2 ho'
    subst hvv
    go_wp2_with fail
    go_ret
    exact ⟨_, _, rfl, HF.out, HVal.out⟩
  · obtain rfl : L = ys.length := by have := HL.out; omega
    have hmk := fun (u : World) => HMK.out ((ys.length : Int) + 1) (by omega) u
    clear HMK
    go_enter Tryd.func75, Tryd.ntmps75
    go_wp2_with fail
    refine (w_addTo w.heap.size 0 (ys.length + 1) (ys.length + 1) _ [] rs [] ys w1 HSum.out rfl HLen.out (Nat.le_refl _) (by omega) HD.out hy HB2.out offB.out (by omega)).mono ?_
    rintro e w2 ⟨rfl, hadd⟩
    have HAd := Hid.mk hadd
    clear hadd
    go_wp2_with fail
    obtain ⟨hg2, rs', hl', hd', hrow', hv'⟩ := HAd.out
    refine (w_tTrim _ rs' _ (hrow'.nums (pre := []) (post := []) rfl rfl hl' (Nat.le_refl _)) (by unfold maxLen; omega)).mono ?_
    rintro e w3 ⟨v', rfl, rfl, hn', ho'⟩
    have HF := Hid.mk (fresh_of (HBel.out.trans (below_grown hg2 (Nat.le_refl _) (by have := HBel.out.size; omega))) (Nat.le_refl _) hd' hn' ho' rfl)
    have HVal : Hid (Pl.val 1000000000 (Pl.trimN rs') = Pl.val 1000000000 xs + Pl.val 1000000000 ys) := by
      show _ = _
      rw [Pl.val_trim, hv', HV.out]; exact sum_fits hx hy (by omega) (Nat.le_refl _)
    obtain ⟨ao', cap', hvv, q1, q2⟩ := hn'
    clear q1 q2 hl' hd' hrow' hv' hg2 ho'
    subst hvv
    go_wp2_with fail
    go_ret
    exact ⟨_, _, rfl, HF.out, HVal.out⟩
end Go.Proofs.YtfcbeohkhljboaaDoor
