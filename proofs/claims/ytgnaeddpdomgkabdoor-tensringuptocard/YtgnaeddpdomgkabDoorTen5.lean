import Derived.Test.YtgnaeddpdomgkabDoorTen4
namespace Go.Proofs.YtgnaeddpdomgkabDoor
open Go.RowKit
set_option linter.unusedVariables false
set_option linter.unusedSimpArgs false

theorem w_take_none (ao : Option Addr) (cap : Nat) (vd : Value) (w : World) :
    Calls Tryd.prog 52 #[.slice ao 0 cap, vd, .int .u64 1] w fun e w' => e = .returned (.bool false) ∧ w' = w := by
  go_enter Tryd.func52, Tryd.ntmps52
  go_wp2
  refine wp_loop_rounds 1 ?_
  rw [rounds_succ]
  go_wp2
  go_ret
  exact ⟨rfl, rfl⟩

set_option maxHeartbeats 1600000 in
theorem w_difference (va vb : Value) (xs ys : List Nat) (w : World) (ha : Nums .u64 w va xs) (hb : Nums .u64 w vb ys) (hma : xs.length ≤ 274877906944) (hx : Pl.dig 1000000000 xs) (hy : Pl.dig 1000000000 ys) (ty : Pl.Top ys) (hle : Pl.val 1000000000 ys ≤ Pl.val 1000000000 xs) :
    Calls Tryd.prog 45 #[va, vb] w fun e w' => ∃ v zs, e = .returned v ∧ Fresh w w' v zs ∧ Pl.val 1000000000 zs + Pl.val 1000000000 ys = Pl.val 1000000000 xs := by
  have hll : ys.length ≤ xs.length := by
    rcases Nat.lt_or_ge xs.length ys.length with h | h
    · have := Pl.val_lt_of_len (by decide) hx ty h; omega
    · exact h
  have HA := Hid.mk ha
  have HB := Hid.mk hb
  obtain ⟨ao, capa, rfl, q1, q2⟩ := ha
  clear q1 q2
  obtain ⟨bo, capb, rfl, q1, q2⟩ := hb
  clear q1 q2
  go_enter Tryd.func45, Tryd.ntmps45
  go_wp2_with fail
  refine (w_Clone _ xs w HA.out hma).mono ?_
  rintro e w1 ⟨v, rfl, hn, hb1, hrow, hown⟩
  have HB1 := Hid.mk (HB.out.keep hb1)
  by_cases hp : 0 < xs.length
  · obtain ⟨g, cap, rfl, hcap, hg, hr⟩ := hrow hp
    have HR := Hid.mk hr
    clear hr hrow hown hn
    have hoff : (Value.slice bo ys.length capb).ownBlock ≠ some g := HB.out.older hg
    have HOff := Hid.mk hoff
    clear hoff
    go_wp2_with fail
    refine (w_takeFrom g 0 xs.length cap _ 1 [] xs [] ys w1 (by simpa using HR.out) rfl rfl hcap (by omega) hx hy HB1.out HOff.out hll (by decide)).mono ?_
    rintro e w2 ⟨short, rfl, htk⟩
    obtain ⟨hg2, rs', c, hl', hd', hrow', hv', hsh, hiff⟩ := htk
    have hc0 : c = 0 := by
      rcases Nat.eq_zero_or_pos c with h | h
      · exact h
      · have := hiff.1 h; omega
    subst hc0
    have HVal : Hid (Pl.val 1000000000 (Pl.trimN rs') + Pl.val 1000000000 ys = Pl.val 1000000000 xs) := by
      show _ = _
      rw [Pl.val_trim]; simpa using hv'
    go_wp2_with fail
    refine (w_tTrim _ rs' _ (hrow'.nums (pre := []) (post := []) rfl rfl hl' hcap) (by unfold maxLen; omega)).mono ?_
    rintro e w3 ⟨v', rfl, rfl, hn', ho'⟩
    have HF := Hid.mk (fresh_of (hb1.trans (below_grown hg2 hg hb1.size)) hg hd' hn' ho' rfl)
    obtain ⟨ao', cap', hvv, q1, q2⟩ := hn'
    clear q1 q2 hl' hd' hrow' hv' hg2 ho' hsh hiff
    subst hvv
    go_wp2_with fail
    go_ret
    exact ⟨_, _, rfl, HF.out, HVal.out⟩
  · obtain rfl : xs = [] := List.eq_nil_of_length_eq_zero (by omega)
    obtain rfl : ys = [] := List.eq_nil_of_length_eq_zero (by simpa using hll)
    have HN := Hid.mk hn
    have HO := Hid.mk hown
    obtain ⟨ao', cap', rfl, q1, q2⟩ := hn
    clear q1 q2 hrow hown
    go_wp2_with fail
    refine (w_take_none ao' cap' _ w1).mono ?_
    rintro e w2 ⟨rfl, rfl⟩
    go_wp2_with fail
    refine (w_tTrim _ [] _ HN.out (by decide)).mono ?_
    rintro e w3 ⟨v', rfl, rfl, hn', ho'⟩
    have HF : Hid (Fresh w w3 v' (Pl.trimN [])) := ⟨hn', Pl.dig_nil _, rfl, hb1, fun k hk => HO.out k (by rw [← ho']; exact hk)⟩
    obtain ⟨ao2, cap2, hvv, q1, q2⟩ := hn'
    clear q1 q2 ho'
    subst hvv
    go_wp2_with fail
    go_ret
    exact ⟨_, _, rfl, HF.out, rfl⟩
end Go.Proofs.YtgnaeddpdomgkabDoor
