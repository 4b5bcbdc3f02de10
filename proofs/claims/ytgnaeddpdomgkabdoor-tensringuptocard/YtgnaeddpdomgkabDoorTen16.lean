import Derived.Test.YtgnaeddpdomgkabDoorTen15
namespace Go.Proofs.YtgnaeddpdomgkabDoor
open Go.RowKit
set_option linter.unusedVariables false
set_option linter.unusedSimpArgs false

theorem w_rootGuess (va : Value) (xs : List Nat) (w : World) (IH : Hid (∀ M, M < xs.length → RootAt M)) (ha : Nums .u64 w va xs) (hma : xs.length ≤ 34359738368) (hx : Pl.dig 1000000000 xs) (tx : Pl.Top xs) :
    Calls Tryd.prog 39 #[va] w fun e w' => ∃ v, e = .returned v ∧ Guess2 w w' v xs := by
  by_cases hl : xs.length ≤ 2
  · exact w_guess_small va xs w ha hl hx
  · exact w_guess_big va xs w IH ha (by omega) hma hx tx

set_option maxHeartbeats 3200000 in
theorem w_root_some (va : Value) (xs : List Nat) (w : World) (IH : Hid (∀ M, M < xs.length → RootAt M)) (ha : Nums .u64 w va xs) (hp : 0 < xs.length) (hma : xs.length ≤ 34359738368) (hx : Pl.dig 1000000000 xs) (tx : Pl.Top xs) :
    Calls Tryd.prog 26 #[va] w fun e w' => ∃ v, e = .returned v ∧ Rooted w w' v xs := by
  have HA := Hid.mk ha
  have HG := Hid.mk (w_rootGuess va xs w IH ha hma hx tx)
  have hAp : 0 < Pl.val 1000000000 xs := by
    have h1 := Pl.val_ge_top (B := 1000000000) hp (Pl.top_last tx hp)
    have : 0 < 1000000000 ^ (xs.length - 1) := Nat.pow_pos (by decide)
    omega
  have HAp := Hid.mk hAp
  obtain ⟨ao, capa, rfl, q1, q2⟩ := ha
  clear q1 q2 hAp
  have hne : ((xs.length : Int) == 0) = false := by simp; intro h; rw [h] at hp; simp at hp
  clear IH
  generalize hla : xs.length = la at *
  have HLA := Hid.mk hla
  clear hla
  go_enter Tryd.func26, Tryd.ntmps26
  go_wp2_with fail
  refine HG.out.mono ?_
  rintro e w1 ⟨v1, rfl, hg1⟩
  obtain ⟨gs, hgot, hb1, hgl, hgv⟩ := hg1
  have HGot := Hid.mk hgot
  have HB1 := Hid.mk hb1
  have HGv : Hid (Pl.val 1000000000 xs < (Pl.val 1000000000 gs + 1) * (Pl.val 1000000000 gs + 1)) := by
    have : Pl.val 1000000000 gs * Pl.val 1000000000 gs ≤ (Pl.val 1000000000 gs + 1) * (Pl.val 1000000000 gs + 1) := Nat.mul_le_mul (by omega) (by omega)
    show _ < _
    omega
  have hgl' : gs.length ≤ la + 2 := by rw [HLA.out] at hgl; exact hgl
  obtain ⟨ao1, cap1, hvv, q1, q2⟩ := hgot.1
  clear q1 q2 hgot hb1 hgv hgl
  subst hvv
  go_wp2_with fail
  go_loopw [3] (fun v wr => ∃ rs, Hid (Got wr v rs) ∧ Below w.heap.size w wr ∧ rs.length ≤ la + 2 ∧ Hid (Pl.val 1000000000 xs < (Pl.val 1000000000 rs + 1) * (Pl.val 1000000000 rs + 1))) (fun v wr => worth wr v)
  case atStart => exact ⟨gs, HGot, HB1.out, hgl', HGv⟩
  case round =>
    obtain ⟨rs, HRs, hbw, hrl, HRv⟩ := hrel
    have hrp : 0 < Pl.val 1000000000 rs := by
      rcases Nat.eq_zero_or_pos (Pl.val 1000000000 rs) with h | h
      · have := HRv.out; rw [h] at this; have := HAp.out; omega
      · exact h
    have HW := Hid.mk (worth_of HRs.out.1)
    have HBw := Hid.mk hbw
    have HRp := Hid.mk hrp
    obtain ⟨aor, capr, hvv, q1, q2⟩ := HRs.out.1
    clear q1 q2 hbw hrp
    subst hvv
    go_wp2_with fail
    refine (w_divide _ _ xs rs wr (HA.out.keep HBw.out) HRs.out.1 (by rw [HLA.out]; omega) (by omega) hx HRs.out.2.1 tx HRs.out.2.2 HRp.out).mono ?_
    rintro e w2 ⟨vq, vr, rfl, hdv⟩
    obtain ⟨qs, ts, hgq, hgr, hb2, hq1, hq2⟩ := hdv
    have HGq := Hid.mk hgq
    have HQ1 := Hid.mk hq1
    have HQ2 := Hid.mk hq2
    have HB2 := Hid.mk hb2
    have hql : qs.length ≤ la := by
      refine Pl.len_of_val (B := 1000000000) (by decide) hgq.2.2 ?_
      have h1 := Pl.val_lt hx
      rw [HLA.out] at h1
      have : Pl.val 1000000000 qs * 1 ≤ Pl.val 1000000000 qs * Pl.val 1000000000 rs := Nat.mul_le_mul_left _ HRp.out
      omega
    obtain ⟨aoq, capq, hvv, q1, q2⟩ := hgq.1
    clear q1 q2
    obtain ⟨aot, capt, hvv2, q1, q2⟩ := hgr.1
    clear q1 q2 hgq hgr hb2 hq1 hq2
    subst hvv
    subst hvv2
    go_wp2_with fail
    refine (w_sum _ _ rs qs w2 (HRs.out.1.keep HB2.out) HGq.out.1 (by omega) (by omega) HRs.out.2.1 HGq.out.2.1).mono ?_
    rintro e w3 ⟨v3, ss, rfl, hf3, hv3⟩
    have HF3 := Hid.mk hf3
    have HV3 := Hid.mk hv3
    have hsl : ss.length ≤ la + 2 + 1 := Pl.sum_len (B := 1000000000) (by decide) HRs.out.2.1 HGq.out.2.1 hf3.2.2.1 hv3 hrl (by omega)
    have HB3 : Hid (Below wr.heap.size wr w3) := HB2.out.trans (hf3.2.2.2.1.mono HB2.out.size)
    obtain ⟨ao3, cap3, hvv, q1, q2⟩ := hf3.1
    clear q1 q2 hf3 hv3
    subst hvv
    go_wp2_with fail
    refine (w_divideByGroup _ ss 2 w3 HF3.out.1 (by omega) HF3.out.2.1 (by decide) (by decide)).mono ?_
    rintro e w4 ⟨v4, ns, m, rfl, hf4, hv4, hm4⟩
    have HF4 := Hid.mk hf4
    have HB4 : Hid (Below wr.heap.size wr w4) := HB3.out.trans (hf4.2.2.2.1.mono HB3.out.size)
    obtain ⟨hnw1, hnw2⟩ := Pl.newton HQ1.out HQ2.out (by rw [hv4]; exact HV3.out) hm4 HRv.out
    have HN1 := Hid.mk hnw1
    have HN2 := Hid.mk hnw2
    have hnl : ns.length ≤ la + 2 + 1 := by
      refine Nat.le_trans (Pl.len_of_val (B := 1000000000) (n := ss.length) (by decide) hf4.2.2.1 ?_) hsl
      have := Pl.val_lt HF3.out.2.1
      omega
    obtain ⟨ao4, cap4, hvv, q1, q2⟩ := hf4.1
    clear q1 q2 hf4 hv4 hm4 hnw1 hnw2
    subst hvv
    go_wp2_with fail
    refine (w_compare _ _ ns rs w4 HF4.out.1 (HRs.out.1.keep HB4.out) (by unfold maxLen; omega) (by unfold maxLen; omega) HF4.out.2.1 HRs.out.2.1 HF4.out.2.2.1 HRs.out.2.2).mono ?_
    rintro e w5 ⟨rfl, hb5⟩
    have HB5 : Hid (Below wr.heap.size wr w5) := HB4.out.trans (hb5.mono HB4.out.size)
    have HBw5 : Hid (Below w.heap.size w w5) := HBw.out.trans (HB5.out.mono HBw.out.size)
    by_cases hlt : Pl.val 1000000000 ns < Pl.val 1000000000 rs
    · rw [Pl.cmp_less hlt]
      have HNew : Hid (Got w5 (.slice ao4 ns.length cap4) ns) := ⟨HF4.out.1.keep hb5, HF4.out.2.1, HF4.out.2.2.1⟩
      have HWn := Hid.mk (worth_of HNew.out.1)
      have hnl2 : ns.length ≤ la + 2 := by
        refine Nat.le_trans (Pl.len_of_val (B := 1000000000) (n := rs.length) (by decide) HF4.out.2.2.1 ?_) hrl
        have := Pl.val_lt HRs.out.2.1
        omega
      have HLt := Hid.mk hlt
      clear hlt hb5
      go_wp2_with fail
      go_roundw
      case measure => rw [HWn.out, HW.out]; exact HLt.out
      exact ⟨ns, HNew, HBw5.out, hnl2, HN2⟩
    · obtain ⟨c, hc⟩ : ∃ c, c = Pl.cmpI (Pl.val 1000000000 ns) (Pl.val 1000000000 rs) := ⟨_, rfl⟩
      have hc0 : 0 ≤ c := by
        rw [hc]
        rcases (show Pl.val 1000000000 rs < Pl.val 1000000000 ns ∨ Pl.val 1000000000 ns = Pl.val 1000000000 rs by omega) with h | h
        · rw [Pl.cmp_more h]; decide
        · rw [Pl.cmp_eq h]; decide
      rw [← hc]
      have HFin : Hid (Rooted w w5 (.slice aor rs.length capr) xs) := ⟨rs, ⟨HRs.out.1.keep HB5.out, HRs.out.2.1, HRs.out.2.2⟩, HBw5.out, HN1.out (by omega), HRv.out⟩
      clear hc hlt hb5
      go_wp2_with fail
      go_ret
      exact ⟨_, rfl, HFin.out⟩

theorem w_root (N : Nat) : RootAt N := by
  induction N using Nat.strongRecOn with
  | _ N ih =>
    intro va xs w hl hN ha hx tx
    by_cases h0 : xs.length = 0
    · obtain rfl : xs = [] := List.eq_nil_of_length_eq_zero h0
      obtain ⟨ao, capa, rfl, q1, q2⟩ := ha
      clear q1 q2
      go_enter Tryd.func26, Tryd.ntmps26
      go_wp2
      go_ret
      exact ⟨_, rfl, [], ⟨Nums.nil _ _ _ _ (fun a e => by cases e), Pl.dig_nil _, rfl⟩, Below.refl _ _, by simp [Pl.val], by simp [Pl.val]⟩
    · exact w_root_some va xs w (fun M hM => ih M (by omega)) ha (by omega) (by omega) hx tx
end Go.Proofs.YtgnaeddpdomgkabDoor
