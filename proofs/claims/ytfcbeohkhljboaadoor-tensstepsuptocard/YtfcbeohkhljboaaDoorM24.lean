import Derived.Test.YtfcbeohkhljboaaDoorM22
import Derived.Test.YtfcbeohkhljboaaDoorM23
namespace Go.Proofs.YtfcbeohkhljboaaDoor
open Go.RowKit
set_option linter.unusedVariables false
set_option linter.unusedSimpArgs false

/-- what a slice's cells are worth: a loop's measure -/
def worth (w : World) (v : Value) : Nat := match v with
  | .slice (some a) n _ => Pl.val 1000000000 ((List.range n).map fun i => match w.cell? ⟨a.block, a.off + i, none⟩ with
    | some (.int _ x) => x.toNat
    | _ => 0)
  | _ => 0

theorem worth_of {w : World} {v : Value} {xs : List Nat} (h : Nums .u64 w v xs) : worth w v = Pl.val 1000000000 xs := by
  rcases h.open' with ⟨rfl, ao, cap, rfl, _⟩ | ⟨hp, b, off, cap, rfl, hc, hlt, hcell⟩
  · cases ao <;> rfl
  · simp only [worth]
    congr 1
    apply List.ext_getElem (by simp)
    intro i h1 h2
    have := hcell i h2
    simp only [List.getElem_map, List.getElem_range, this]
    simp [List.getElem?_eq_getElem h2]

/-- what root answers -/
def Rooted (w w' : World) (v : Value) (xs : List Nat) : Prop := ∃ rs, Got w' v rs ∧ Below w.heap.size w w' ∧ Pl.val 1000000000 rs * Pl.val 1000000000 rs ≤ Pl.val 1000000000 xs ∧ Pl.val 1000000000 xs < (Pl.val 1000000000 rs + 1) * (Pl.val 1000000000 rs + 1)

def RootAt (N : Nat) : Prop := ∀ (va : Value) (xs : List Nat) (w : World), xs.length ≤ N → N ≤ 34359738368 → Nums .u64 w va xs → Pl.dig 1000000000 xs → Pl.Top xs →
  Calls Tryd.prog 48 #[va] w fun e w' => ∃ v, e = .returned v ∧ Rooted w w' v xs

def zrow2 (n m : Nat) : Obj := .cells (vals .u64 (List.replicate m 0)).toArray 76 (0, 0)

theorem run_make_two (n m : Nat) (y z : Int) (hy : y = (n : Int)) (hz : z = (m : Int)) (hnm : n ≤ m) (hn : m ≤ 1099511627776) (u : World) : (Instr.makeSlice 56 (.int .i64 y) (.int .i64 z)).run Tryd.prog u = .ok (.slice (some ⟨u.heap.size, 0, none⟩) n m) (u.alloc (zrow2 n m)) := by
  subst hy hz
  obtain ⟨i0, hi, hz0, hz1, hz2⟩ := info_parts Tryd.infoU
  have h := run_make (P := Tryd.prog) u 56 76 i0 (.int .u64 0) Tryd.underlying56 hi hz0 .i64 .i64 (n : Int) (m : Int) (by omega) (by omega) (by rw [hz2]; omega) (by omega)
  have e : ((m : Int)).toNat = m := by omega
  have e2 : ((n : Int)).toNat = n := by omega
  rw [e, e2] at h
  unfold zrow2
  rw [← made_zeros]
  simpa [hz1, Value.cells] using h

theorem own_two (w : World) (n m : Nat) (hnm : n ≤ m) (hm : m ≤ 1099511627776) : (w.alloc (zrow2 n m)).ownsRow w.heap.size 76 1 (.slice (some ⟨w.heap.size, 0, none⟩) n m) n (vals .u64 (List.replicate n 0)) := by
  refine ⟨by rw [vals_len]; simp, Or.inr ⟨w.heap.size, m, (vals .u64 (List.replicate m 0)).toArray, rfl, Nat.le_refl _, heap_alloc_new w _, hnm, by unfold maxLen; omega, by simp [vals_len], ?_⟩⟩
  simp only [Nat.mul_one, vals]
  rw [← List.map_take, List.take_replicate, Nat.min_eq_left hnm]

/-- what rootGuess answers -/
def Guess2 (w w' : World) (v : Value) (xs : List Nat) : Prop := ∃ gs, Got w' v gs ∧ Below w.heap.size w w' ∧ gs.length ≤ xs.length + 2 ∧ Pl.val 1000000000 xs < Pl.val 1000000000 gs * Pl.val 1000000000 gs

set_option maxHeartbeats 1600000 in
theorem w_guess_small (va : Value) (xs : List Nat) (w : World) (ha : Nums .u64 w va xs) (hl : xs.length ≤ 2) (hx : Pl.dig 1000000000 xs) :
    Calls Tryd.prog 72 #[va] w fun e w' => ∃ v, e = .returned v ∧ Guess2 w w' v xs := by
  obtain ⟨ao, capa, rfl, q1, q2⟩ := ha
  clear q1 q2
  have h2 : (xs.length : Int) ≤ 2 := by omega
  have hv := Pl.val_lt hx
  have hv2 : Pl.val 1000000000 xs < 1000000000 * 1000000000 := by
    have : 1000000000 ^ xs.length ≤ 1000000000 ^ 2 := Nat.pow_le_pow_right (by decide) hl
    omega
  have HV := Hid.mk hv2
  clear hv hv2
  have HR : Hid (Row (w.alloc (.cells #[.int .u64 0, .int .u64 1] 76)) w.heap.size [0, 1]) := ⟨[], heap_alloc_new w _⟩
  go_enter Tryd.func72, Tryd.ntmps72
  go_wp2
  go_ret
  refine ⟨_, rfl, [0, 1], ⟨HR.out.nums (pre := []) (post := []) rfl rfl rfl (Nat.le_refl _), by intro y hy; simp at hy; omega, rfl⟩, (Below.refl _ _).alloc (Nat.le_refl _) _, by simp, ?_⟩
  rw [show Pl.val 1000000000 [0, 1] = 1000000000 by decide]
  exact HV.out

set_option maxHeartbeats 3200000 in
theorem w_guess_big (va : Value) (xs : List Nat) (w : World) (IH : Hid (∀ M, M < xs.length → RootAt M)) (ha : Nums .u64 w va xs) (hl : 2 < xs.length) (hma : xs.length ≤ 34359738368) (hx : Pl.dig 1000000000 xs) (tx : Pl.Top xs) :
    Calls Tryd.prog 72 #[va] w fun e w' => ∃ v, e = .returned v ∧ Guess2 w w' v xs := by
  obtain ⟨i0, hi0, hz0, hz1, hz2⟩ := info_parts Tryd.infoU
  have HA := Hid.mk ha
  obtain ⟨ao, capa, rfl, q1, q2⟩ := ha
  clear q1 q2
  have h2 : ¬ (xs.length : Int) ≤ 2 := by omega
  obtain ⟨k, hk⟩ : ∃ k, k = (xs.length + 1) / 4 := ⟨_, rfl⟩
  have hki : ((xs.length : Int) + 1) / 4 = (k : Int) := by omega
  have hk1 : 0 < k ∧ 2 * k < xs.length := by omega
  obtain ⟨hk0, hk2⟩ := hk1
  clear hk
  have e2 : 2 * (k : Int) = ((2 * k : Nat) : Int) := by simp
  have HSp := Hid.mk (Pl.val_split 1000000000 xs (2 * k) (by omega))
  have HLo : Hid (Pl.val 1000000000 (xs.take (2 * k)) < 1000000000 ^ (2 * k)) := by
    have := Pl.val_lt (Pl.dig_take (2 * k) hx)
    rwa [show (xs.take (2 * k)).length = 2 * k by simp; omega] at this
  have hdu := Pl.dig_drop (2 * k) hx
  have htu := Pl.top_drop tx (2 * k) hk2
  have hlu : (xs.drop (2 * k)).length ≤ xs.length - 2 * k := by simp
  have E2 := Hid.mk e2
  clear e2
  go_enter Tryd.func72, Tryd.ntmps72
  go_wp2_with fail
  rw [E2.out]
  refine (w_cut _ xs (2 * k) w HA.out (by omega) (by omega) hk2).mono ?_
  rintro e w1 ⟨vl, vh, rfl, hb1, hnl, hnh, o1, o2⟩
  clear o1 o2
  obtain ⟨us, hus⟩ : ∃ us, xs.drop (2 * k) = us := ⟨_, rfl⟩
  rw [hus] at hdu htu hlu hnh
  have HUS := Hid.mk hus
  have HNH := Hid.mk (hnh.keep hb1)
  have HB1 := Hid.mk hb1
  obtain ⟨lo, lc, hvl, q1, q2⟩ := hnl
  clear q1 q2
  obtain ⟨ho, hc, hvh, q1, q2⟩ := hnh
  clear q1 q2 hb1 hus
  subst hvl
  subst hvh
  go_wp2_with fail
  refine (IH.out us.length (by omega) _ us w1 (Nat.le_refl _) (by omega) HNH.out hdu htu).mono ?_
  rintro e w2 ⟨v2, rfl, hr2⟩
  obtain ⟨rs, hg2, hb2, hrr1, hrr2⟩ := hr2
  have HG2 := Hid.mk hg2
  have HB2 : Hid (Below w.heap.size w w2) := HB1.out.trans (hb2.mono HB1.out.size)
  have HRR := Hid.mk hrr2
  have hrl : rs.length ≤ us.length := Pl.root_len (B := 1000000000) (by decide) hdu hg2.2.2 hrr1
  obtain ⟨ao2, cap2, hvv, q1, q2⟩ := hg2.1
  clear q1 q2 hg2 hb2 hrr1 hrr2
  subst hvv
  have hal := (Below.refl w2.heap.size w2).alloc (Nat.le_refl _) (.cells #[.int .u64 1] 76)
  have HAl := Hid.mk hal
  have hone := one_nums w2 1
  have HOne : Hid (Nums .u64 (w2.alloc (.cells #[.int .u64 1] 76)) (.slice (some ⟨w2.heap.size, 0, none⟩) 1 1) [1]) := hone
  clear hal hone
  go_wp2_with fail
  refine (w_sum _ _ rs [1] _ (HG2.out.1.keep HAl.out) HOne.out (by omega) (by simp) HG2.out.2.1 (dig_one (by decide))).mono ?_
  rintro e w3 ⟨v3, ab, rfl, hf3, hv3⟩
  rw [val_one] at hv3
  have hal3 : ab.length ≤ xs.length + 1 := by
    have := Pl.sum_len (B := 1000000000) (n := xs.length) (by decide) HG2.out.2.1 (dig_one (x := 1) (by decide)) hf3.2.2.1 (by rw [val_one]; exact hv3) (by omega) (by simp; omega)
    exact this
  have hal4 : ab.length ≤ us.length + 1 := by
    have hu1 : 1 ≤ us.length := by have := congrArg List.length HUS.out; simp at this; omega
    exact Pl.sum_len (B := 1000000000) (n := us.length) (by decide) HG2.out.2.1 (dig_one (x := 1) (by decide)) hf3.2.2.1 (by rw [val_one]; exact hv3) hrl (by simpa using hu1)
  have HF3 := Hid.mk hf3
  have HV3 := Hid.mk hv3
  have HB3 : Hid (Below w.heap.size w w3) := by
    have a1 := HB2.out.trans (HAl.out.mono HB2.out.size)
    exact a1.trans (hf3.2.2.2.1.mono a1.size)
  have hmk := fun (u : World) => run_make_two k (k + ab.length) (k : Int) ((k : Int) + (ab.length : Int)) rfl (by simp) (by omega) (by omega) u
  have hpos : 0 < ab.length := by
    rcases Nat.eq_zero_or_pos ab.length with h | h
    · have := List.eq_nil_of_length_eq_zero h; rw [this] at hv3; simp [Pl.val] at hv3
    · exact h
  rcases hf3.1.open' with ⟨e, _⟩ | ⟨_, bb, off, cap3, rfl, hc3, hlt3, hcell3⟩
  · rw [e] at hpos; simp at hpos
  have hnews : ∀ j u, (vals .u64 ab)[j]? = some u → (w3.alloc (zrow2 k (k + ab.length))).cell? ((⟨bb, off, none⟩ : Addr).add j) = some u := by
    intro j u hj
    have hj' : j < ab.length := by
      have := (List.getElem?_eq_some_iff.1 hj).1
      rwa [vals_len] at this
    rw [vals_get .u64 ab j hj'] at hj
    rw [← hj, add_off, ← hcell3 j hj']
    exact ((Below.refl w3.heap.size w3).alloc (Nat.le_refl _) _).cell (p := ⟨bb, off + j, none⟩) hlt3
  have hown := own_two w3 k (k + ab.length) (by omega) (by omega)
  clear hcell3 hf3 hv3
  go_wp2_with (at_builtin; refine wpList_append_fits _ rfl _ _ 56 rfl w3.heap.size 76 i0 1 Tryd.underlying56 hi0 hz1 w3.heap.size k (k + ab.length) _ rfl hown ⟨bb, off, none⟩ ab.length cap3 (vals .u64 ab) rfl (by rw [vals_len]; omega) hnews (vals_one _ _) (Nat.le_refl _) ?_)
  intro w4 hown4 hgrow4
  rw [← vals_append] at hown4
  have HNum := Hid.mk (own_nums hown4)
  have HB4 : Hid (Below w.heap.size w w4) := by
    have a1 := HB3.out.trans (((Below.refl w3.heap.size w3).alloc (Nat.le_refl _) (zrow2 k (k + ab.length))).mono HB3.out.size)
    exact a1.trans (below_grown hgrow4 HB3.out.size a1.size)
  clear hown4 hgrow4 hnews hown
  go_wp2_with fail
  go_ret
  refine ⟨_, rfl, List.replicate k 0 ++ ab, ⟨HNum.out, Pl.dig_append.2 ⟨dig_zeros _ _ (by decide), HF3.out.2.1⟩, Pl.top_zeros HF3.out.2.2.1 hpos k⟩, HB4.out, by simp; omega, ?_⟩
  rw [Pl.val_append, val_zeros, List.length_replicate, Nat.zero_add, HV3.out]
  exact Pl.root_above HSp.out HLo.out (by rw [HUS.out]; exact HRR.out)
end Go.Proofs.YtfcbeohkhljboaaDoor
namespace Go.Proofs.YtfcbeohkhljboaaDoor
open Go.RowKit
set_option linter.unusedVariables false
set_option linter.unusedSimpArgs false

theorem w_rootGuess (va : Value) (xs : List Nat) (w : World) (IH : Hid (∀ M, M < xs.length → RootAt M)) (ha : Nums .u64 w va xs) (hma : xs.length ≤ 34359738368) (hx : Pl.dig 1000000000 xs) (tx : Pl.Top xs) :
    Calls Tryd.prog 72 #[va] w fun e w' => ∃ v, e = .returned v ∧ Guess2 w w' v xs := by
  by_cases hl : xs.length ≤ 2
  · exact w_guess_small va xs w ha hl hx
  · exact w_guess_big va xs w IH ha (by omega) hma hx tx

set_option maxHeartbeats 3200000 in
theorem w_root_some (va : Value) (xs : List Nat) (w : World) (IH : Hid (∀ M, M < xs.length → RootAt M)) (ha : Nums .u64 w va xs) (hp : 0 < xs.length) (hma : xs.length ≤ 34359738368) (hx : Pl.dig 1000000000 xs) (tx : Pl.Top xs) :
    Calls Tryd.prog 48 #[va] w fun e w' => ∃ v, e = .returned v ∧ Rooted w w' v xs := by
  have HA := Hid.mk ha
  have HG := Hid.mk (w_rootGuess va xs w IH ha hma hx tx)
  have hAp : 0 < Pl.val 1000000000 xs := by
    have h1 := Pl.val_ge_top (B := 1000000000) hp (Pl.top_last tx hp)
    have : 0 < 1000000000 ^ (xs.length - 1) := Nat.pow_pos (by decide)
    omega
  have HAp := Hid.mk hAp
  obtain ⟨ao, capa, rfl, q1, q2⟩ := ha
  clear q1 q2 hAp
  have hne : ((xs.length : Int) == 0) = false := by simp; intro h; rw [h] at hp; simp at hp
  clear IH
  generalize hla : xs.length = la at *
  have HLA := Hid.mk hla
  clear hla
  go_enter Tryd.func48, Tryd.ntmps48
  go_wp2_with fail
  refine HG.out.mono ?_
  rintro e w1 ⟨v1, rfl, hg1⟩
  obtain ⟨gs, hgot, hb1, hgl, hgv⟩ := hg1
  have HGot := Hid.mk hgot
  have HB1 := Hid.mk hb1
  have HGv : Hid (Pl.val 1000000000 xs < (Pl.val 1000000000 gs + 1) * (Pl.val 1000000000 gs + 1)) := by
    have : Pl.val 1000000000 gs * Pl.val 1000000000 gs ≤ (Pl.val 1000000000 gs + 1) * (Pl.val 1000000000 gs + 1) := Nat.mul_le_mul (by omega) (by omega)
    show _ < _
    omega
  have hgl' : gs.length ≤ la + 2 := by rw [HLA.out] at hgl; exact hgl
  obtain ⟨ao1, cap1, hvv, q1, q2⟩ := hgot.1
  clear q1 q2 hgot hb1 hgv hgl
  subst hvv
  go_wp2_with fail
  go_loopw [3] (fun v wr => ∃ rs, Hid (Got wr v rs) ∧ Below w.heap.size w wr ∧ rs.length ≤ la + 2 ∧ Hid (Pl.val 1000000000 xs < (Pl.val 1000000000 rs + 1) * (Pl.val 1000000000 rs + 1))) (fun v wr => worth wr v)
  case atStart => exact ⟨gs, HGot, HB1.out, hgl', HGv⟩
  case round =>
    obtain ⟨rs, HRs, hbw, hrl, HRv⟩ := hrel
    have hrp : 0 < Pl.val 1000000000 rs := by
      rcases Nat.eq_zero_or_pos (Pl.val 1000000000 rs) with h | h
      · have := HRv.out; rw [h] at this; have := HAp.out; omega
      · exact h
    have HW := Hid.mk (worth_of HRs.out.1)
    have HBw := Hid.mk hbw
    have HRp := Hid.mk hrp
    obtain ⟨aor, capr, hvv, q1, q2⟩ := HRs.out.1
    clear q1 q2 hbw hrp
    subst hvv
    go_wp2_with fail
    refine (w_divide _ _ xs rs wr (HA.out.keep HBw.out) HRs.out.1 (by rw [HLA.out]; omega) (by omega) hx HRs.out.2.1 tx HRs.out.2.2 HRp.out).mono ?_
    rintro e w2 ⟨vq, vr, rfl, hdv⟩
    obtain ⟨qs, ts, hgq, hgr, hb2, hq1, hq2⟩ := hdv
    have HGq := Hid.mk hgq
    have HQ1 := Hid.mk hq1
    have HQ2 := Hid.mk hq2
    have HB2 := Hid.mk hb2
    have hql : qs.length ≤ la := by
      refine Pl.len_of_val (B := 1000000000) (by decide) hgq.2.2 ?_
      have h1 := Pl.val_lt hx
      rw [HLA.out] at h1
      have : Pl.val 1000000000 qs * 1 ≤ Pl.val 1000000000 qs * Pl.val 1000000000 rs := Nat.mul_le_mul_left _ HRp.out
      omega
    obtain ⟨aoq, capq, hvv, q1, q2⟩ := hgq.1
    clear q1 q2
    obtain ⟨aot, capt, hvv2, q1, q2⟩ := hgr.1
    clear q1 q2 hgq hgr hb2 hq1 hq2
    subst hvv
    subst hvv2
    go_wp2_with fail
    refine (w_sum _ _ rs qs w2 (HRs.out.1.keep HB2.out) HGq.out.1 (by omega) (by omega) HRs.out.2.1 HGq.out.2.1).mono ?_
    rintro e w3 ⟨v3, ss, rfl, hf3, hv3⟩
    have HF3 := Hid.mk hf3
    have HV3 := Hid.mk hv3
    have hsl : ss.length ≤ la + 2 + 1 := Pl.sum_len (B := 1000000000) (by decide) HRs.out.2.1 HGq.out.2.1 hf3.2.2.1 hv3 hrl (by omega)
    have HB3 : Hid (Below wr.heap.size wr w3) := HB2.out.trans (hf3.2.2.2.1.mono HB2.out.size)
    obtain ⟨ao3, cap3, hvv, q1, q2⟩ := hf3.1
    clear q1 q2 hf3 hv3
    subst hvv
    go_wp2_with fail
    refine (w_divideByGroup _ ss 2 w3 HF3.out.1 (by omega) HF3.out.2.1 (by decide) (by decide)).mono ?_
    rintro e w4 ⟨v4, ns, m, rfl, hf4, hv4, hm4⟩
    have HF4 := Hid.mk hf4
    have HB4 : Hid (Below wr.heap.size wr w4) := HB3.out.trans (hf4.2.2.2.1.mono HB3.out.size)
    obtain ⟨hnw1, hnw2⟩ := Pl.newton HQ1.out HQ2.out (by rw [hv4]; exact HV3.out) hm4 HRv.out
    have HN1 := Hid.mk hnw1
    have HN2 := Hid.mk hnw2
    have hnl : ns.length ≤ la + 2 + 1 := by
      refine Nat.le_trans (Pl.len_of_val (B := 1000000000) (n := ss.length) (by decide) hf4.2.2.1 ?_) hsl
      have := Pl.val_lt HF3.out.2.1
      omega
    obtain ⟨ao4, cap4, hvv, q1, q2⟩ := hf4.1
    clear q1 q2 hf4 hv4 hm4 hnw1 hnw2
    subst hvv
    go_wp2_with fail
    refine (w_compare _ _ ns rs w4 HF4.out.1 (HRs.out.1.keep HB4.out) (by unfold maxLen; omega) (by unfold maxLen; omega) HF4.out.2.1 HRs.out.2.1 HF4.out.2.2.1 HRs.out.2.2).mono ?_
    rintro e w5 ⟨rfl, hb5⟩
    have HB5 : Hid (Below wr.heap.size wr w5) := HB4.out.trans (hb5.mono HB4.out.size)
    have HBw5 : Hid (Below w.heap.size w w5) := HBw.out.trans (HB5.out.mono HBw.out.size)
    by_cases hlt : Pl.val 1000000000 ns < Pl.val 1000000000 rs
    · rw [Pl.cmp_less hlt]
      have HNew : Hid (Got w5 (.slice ao4 ns.length cap4) ns) := ⟨HF4.out.1.keep hb5, HF4.out.2.1, HF4.out.2.2.1⟩
      have HWn := Hid.mk (worth_of HNew.out.1)
      have hnl2 : ns.length ≤ la + 2 := by
        refine Nat.le_trans (Pl.len_of_val (B := 1000000000) (n := rs.length) (by decide) HF4.out.2.2.1 ?_) hrl
        have := Pl.val_lt HRs.out.2.1
        omega
      have HLt := Hid.mk hlt
      clear hlt hb5
      go_wp2_with fail
      go_roundw
      case measure => rw [HWn.out, HW.out]; exact HLt.out
      exact ⟨ns, HNew, HBw5.out, hnl2, HN2⟩
    · obtain ⟨c, hc⟩ : ∃ c, c = Pl.cmpI (Pl.val 1000000000 ns) (Pl.val 1000000000 rs) := ⟨_, rfl⟩
      have hc0 : 0 ≤ c := by
        rw [hc]
        rcases (show Pl.val 1000000000 rs < Pl.val 1000000000 ns ∨ Pl.val 1000000000 ns = Pl.val 1000000000 rs by omega) with h | h
        · rw [Pl.cmp_more h]; decide
        · rw [Pl.cmp_eq h]; decide
      rw [← hc]
      have HFin : Hid (Rooted w w5 (.slice aor rs.length capr) xs) := ⟨rs, ⟨HRs.out.1.keep HB5.out, HRs.out.2.1, HRs.out.2.2⟩, HBw5.out, HN1.out (by omega), HRv.out⟩
      clear hc hlt hb5
      go_wp2_with fail
      go_ret
      exact ⟨_, rfl, HFin.out⟩

theorem w_root (N : Nat) : RootAt N := by
  induction N using Nat.strongRecOn with
  | _ N ih =>
    intro va xs w hl hN ha hx tx
    by_cases h0 : xs.length = 0
    · obtain rfl : xs = [] := List.eq_nil_of_length_eq_zero h0
      obtain ⟨ao, capa, rfl, q1, q2⟩ := ha
      clear q1 q2
      go_enter Tryd.func48, Tryd.ntmps48
      go_wp2
      go_ret
      exact ⟨_, rfl, [], ⟨Nums.nil _ _ _ _ (fun a e => by cases e), Pl.dig_nil _, rfl⟩, Below.refl _ _, by simp [Pl.val], by simp [Pl.val]⟩
    · exact w_root_some va xs w (fun M hM => ih M (by omega)) ha (by omega) (by omega) hx tx
end Go.Proofs.YtfcbeohkhljboaaDoor
