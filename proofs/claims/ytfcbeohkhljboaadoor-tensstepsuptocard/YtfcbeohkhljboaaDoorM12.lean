import Derived.Test.YtfcbeohkhljboaaDoorM8
import Derived.Test.YtfcbeohkhljboaaDoorM11
namespace Go.Proofs.YtfcbeohkhljboaaDoor.Pl
set_option linter.unusedVariables false
set_option linter.unusedSimpArgs false

theorem four_mul (a b : Nat) : 4 * (a * b) ≤ (a + b) * (a + b) := by
  have h : (a + b) * (a + b) = a * a + a * b + (a * b + b * b) := by rw [Nat.mul_add, Nat.add_mul, Nat.add_mul, Nat.mul_comm b a]
  rcases Nat.le_total a b with h1 | h1
  · obtain ⟨d, rfl⟩ := Nat.exists_eq_add_of_le h1
    rw [h]
    have e1 : a * (a + d) = a * a + a * d := Nat.mul_add _ _ _
    have e2 : (a + d) * (a + d) = a * a + a * d + (a * d + d * d) := by rw [Nat.mul_add, Nat.add_mul, Nat.add_mul, Nat.mul_comm d a]
    omega
  · obtain ⟨d, rfl⟩ := Nat.exists_eq_add_of_le h1
    rw [h]
    have e1 : (b + d) * b = b * b + b * d := by rw [Nat.add_mul, Nat.mul_comm d b]
    have e2 : (b + d) * (b + d) = b * b + b * d + (b * d + d * d) := by rw [Nat.mul_add, Nat.add_mul, Nat.add_mul, Nat.mul_comm d b]
    omega

/-- a step of Newton's -/
theorem newton {A r q l t m : Nat} (hq : q * r + l = A) (hl : l < r) (ht : t * 2 + m = r + q) (hm : m < 2) (hr : A < (r + 1) * (r + 1)) :
    (r ≤ t → r * r ≤ A) ∧ A < (t + 1) * (t + 1) := by
  constructor
  · intro h
    have hqr : r ≤ q := by omega
    have : r * r ≤ q * r := Nat.mul_le_mul_right _ hqr
    omega
  · have h1 : A < r * (q + 1) := by rw [Nat.mul_add, Nat.mul_comm r q]; omega
    have h2 := four_mul r (q + 1)
    have h3 : (r + (q + 1)) * (r + (q + 1)) ≤ (2 * (t + 1)) * (2 * (t + 1)) := Nat.mul_le_mul (by omega) (by omega)
    have h4 : (2 * (t + 1)) * (2 * (t + 1)) = 4 * ((t + 1) * (t + 1)) := by
      rw [Nat.mul_mul_mul_comm]
    omega

theorem top_drop {xs : List Nat} (h : Top xs) (n : Nat) (hn : n < xs.length) : Top (xs.drop n) := by
  unfold Top
  have hl : (xs.drop n).length = xs.length - n := by simp
  have := trim_take (xs.drop n) (xs.drop n).length (Nat.le_refl _) (fun i hi => getD_past hi) (Or.inr (by
    rw [hl, List.getD_eq_getElem?_getD, List.getElem?_drop, show n + (xs.length - n - 1) = xs.length - 1 by omega]
    have := top_last h (by omega)
    rwa [List.getD_eq_getElem?_getD] at this))
  rw [this, List.take_length]

theorem top_zeros {xs : List Nat} (h : Top xs) (hp : 0 < xs.length) (n : Nat) : Top (List.replicate n 0 ++ xs) := by
  unfold Top
  have hl : (List.replicate n 0 ++ xs).length = n + xs.length := by simp
  have := trim_take (List.replicate n 0 ++ xs) (List.replicate n 0 ++ xs).length (Nat.le_refl _) (fun i hi => getD_past hi) (Or.inr (by
    rw [hl, List.getD_eq_getElem?_getD, List.getElem?_append_right (by simp; omega), List.length_replicate, show n + xs.length - 1 - n = xs.length - 1 by omega]
    have := top_last h hp
    rwa [List.getD_eq_getElem?_getD] at this))
  rw [this, List.take_length]

/-- the root of the upper half, and one more, is above the root -/
theorem root_above {B k A lo U r : Nat} (hA : A = lo + B ^ (2 * k) * U) (hlo : lo < B ^ (2 * k)) (hr : U < (r + 1) * (r + 1)) : A < (B ^ k * (r + 1)) * (B ^ k * (r + 1)) := by
  have e : (B ^ k * (r + 1)) * (B ^ k * (r + 1)) = B ^ (2 * k) * ((r + 1) * (r + 1)) := by
    rw [Nat.mul_mul_mul_comm, ← Nat.pow_add, show k + k = 2 * k by omega]
  rw [e]
  have : B ^ (2 * k) * (U + 1) ≤ B ^ (2 * k) * ((r + 1) * (r + 1)) := Nat.mul_le_mul_left _ hr
  rw [Nat.mul_add] at this
  omega

theorem sq_lt {a b : Nat} (h : a * a < b * b) : a < b := by
  rcases Nat.lt_or_ge a b with h1 | h1
  · exact h1
  · have := Nat.mul_le_mul h1 h1; omega

theorem root_len {B : Nat} (hB : 1 < B) {us rs : List Nat} (hd : dig B us) (ht : Top rs) (h : val B rs * val B rs ≤ val B us) : rs.length ≤ us.length := by
  refine len_of_val hB ht ?_
  have h1 := val_lt hd
  rcases Nat.eq_zero_or_pos (val B rs) with h0 | h0
  · rw [h0]; exact Nat.pow_pos (by omega)
  · have : val B rs * 1 ≤ val B rs * val B rs := Nat.mul_le_mul_left _ h0
    omega

end Go.Proofs.YtfcbeohkhljboaaDoor.Pl
namespace Go.Proofs.YtfcbeohkhljboaaDoor
open Go.RowKit
set_option linter.unusedVariables false
set_option linter.unusedSimpArgs false

/-- what a slice's cells are worth: a loop's measure -/
def worth (w : World) (v : Value) : Nat := match v with
  | .slice (some a) n _ => Pl.val 1000000000 ((List.range n).map fun i => match w.cell? ⟨a.block, a.off + i, none⟩ with
    | some (.int _ x) => x.toNat
    | _ => 0)
  | _ => 0

theorem worth_of {w : World} {v : Value} {xs : List Nat} (h : Nums .u64 w v xs) : worth w v = Pl.val 1000000000 xs := by
  rcases h.open' with ⟨rfl, ao, cap, rfl, _⟩ | ⟨hp, b, off, cap, rfl, hc, hlt, hcell⟩
  · cases ao <;> rfl
  · simp only [worth]
    congr 1
    apply List.ext_getElem (by simp)
    intro i h1 h2
    have := hcell i h2
    simp only [List.getElem_map, List.getElem_range, this]
    simp [List.getElem?_eq_getElem h2]

/-- what root answers -/
def Rooted (w w' : World) (v : Value) (xs : List Nat) : Prop := ∃ rs, Got w' v rs ∧ Below w.heap.size w w' ∧ Pl.val 1000000000 rs * Pl.val 1000000000 rs ≤ Pl.val 1000000000 xs ∧ Pl.val 1000000000 xs < (Pl.val 1000000000 rs + 1) * (Pl.val 1000000000 rs + 1)

def RootAt (N : Nat) : Prop := ∀ (va : Value) (xs : List Nat) (w : World), xs.length ≤ N → N ≤ 34359738368 → Nums .u64 w va xs → Pl.dig 1000000000 xs → Pl.Top xs →
  Calls Tryd.prog 48 #[va] w fun e w' => ∃ v, e = .returned v ∧ Rooted w w' v xs

def zrow2 (n m : Nat) : Obj := .cells (vals .u64 (List.replicate m 0)).toArray 76 (0, 0)

theorem run_make_two (n m : Nat) (y z : Int) (hy : y = (n : Int)) (hz : z = (m : Int)) (hnm : n ≤ m) (hn : m ≤ 1099511627776) (u : World) : (Instr.makeSlice 56 (.int .i64 y) (.int .i64 z)).run Tryd.prog u = .ok (.slice (some ⟨u.heap.size, 0, none⟩) n m) (u.alloc (zrow2 n m)) := by
  subst hy hz
  obtain ⟨i0, hi, hz0, hz1, hz2⟩ := info_parts Tryd.infoU
  have h := run_make (P := Tryd.prog) u 56 76 i0 (.int .u64 0) Tryd.underlying56 hi hz0 .i64 .i64 (n : Int) (m : Int) (by omega) (by omega) (by rw [hz2]; omega) (by omega)
  have e : ((m : Int)).toNat = m := by omega
  have e2 : ((n : Int)).toNat = n := by omega
  rw [e, e2] at h
  unfold zrow2
  rw [← made_zeros]
  simpa [hz1, Value.cells] using h

theorem own_two (w : World) (n m : Nat) (hnm : n ≤ m) (hm : m ≤ 1099511627776) : (w.alloc (zrow2 n m)).ownsRow w.heap.size 76 1 (.slice (some ⟨w.heap.size, 0, none⟩) n m) n (vals .u64 (List.replicate n 0)) := by
  refine ⟨by rw [vals_len]; simp, Or.inr ⟨w.heap.size, m, (vals .u64 (List.replicate m 0)).toArray, rfl, Nat.le_refl _, heap_alloc_new w _, hnm, by unfold maxLen; omega, by simp [vals_len], ?_⟩⟩
  simp only [Nat.mul_one, vals]
  rw [← List.map_take, List.take_replicate, Nat.min_eq_left hnm]

/-- what rootGuess answers -/
def Guess2 (w w' : World) (v : Value) (xs : List Nat) : Prop := ∃ gs, Got w' v gs ∧ Below w.heap.size w w' ∧ gs.length ≤ xs.length + 2 ∧ Pl.val 1000000000 xs < Pl.val 1000000000 gs * Pl.val 1000000000 gs

set_option maxHeartbeats 1600000 in
theorem w_guess_small (va : Value) (xs : List Nat) (w : World) (ha : Nums .u64 w va xs) (hl : xs.length ≤ 2) (hx : Pl.dig 1000000000 xs) :
    Calls Tryd.prog 72 #[va] w fun e w' => ∃ v, e = .returned v ∧ Guess2 w w' v xs := by
  obtain ⟨ao, capa, rfl, q1, q2⟩ := ha
  clear q1 q2
  have h2 : (xs.length : Int) ≤ 2 := by omega
  have hv := Pl.val_lt hx
  have hv2 : Pl.val 1000000000 xs < 1000000000 * 1000000000 := by
    have : 1000000000 ^ xs.length ≤ 1000000000 ^ 2 := Nat.pow_le_pow_right (by decide) hl
    omega
  have HV := Hid.mk hv2
  clear hv hv2
  have HR : Hid (Row (w.alloc (.cells #[.int .u64 0, .int .u64 1] 76)) w.heap.size [0, 1]) := ⟨[], heap_alloc_new w _⟩
  go_enter Tryd.func72, Tryd.ntmps72
  go_wp2
  go_ret
  refine ⟨_, rfl, [0, 1], ⟨HR.out.nums (pre := []) (post := []) rfl rfl rfl (Nat.le_refl _), by intro y hy; simp at hy; omega, rfl⟩, (Below.refl _ _).alloc (Nat.le_refl _) _, by simp, ?_⟩
  rw [show Pl.val 1000000000 [0, 1] = 1000000000 by decide]
  exact HV.out

set_option maxHeartbeats 3200000 in
theorem w_guess_big (va : Value) (xs : List Nat) (w : World) (IH : Hid (∀ M, M < xs.length → RootAt M)) (ha : Nums .u64 w va xs) (hl : 2 < xs.length) (hma : xs.length ≤ 34359738368) (hx : Pl.dig 1000000000 xs) (tx : Pl.Top xs) :
    Calls Tryd.prog 72 #[va] w fun e w' => ∃ v, e = .returned v ∧ Guess2 w w' v xs := by
  obtain ⟨i0, hi0, hz0, hz1, hz2⟩ := info_parts Tryd.infoU
  have HA := Hid.mk ha
  obtain ⟨ao, capa, rfl, q1, q2⟩ := ha
  clear q1 q2
  have h2 : ¬ (xs.length : Int) ≤ 2 := by omega
  obtain ⟨k, hk⟩ : ∃ k, k = (xs.length + 1) / 4 := ⟨_, rfl⟩
  have hki : ((xs.length : Int) + 1) / 4 = (k : Int) := by omega
  have hk1 : 0 < k ∧ 2 * k < xs.length := by omega
  obtain ⟨hk0, hk2⟩ := hk1
  clear hk
  have e2 : 2 * (k : Int) = ((2 * k : Nat) : Int) := by simp
  have HSp := Hid.mk (Pl.val_split 1000000000 xs (2 * k) (by omega))
  have HLo : Hid (Pl.val 1000000000 (xs.take (2 * k)) < 1000000000 ^ (2 * k)) := by
    have := Pl.val_lt (Pl.dig_take (2 * k) hx)
    rwa [show (xs.take (2 * k)).length = 2 * k by simp; omega] at this
  have hdu := Pl.dig_drop (2 * k) hx
  have htu := Pl.top_drop tx (2 * k) hk2
  have hlu : (xs.drop (2 * k)).length ≤ xs.length - 2 * k := by simp
  have E2 := Hid.mk e2
  clear e2
  go_enter Tryd.func72, Tryd.ntmps72
  go_wp2_with fail
  rw [E2.out]
  refine (w_cut _ xs (2 * k) w HA.out (by omega) (by omega) hk2).mono ?_
  rintro e w1 ⟨vl, vh, rfl, hb1, hnl, hnh, o1, o2⟩
  clear o1 o2
  obtain ⟨us, hus⟩ : ∃ us, xs.drop (2 * k) = us := ⟨_, rfl⟩
  rw [hus] at hdu htu hlu hnh
  have HUS := Hid.mk hus
  have HNH := Hid.mk (hnh.keep hb1)
  have HB1 := Hid.mk hb1
  obtain ⟨lo, lc, hvl, q1, q2⟩ := hnl
  clear q1 q2
  obtain ⟨ho, hc, hvh, q1, q2⟩ := hnh
  clear q1 q2 hb1 hus
  subst hvl
  subst hvh
  go_wp2_with fail
  refine (IH.out us.length (by omega) _ us w1 (Nat.le_refl _) (by omega) HNH.out hdu htu).mono ?_
  rintro e w2 ⟨v2, rfl, hr2⟩
  obtain ⟨rs, hg2, hb2, hrr1, hrr2⟩ := hr2
  have HG2 := Hid.mk hg2
  have HB2 : Hid (Below w.heap.size w w2) := HB1.out.trans (hb2.mono HB1.out.size)
  have HRR := Hid.mk hrr2
  have hrl : rs.length ≤ us.length := Pl.root_len (B := 1000000000) (by decide) hdu hg2.2.2 hrr1
  obtain ⟨ao2, cap2, hvv, q1, q2⟩ := hg2.1
  clear q1 q2 hg2 hb2 hrr1 hrr2
  subst hvv
  have hal := (Below.refl w2.heap.size w2).alloc (Nat.le_refl _) (.cells #[.int .u64 1] 76)
  have HAl := Hid.mk hal
  have hone := one_nums w2 1
  have HOne : Hid (Nums .u64 (w2.alloc (.cells #[.int .u64 1] 76)) (.slice (some ⟨w2.heap.size, 0, none⟩) 1 1) [1]) := hone
  clear hal hone
  go_wp2_with fail
  refine (w_sum _ _ rs [1] _ (HG2.out.1.keep HAl.out) HOne.out (by omega) (by simp) HG2.out.2.1 (dig_one (by decide))).mono ?_
  rintro e w3 ⟨v3, ab, rfl, hf3, hv3⟩
  rw [val_one] at hv3
  have hal3 : ab.length ≤ xs.length + 1 := by
    have := Pl.sum_len (B := 1000000000) (n := xs.length) (by decide) HG2.out.2.1 (dig_one (x := 1) (by decide)) hf3.2.2.1 (by rw [val_one]; exact hv3) (by omega) (by simp; omega)
    exact this
  have hal4 : ab.length ≤ us.length + 1 := by
    have hu1 : 1 ≤ us.length := by have := congrArg List.length HUS.out; simp at this; omega
    exact Pl.sum_len (B := 1000000000) (n := us.length) (by decide) HG2.out.2.1 (dig_one (x := 1) (by decide)) hf3.2.2.1 (by rw [val_one]; exact hv3) hrl (by simpa using hu1)
  have HF3 := Hid.mk hf3
  have HV3 := Hid.mk hv3
  have HB3 : Hid (Below w.heap.size w w3) := by
    have a1 := HB2.out.trans (HAl.out.mono HB2.out.size)
    exact a1.trans (hf3.2.2.2.1.mono a1.size)
  have hmk := fun (u : World) => run_make_two k (k + ab.length) (k : Int) ((k : Int) + (ab.length : Int)) rfl (by simp) (by omega) (by omega) u
  have hpos : 0 < ab.length := by
    rcases Nat.eq_zero_or_pos ab.length with h | h
    · have := List.eq_nil_of_length_eq_zero h; rw [this] at hv3; simp [Pl.val] at hv3
    · exact h
  rcases hf3.1.open' with ⟨e, _⟩ | ⟨_, bb, off, cap3, rfl, hc3, hlt3, hcell3⟩
  · rw [e] at hpos; simp at hpos
  have hnews : ∀ j u, (vals .u64 ab)[j]? = some u → (w3.alloc (zrow2 k (k + ab.length))).cell? ((⟨bb, off, none⟩ : Addr).add j) = some u := by
    intro j u hj
    have hj' : j < ab.length := by
      have := (List.getElem?_eq_some_iff.1 hj).1
      rwa [vals_len] at this
    rw [vals_get .u64 ab j hj'] at hj
    rw [← hj, add_off, ← hcell3 j hj']
    exact ((Below.refl w3.heap.size w3).alloc (Nat.le_refl _) _).cell (p := ⟨bb, off + j, none⟩) hlt3
  have hown := own_two w3 k (k + ab.length) (by omega) (by omega)
  clear hcell3 hf3 hv3
  go_wp2_with (at_builtin; refine wpList_append_fits _ rfl _ _ 56 rfl w3.heap.size 76 i0 1 Tryd.underlying56 hi0 hz1 w3.heap.size k (k + ab.length) _ rfl hown ⟨bb, off, none⟩ ab.length cap3 (vals .u64 ab) rfl (by rw [vals_len]; omega) hnews (vals_one _ _) (Nat.le_refl _) ?_)
  intro w4 hown4 hgrow4
  rw [← vals_append] at hown4
  have HNum := Hid.mk (own_nums hown4)
  have HB4 : Hid (Below w.heap.size w w4) := by
    have a1 := HB3.out.trans (((Below.refl w3.heap.size w3).alloc (Nat.le_refl _) (zrow2 k (k + ab.length))).mono HB3.out.size)
    exact a1.trans (below_grown hgrow4 HB3.out.size a1.size)
  clear hown4 hgrow4 hnews hown
  go_wp2_with fail
  go_ret
  refine ⟨_, rfl, List.replicate k 0 ++ ab, ⟨HNum.out, Pl.dig_append.2 ⟨dig_zeros _ _ (by decide), HF3.out.2.1⟩, Pl.top_zeros HF3.out.2.2.1 hpos k⟩, HB4.out, by simp; omega, ?_⟩
  rw [Pl.val_append, val_zeros, List.length_replicate, Nat.zero_add, HV3.out]
  exact Pl.root_above HSp.out HLo.out (by rw [HUS.out]; exact HRR.out)
end Go.Proofs.YtfcbeohkhljboaaDoor
