import Derived.Test.YtgnaeddpdomgkabDoorTen11
import Derived.Test.YtgnaeddpdomgkabDoorTen8
import Derived.Test.YtgnaeddpdomgkabDoorKnuth
namespace Go.Proofs.YtgnaeddpdomgkabDoor
open Go.RowKit
set_option linter.unusedVariables false
set_option linter.unusedSimpArgs false

/-- a row of digits as a slice reads it, without noughts at the top -/
def Got (w' : World) (v : Value) (zs : List Nat) : Prop := Nums .u64 w' v zs ∧ Pl.dig 1000000000 zs ∧ Pl.Top zs

theorem one_row (w : World) (x : Nat) : Row (w.alloc (.cells #[.int .u64 (x : Int)] 51)) w.heap.size [x] := ⟨[], heap_alloc_new w _⟩
theorem one_nums (w : World) (x : Nat) : Nums .u64 (w.alloc (.cells #[.int .u64 (x : Int)] 51)) (.slice (some ⟨w.heap.size, 0, none⟩) 1 1) [x] :=
  (one_row w x).nums (pre := []) (post := []) rfl rfl rfl (Nat.le_refl _)
theorem val_one (x : Nat) : Pl.val 1000000000 [x] = x := by simp [Pl.val]
theorem dig_one {x : Nat} (h : x < 1000000000) : Pl.dig 1000000000 [x] := by intro y hy; simp at hy; omega

/-- what divide answers -/
def Divided (w w' : World) (vq vr : Value) (xs ys : List Nat) : Prop := ∃ qs rs, Got w' vq qs ∧ Got w' vr rs ∧ Below w.heap.size w w' ∧ Pl.val 1000000000 qs * Pl.val 1000000000 ys + Pl.val 1000000000 rs = Pl.val 1000000000 xs ∧ Pl.val 1000000000 rs < Pl.val 1000000000 ys

set_option maxHeartbeats 1600000 in
theorem w_divide_less (va vb : Value) (xs ys : List Nat) (w : World) (ha : Nums .u64 w va xs) (hb : Nums .u64 w vb ys) (hma : xs.length ≤ 274877906944) (hmb : ys.length ≤ 274877906944) (hx : Pl.dig 1000000000 xs) (hy : Pl.dig 1000000000 ys) (tx : Pl.Top xs) (ty : Pl.Top ys) (hlt : Pl.val 1000000000 xs < Pl.val 1000000000 ys) :
    Calls Tryd.prog 36 #[va, vb] w fun e w' => ∃ vq vr, e = .returned (.tuple #[vq, vr]) ∧ Divided w w' vq vr xs ys := by
  have HA := Hid.mk ha
  have HB := Hid.mk hb
  have HC : Hid (Pl.cmpI (Pl.val 1000000000 xs) (Pl.val 1000000000 ys) = -1) := Pl.cmp_less hlt
  have HLt := Hid.mk hlt
  obtain ⟨ao, capa, rfl, q1, q2⟩ := ha
  clear q1 q2 hlt
  obtain ⟨bo, capb, rfl, q1, q2⟩ := hb
  clear q1 q2
  go_enter Tryd.func36, Tryd.ntmps36
  go_wp2_with fail
  refine (w_compare _ _ xs ys w HA.out HB.out (by unfold maxLen; omega) (by unfold maxLen; omega) hx hy tx ty).mono ?_
  rintro e w1 ⟨rfl, hb1⟩
  rw [HC.out]
  have HB1 := Hid.mk hb1
  go_wp2_with fail
  go_ret2
  exact ⟨_, _, rfl, [], xs, ⟨Nums.nil _ _ _ _ (fun a e => by cases e), Pl.dig_nil _, rfl⟩, ⟨HA.out.keep HB1.out, hx, tx⟩, HB1.out, by simp [Pl.val], HLt.out⟩

set_option maxHeartbeats 1600000 in
theorem w_divide_one (va vb : Value) (xs : List Nat) (b : Nat) (w : World) (ha : Nums .u64 w va xs) (hb : Nums .u64 w vb [b]) (hma : xs.length ≤ 274877906944) (hx : Pl.dig 1000000000 xs) (hbB : b < 1000000000) (hb0 : 0 < b) (tx : Pl.Top xs) (ty : Pl.Top [b]) (hlt : ¬ Pl.val 1000000000 xs < Pl.val 1000000000 [b]) :
    Calls Tryd.prog 36 #[va, vb] w fun e w' => ∃ vq vr, e = .returned (.tuple #[vq, vr]) ∧ Divided w w' vq vr xs [b] := by
  have HA := Hid.mk ha
  have HB := Hid.mk hb
  obtain ⟨c, hc⟩ : ∃ c, c = Pl.cmpI (Pl.val 1000000000 xs) (Pl.val 1000000000 [b]) := ⟨_, rfl⟩
  have hc0 : ¬ c < 0 := by
    rw [hc]
    rcases (show Pl.val 1000000000 [b] < Pl.val 1000000000 xs ∨ Pl.val 1000000000 xs = Pl.val 1000000000 [b] by omega) with h | h
    · rw [Pl.cmp_more h]; decide
    · rw [Pl.cmp_eq h]; decide
  have HC := Hid.mk hc
  obtain ⟨ao, capa, rfl, q1, q2⟩ := ha
  clear q1 q2 hlt hc
  rcases hb.open' with ⟨e, _⟩ | ⟨_, bb, off, capb, rfl, hcb, hltb, hcell⟩
  · cases e
  have cb := hcell 0 (by simp)
  simp only [Nat.add_zero, List.length_cons, List.length_nil, Nat.zero_add] at cb hcb ⊢
  rw [show ([b] : List Nat).getD 0 0 = b from rfl] at cb
  have HCB := Hid.mk cb
  clear hcell cb hb
  go_enter Tryd.func36, Tryd.ntmps36
  go_wp2_with fail
  refine (w_compare _ _ xs [b] w HA.out HB.out (by unfold maxLen; omega) (by unfold maxLen; simp) hx (dig_one hbB) tx ty).mono ?_
  rintro e w1 ⟨rfl, hb1⟩
  rw [← HC.out]
  have HB1 := Hid.mk hb1
  have cb1 := below_cells hb1 hltb HCB.out
  go_wp2_with fail
  refine (w_divideByGroup _ xs b w1 (HA.out.keep HB1.out) hma hx hb0 hbB).mono ?_
  rintro e w2 ⟨v2, zs, l, rfl, hf2, hv2, hl2⟩
  have HF2 := Hid.mk hf2
  have HV2 := Hid.mk hv2
  obtain ⟨ao2, cap2, hvv, q1, q2⟩ := hf2.1
  clear q1 q2 hf2 hv2 cb1
  subst hvv
  go_wp2_with fail
  refine (w_tTrim _ [l] _ (one_nums w2 l) (by unfold maxLen; simp)).mono ?_
  rintro e w3 ⟨v', rfl, hw3, hn', ho'⟩
  have HN := Hid.mk hn'
  have HW3 := Hid.mk hw3
  obtain ⟨ao', cap', hvv, q1, q2⟩ := hn'
  clear q1 q2 ho' hw3
  subst hvv
  go_wp2_with fail
  go_ret2
  rw [HW3.out]
  have a1 := HB1.out.trans (HF2.out.2.2.2.1.mono HB1.out.size)
  have a2 := a1.trans (((Below.refl w2.heap.size w2).alloc (Nat.le_refl _) (.cells #[.int .u64 (l : Int)] 51)).mono a1.size)
  exact ⟨_, _, rfl, zs, Pl.trimN [l], ⟨HF2.out.1.keep ((Below.refl w2.heap.size w2).alloc (Nat.le_refl _) _), HF2.out.2.1, HF2.out.2.2.1⟩, ⟨HN.out, Pl.dig_trim (dig_one (by omega)), Pl.top_trim _⟩, a2, by rw [Pl.val_trim, val_one, val_one]; exact HV2.out, by rw [Pl.val_trim, val_one, val_one]; exact hl2⟩
end Go.Proofs.YtgnaeddpdomgkabDoor
