import Derived.Test.YtdegoefedkidcaaDoorM13
import Derived.Test.YtdegoefedkidcaaDoorM14
namespace Go.Proofs.YtdegoefedkidcaaDoor
open Go.RowKit
set_option linter.unusedVariables false
set_option linter.unusedSimpArgs false

/-- a row of digits as a slice reads it, without noughts at the top -/
def Got (w' : World) (v : Value) (zs : List Nat) : Prop := Nums .u64 w' v zs ∧ Pl.dig 1000000000 zs ∧ Pl.Top zs

theorem one_row (w : World) (x : Nat) : Row (w.alloc (.cells #[.int .u64 (x : Int)] 76)) w.heap.size [x] := ⟨[], heap_alloc_new w _⟩
theorem one_nums (w : World) (x : Nat) : Nums .u64 (w.alloc (.cells #[.int .u64 (x : Int)] 76)) (.slice (some ⟨w.heap.size, 0, none⟩) 1 1) [x] :=
  (one_row w x).nums (pre := []) (post := []) rfl rfl rfl (Nat.le_refl _)
theorem val_one (x : Nat) : Pl.val 1000000000 [x] = x := by simp [Pl.val]
theorem dig_one {x : Nat} (h : x < 1000000000) : Pl.dig 1000000000 [x] := by intro y hy; simp at hy; omega

/-- what divide answers -/
def Divided (w w' : World) (vq vr : Value) (xs ys : List Nat) : Prop := ∃ qs rs, Got w' vq qs ∧ Got w' vr rs ∧ Below w.heap.size w w' ∧ Pl.val 1000000000 qs * Pl.val 1000000000 ys + Pl.val 1000000000 rs = Pl.val 1000000000 xs ∧ Pl.val 1000000000 rs < Pl.val 1000000000 ys

set_option maxHeartbeats 1600000 in
theorem w_divide_less (va vb : Value) (xs ys : List Nat) (w : World) (ha : Nums .u64 w va xs) (hb : Nums .u64 w vb ys) (hma : xs.length ≤ 274877906944) (hmb : ys.length ≤ 274877906944) (hx : Pl.dig 1000000000 xs) (hy : Pl.dig 1000000000 ys) (tx : Pl.Top xs) (ty : Pl.Top ys) (hlt : Pl.val 1000000000 xs < Pl.val 1000000000 ys) :
    Calls Tryd.prog 73 #[va, vb] w fun e w' => ∃ vq vr, e = .returned (.tuple #[vq, vr]) ∧ Divided w w' vq vr xs ys := by
  have HA := Hid.mk ha
  have HB := Hid.mk hb
  have HC : Hid (Pl.cmpI (Pl.val 1000000000 xs) (Pl.val 1000000000 ys) = -1) := Pl.cmp_less hlt
  have HLt := Hid.mk hlt
  obtain ⟨ao, capa, rfl, q1, q2⟩ := ha
  clear q1 q2 hlt
  obtain ⟨bo, capb, rfl, q1, q2⟩ := hb
  clear q1 q2
  go_enter Tryd.func73, Tryd.ntmps73
  go_wp2_with fail
  refine (w_compare _ _ xs ys w HA.out HB.out (by unfold maxLen; omega) (by unfold maxLen; omega) hx hy tx ty).mono ?_
  rintro e w1 ⟨rfl, hb1⟩
  rw [HC.out]
  have HB1 := Hid.mk hb1
  go_wp2_with fail
  go_ret2
  exact ⟨_, _, rfl, [], xs, ⟨Nums.nil _ _ _ _ (fun a e => by cases e), Pl.dig_nil _, rfl⟩, ⟨HA.out.keep HB1.out, hx, tx⟩, HB1.out, by simp [Pl.val], HLt.out⟩

set_option maxHeartbeats 1600000 in
theorem w_divide_one (va vb : Value) (xs : List Nat) (b : Nat) (w : World) (ha : Nums .u64 w va xs) (hb : Nums .u64 w vb [b]) (hma : xs.length ≤ 274877906944) (hx : Pl.dig 1000000000 xs) (hbB : b < 1000000000) (hb0 : 0 < b) (tx : Pl.Top xs) (ty : Pl.Top [b]) (hlt : ¬ Pl.val 1000000000 xs < Pl.val 1000000000 [b]) :
    Calls Tryd.prog 73 #[va, vb] w fun e w' => ∃ vq vr, e = .returned (.tuple #[vq, vr]) ∧ Divided w w' vq vr xs [b] := by
  have HA := Hid.mk ha
  have HB := Hid.mk hb
  obtain ⟨c, hc⟩ : ∃ c, c = Pl.cmpI (Pl.val 1000000000 xs) (Pl.val 1000000000 [b]) := ⟨_, rfl⟩
  have hc0 : ¬ c < 0 := by
    rw [hc]
    rcases (show Pl.val 1000000000 [b] < Pl.val 1000000000 xs ∨ Pl.val 1000000000 xs = Pl.val 1000000000 [b] by omega) with h | h
    · rw [Pl.cmp_more h]; decide
    · rw [Pl.cmp_eq h]; decide
  have HC := Hid.mk hc
  obtain ⟨ao, capa, rfl, q1, q2⟩ := ha
  clear q1 q2 hlt hc
  rcases hb.open' with ⟨e, _⟩ | ⟨_, bb, off, capb, rfl, hcb, hltb, hcell⟩
  · cases e
  have cb := hcell 0 (by simp)
  simp only [Nat.add_zero, List.length_cons, List.length_nil, Nat.zero_add] at cb hcb ⊢
  rw [show ([b] : List Nat).getD 0 0 = b from rfl] at cb
  have HCB := Hid.mk cb
  clear hcell cb hb
  go_enter Tryd.func73, Tryd.ntmps73
  go_wp2_with fail
  refine (w_compare _ _ xs [b] w HA.out HB.out (by unfold maxLen; omega) (by unfold maxLen; simp) hx (dig_one hbB) tx ty).mono ?_
  rintro e w1 ⟨rfl, hb1⟩
  rw [← HC.out]
  have HB1 := Hid.mk hb1
  have cb1 := below_cells hb1 hltb HCB.out
  go_wp2_with fail
  refine (w_divideByGroup _ xs b w1 (HA.out.keep HB1.out) hma hx hb0 hbB).mono ?_
  rintro e w2 ⟨v2, zs, l, rfl, hf2, hv2, hl2⟩
  have HF2 := Hid.mk hf2
  have HV2 := Hid.mk hv2
  obtain ⟨ao2, cap2, hvv, q1, q2⟩ := hf2.1
  clear q1 q2 hf2 hv2 cb1
  subst hvv
  go_wp2_with fail
  refine (w_tTrim _ [l] _ (one_nums w2 l) (by unfold maxLen; simp)).mono ?_
  rintro e w3 ⟨v', rfl, hw3, hn', ho'⟩
  have HN := Hid.mk hn'
  have HW3 := Hid.mk hw3
  obtain ⟨ao', cap', hvv, q1, q2⟩ := hn'
  clear q1 q2 ho' hw3
  subst hvv
  go_wp2_with fail
  go_ret2
  rw [HW3.out]
  have a1 := HB1.out.trans (HF2.out.2.2.2.1.mono HB1.out.size)
  have a2 := a1.trans (((Below.refl w2.heap.size w2).alloc (Nat.le_refl _) (.cells #[.int .u64 (l : Int)] 76)).mono a1.size)
  exact ⟨_, _, rfl, zs, Pl.trimN [l], ⟨HF2.out.1.keep ((Below.refl w2.heap.size w2).alloc (Nat.le_refl _) _), HF2.out.2.1, HF2.out.2.2.1⟩, ⟨HN.out, Pl.dig_trim (dig_one (by omega)), Pl.top_trim _⟩, a2, by rw [Pl.val_trim, val_one, val_one]; exact HV2.out, by rw [Pl.val_trim, val_one, val_one]; exact hl2⟩
end Go.Proofs.YtdegoefedkidcaaDoor
namespace Go.Proofs.YtdegoefedkidcaaDoor
open Go.RowKit
set_option linter.unusedVariables false
set_option linter.unusedSimpArgs false

/-- the long division between two places: room in block g, the quotient in block q; k places are still to come -/
structure LongSt (w0 wr : World) (g q la n : Nat) (V : Nat) (ds : List Nat) (k : Nat) : Prop where
  out : ∃ R qs : List Nat, R.length = la + 1 ∧ Pl.dig 1000000000 R ∧ Row wr g R ∧ qs.length = la - n + 1 - k ∧ Pl.dig 1000000000 qs ∧ Row wr q (List.replicate k 0 ++ qs) ∧ Below g w0 wr ∧ q < wr.heap.size ∧ g < q ∧
    V = Pl.val 1000000000 qs * (1000000000 ^ k * Pl.val 1000000000 ds) + Pl.val 1000000000 R ∧ Pl.val 1000000000 R < 1000000000 ^ k * Pl.val 1000000000 ds

/-- the window at place i -/
theorem long_open {w0 wr : World} {g q la n V : Nat} {ds : List Nat} {i : Nat} (h : LongSt w0 wr g q la n V ds (i + 1)) (hn : ds.length = n) (hdd : Pl.dig 1000000000 ds) (hi : i + n ≤ la) :
    ∃ pre ws post qs : List Nat, pre.length = i ∧ ws.length = n + 1 ∧ Pl.dig 1000000000 pre ∧ Pl.dig 1000000000 ws ∧ Pl.dig 1000000000 post ∧ Pl.val 1000000000 post = 0 ∧ (pre ++ ws ++ post).length = la + 1 ∧ Row wr g (pre ++ ws ++ post) ∧ qs.length = la - n + 1 - (i + 1) ∧ Pl.dig 1000000000 qs ∧ Row wr q (List.replicate (i + 1) 0 ++ qs) ∧ Below g w0 wr ∧ q < wr.heap.size ∧ g < q ∧
    V = Pl.val 1000000000 qs * (1000000000 ^ (i + 1) * Pl.val 1000000000 ds) + (Pl.val 1000000000 pre + 1000000000 ^ i * Pl.val 1000000000 ws) ∧ Pl.val 1000000000 ws < Pl.val 1000000000 ds * 1000000000 := by
  obtain ⟨R, qs, hRl, hRd, hRow, hql, hqd, hqRow, hb, hqs, hgq, hV, hlt⟩ := h.out
  have e : R = R.take i ++ (R.drop i).take (n + 1) ++ (R.drop i).drop (n + 1) := by
    rw [List.append_assoc, List.take_append_drop, List.take_append_drop]
  have hpl : (R.take i).length = i := by simp; omega
  have hwl : ((R.drop i).take (n + 1)).length = n + 1 := by simp; omega
  have hv : Pl.val 1000000000 R = Pl.val 1000000000 (R.take i) + 1000000000 ^ i * (Pl.val 1000000000 ((R.drop i).take (n + 1)) + 1000000000 ^ (n + 1) * Pl.val 1000000000 ((R.drop i).drop (n + 1))) := by
    conv => lhs; rw [e]
    rw [List.append_assoc, Pl.val_append, Pl.val_append, hpl, hwl]
  have hDlt := Pl.val_lt hdd
  rw [hn] at hDlt
  have hz : Pl.val 1000000000 ((R.drop i).drop (n + 1)) = 0 := by
    rcases Nat.eq_zero_or_pos (Pl.val 1000000000 ((R.drop i).drop (n + 1))) with h0 | h0
    · exact h0
    · exfalso
      exact Pl.long_zero (by decide) hv hlt hDlt h0
  rw [hz, Nat.mul_zero, Nat.add_zero] at hv
  refine ⟨R.take i, (R.drop i).take (n + 1), (R.drop i).drop (n + 1), qs, hpl, hwl, Pl.dig_take _ hRd, Pl.dig_take _ (Pl.dig_drop _ hRd), Pl.dig_drop _ (Pl.dig_drop _ hRd), hz, by rw [← e]; exact hRl, by rw [← e]; exact hRow, hql, hqd, hqRow, hb, hqs, hgq, by rw [← hv]; exact hV, ?_⟩
  exact Pl.long_small hv hlt

/-- behind a place: its digit q, what is left of the window -/
theorem long_shut {w0 wr : World} {g q la n V : Nat} {ds pre ws ws' post qs : List Nat} {i x : Nat} (hn : ds.length = n) (hi : i + n ≤ la) (hpl : pre.length = i) (hwl' : ws'.length = n + 1) (hdp : Pl.dig 1000000000 pre) (hdw' : Pl.dig 1000000000 ws') (hdpost : Pl.dig 1000000000 post) (hpost : Pl.val 1000000000 post = 0) (hwl : ws.length = n + 1) (hlen : (pre ++ ws ++ post).length = la + 1)
    (hrow : Row wr g (pre ++ ws' ++ post)) (hql : qs.length = la - n + 1 - (i + 1)) (hqd : Pl.dig 1000000000 qs) (hx : x < 1000000000) (hqRow : Row wr q (List.replicate i 0 ++ (x :: qs))) (hb : Below g w0 wr) (hqs : q < wr.heap.size) (hgq : g < q)
    (hV : V = Pl.val 1000000000 qs * (1000000000 ^ (i + 1) * Pl.val 1000000000 ds) + (Pl.val 1000000000 pre + 1000000000 ^ i * Pl.val 1000000000 ws)) (hW : Pl.val 1000000000 ws = x * Pl.val 1000000000 ds + Pl.val 1000000000 ws') (hlt : Pl.val 1000000000 ws' < Pl.val 1000000000 ds) : LongSt w0 wr g q la n V ds i := by
  have hv : Pl.val 1000000000 (pre ++ ws' ++ post) = Pl.val 1000000000 pre + 1000000000 ^ i * Pl.val 1000000000 ws' := by
    rw [List.append_assoc, Pl.val_append, Pl.val_append, hpost, hpl]; simp
  refine ⟨pre ++ ws' ++ post, x :: qs, ?_, Pl.dig_append.2 ⟨Pl.dig_append.2 ⟨hdp, hdw'⟩, hdpost⟩, hrow, by simp [hql]; omega, Pl.dig_cons.2 ⟨hx, hqd⟩, hqRow, hb, hqs, hgq, ?_, ?_⟩
  · simp at hlen ⊢; omega
  · rw [hv, Pl.val_cons]; exact Pl.div_step hV hW
  · rw [hv]
    have a := Pl.val_lt hdp
    rw [hpl] at a
    exact Pl.long_less a hlt
end Go.Proofs.YtdegoefedkidcaaDoor
