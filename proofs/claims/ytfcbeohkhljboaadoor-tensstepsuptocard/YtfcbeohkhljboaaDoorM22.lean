import Derived.Test.YtfcbeohkhljboaaDoorM20
import Derived.Test.YtfcbeohkhljboaaDoorM21
namespace Go.Proofs.YtfcbeohkhljboaaDoor
open Go.RowKit
set_option linter.unusedVariables false
set_option linter.unusedSimpArgs false

/-- a row of digits as a slice reads it, without noughts at the top -/
def Got (w' : World) (v : Value) (zs : List Nat) : Prop := Nums .u64 w' v zs ∧ Pl.dig 1000000000 zs ∧ Pl.Top zs

theorem one_row (w : World) (x : Nat) : Row (w.alloc (.cells #[.int .u64 (x : Int)] 76)) w.heap.size [x] := ⟨[], heap_alloc_new w _⟩
theorem one_nums (w : World) (x : Nat) : Nums .u64 (w.alloc (.cells #[.int .u64 (x : Int)] 76)) (.slice (some ⟨w.heap.size, 0, none⟩) 1 1) [x] :=
  (one_row w x).nums (pre := []) (post := []) rfl rfl rfl (Nat.le_refl _)
theorem val_one (x : Nat) : Pl.val 1000000000 [x] = x := by simp [Pl.val]
theorem dig_one {x : Nat} (h : x < 1000000000) : Pl.dig 1000000000 [x] := by intro y hy; simp at hy; omega

/-- what divide answers -/
def Divided (w w' : World) (vq vr : Value) (xs ys : List Nat) : Prop := ∃ qs rs, Got w' vq qs ∧ Got w' vr rs ∧ Below w.heap.size w w' ∧ Pl.val 1000000000 qs * Pl.val 1000000000 ys + Pl.val 1000000000 rs = Pl.val 1000000000 xs ∧ Pl.val 1000000000 rs < Pl.val 1000000000 ys

set_option maxHeartbeats 1600000 in
theorem w_divide_less (va vb : Value) (xs ys : List Nat) (w : World) (ha : Nums .u64 w va xs) (hb : Nums .u64 w vb ys) (hma : xs.length ≤ 274877906944) (hmb : ys.length ≤ 274877906944) (hx : Pl.dig 1000000000 xs) (hy : Pl.dig 1000000000 ys) (tx : Pl.Top xs) (ty : Pl.Top ys) (hlt : Pl.val 1000000000 xs < Pl.val 1000000000 ys) :
    Calls Tryd.prog 73 #[va, vb] w fun e w' => ∃ vq vr, e = .returned (.tuple #[vq, vr]) ∧ Divided w w' vq vr xs ys := by
  have HA := Hid.mk ha
  have HB := Hid.mk hb
  have HC : Hid (Pl.cmpI (Pl.val 1000000000 xs) (Pl.val 1000000000 ys) = -1) := Pl.cmp_less hlt
  have HLt := Hid.mk hlt
  obtain ⟨ao, capa, rfl, q1, q2⟩ := ha
  clear q1 q2 hlt
  obtain ⟨bo, capb, rfl, q1, q2⟩ := hb
  clear q1 q2
  go_enter Tryd.func73, Tryd.ntmps73
  go_wp2_with fail
  refine (w_compare _ _ xs ys w HA.out HB.out (by unfold maxLen; omega) (by unfold maxLen; omega) hx hy tx ty).mono ?_
  rintro e w1 ⟨rfl, hb1⟩
  rw [HC.out]
  have HB1 := Hid.mk hb1
  go_wp2_with fail
  go_ret2
  exact ⟨_, _, rfl, [], xs, ⟨Nums.nil _ _ _ _ (fun a e => by cases e), Pl.dig_nil _, rfl⟩, ⟨HA.out.keep HB1.out, hx, tx⟩, HB1.out, by simp [Pl.val], HLt.out⟩

set_option maxHeartbeats 1600000 in
theorem w_divide_one (va vb : Value) (xs : List Nat) (b : Nat) (w : World) (ha : Nums .u64 w va xs) (hb : Nums .u64 w vb [b]) (hma : xs.length ≤ 274877906944) (hx : Pl.dig 1000000000 xs) (hbB : b < 1000000000) (hb0 : 0 < b) (tx : Pl.Top xs) (ty : Pl.Top [b]) (hlt : ¬ Pl.val 1000000000 xs < Pl.val 1000000000 [b]) :
    Calls Tryd.prog 73 #[va, vb] w fun e w' => ∃ vq vr, e = .returned (.tuple #[vq, vr]) ∧ Divided w w' vq vr xs [b] := by
  have HA := Hid.mk ha
  have HB := Hid.mk hb
  obtain ⟨c, hc⟩ : ∃ c, c = Pl.cmpI (Pl.val 1000000000 xs) (Pl.val 1000000000 [b]) := ⟨_, rfl⟩
  have hc0 : ¬ c < 0 := by
    rw [hc]
    rcases (show Pl.val 1000000000 [b] < Pl.val 1000000000 xs ∨ Pl.val 1000000000 xs = Pl.val 1000000000 [b] by omega) with h | h
    · rw [Pl.cmp_more h]; decide
    · rw [Pl.cmp_eq h]; decide
  have HC := Hid.mk hc
  obtain ⟨ao, capa, rfl, q1, q2⟩ := ha
  clear q1 q2 hlt hc
  rcases hb.open' with ⟨e, _⟩ | ⟨_, bb, off, capb, rfl, hcb, hltb, hcell⟩
  · cases e
  have cb := hcell 0 (by simp)
  simp only [Nat.add_zero, List.length_cons, List.length_nil, Nat.zero_add] at cb hcb ⊢
  rw [show ([b] : List Nat).getD 0 0 = b from rfl] at cb
  have HCB := Hid.mk cb
  clear hcell cb hb
  go_enter Tryd.func73, Tryd.ntmps73
  go_wp2_with fail
  refine (w_compare _ _ xs [b] w HA.out HB.out (by unfold maxLen; omega) (by unfold maxLen; simp) hx (dig_one hbB) tx ty).mono ?_
  rintro e w1 ⟨rfl, hb1⟩
  rw [← HC.out]
  have HB1 := Hid.mk hb1
  have cb1 := below_cells hb1 hltb HCB.out
  go_wp2_with fail
  refine (w_divideByGroup _ xs b w1 (HA.out.keep HB1.out) hma hx hb0 hbB).mono ?_
  rintro e w2 ⟨v2, zs, l, rfl, hf2, hv2, hl2⟩
  have HF2 := Hid.mk hf2
  have HV2 := Hid.mk hv2
  obtain ⟨ao2, cap2, hvv, q1, q2⟩ := hf2.1
  clear q1 q2 hf2 hv2 cb1
  subst hvv
  go_wp2_with fail
  refine (w_tTrim _ [l] _ (one_nums w2 l) (by unfold maxLen; simp)).mono ?_
  rintro e w3 ⟨v', rfl, hw3, hn', ho'⟩
  have HN := Hid.mk hn'
  have HW3 := Hid.mk hw3
  obtain ⟨ao', cap', hvv, q1, q2⟩ := hn'
  clear q1 q2 ho' hw3
  subst hvv
  go_wp2_with fail
  go_ret2
  rw [HW3.out]
  have a1 := HB1.out.trans (HF2.out.2.2.2.1.mono HB1.out.size)
  have a2 := a1.trans (((Below.refl w2.heap.size w2).alloc (Nat.le_refl _) (.cells #[.int .u64 (l : Int)] 76)).mono a1.size)
  exact ⟨_, _, rfl, zs, Pl.trimN [l], ⟨HF2.out.1.keep ((Below.refl w2.heap.size w2).alloc (Nat.le_refl _) _), HF2.out.2.1, HF2.out.2.2.1⟩, ⟨HN.out, Pl.dig_trim (dig_one (by omega)), Pl.top_trim _⟩, a2, by rw [Pl.val_trim, val_one, val_one]; exact HV2.out, by rw [Pl.val_trim, val_one, val_one]; exact hl2⟩
end Go.Proofs.YtfcbeohkhljboaaDoor
namespace Go.Proofs.YtfcbeohkhljboaaDoor
open Go.RowKit
set_option linter.unusedVariables false
set_option linter.unusedSimpArgs false

/-- the long division between two places: room in block g, the quotient in block q; k places are still to come -/
structure LongSt (w0 wr : World) (g q la n : Nat) (V : Nat) (ds : List Nat) (k : Nat) : Prop where
  out : ∃ R qs : List Nat, R.length = la + 1 ∧ Pl.dig 1000000000 R ∧ Row wr g R ∧ qs.length = la - n + 1 - k ∧ Pl.dig 1000000000 qs ∧ Row wr q (List.replicate k 0 ++ qs) ∧ Below g w0 wr ∧ q < wr.heap.size ∧ g < q ∧
    V = Pl.val 1000000000 qs * (1000000000 ^ k * Pl.val 1000000000 ds) + Pl.val 1000000000 R ∧ Pl.val 1000000000 R < 1000000000 ^ k * Pl.val 1000000000 ds

/-- the window at place i -/
theorem long_open {w0 wr : World} {g q la n V : Nat} {ds : List Nat} {i : Nat} (h : LongSt w0 wr g q la n V ds (i + 1)) (hn : ds.length = n) (hdd : Pl.dig 1000000000 ds) (hi : i + n ≤ la) :
    ∃ pre ws post qs : List Nat, pre.length = i ∧ ws.length = n + 1 ∧ Pl.dig 1000000000 pre ∧ Pl.dig 1000000000 ws ∧ Pl.dig 1000000000 post ∧ Pl.val 1000000000 post = 0 ∧ (pre ++ ws ++ post).length = la + 1 ∧ Row wr g (pre ++ ws ++ post) ∧ qs.length = la - n + 1 - (i + 1) ∧ Pl.dig 1000000000 qs ∧ Row wr q (List.replicate (i + 1) 0 ++ qs) ∧ Below g w0 wr ∧ q < wr.heap.size ∧ g < q ∧
    V = Pl.val 1000000000 qs * (1000000000 ^ (i + 1) * Pl.val 1000000000 ds) + (Pl.val 1000000000 pre + 1000000000 ^ i * Pl.val 1000000000 ws) ∧ Pl.val 1000000000 ws < Pl.val 1000000000 ds * 1000000000 := by
  obtain ⟨R, qs, hRl, hRd, hRow, hql, hqd, hqRow, hb, hqs, hgq, hV, hlt⟩ := h.out
  have e : R = R.take i ++ (R.drop i).take (n + 1) ++ (R.drop i).drop (n + 1) := by
    rw [List.append_assoc, List.take_append_drop, List.take_append_drop]
  have hpl : (R.take i).length = i := by simp; omega
  have hwl : ((R.drop i).take (n + 1)).length = n + 1 := by simp; omega
  have hv : Pl.val 1000000000 R = Pl.val 1000000000 (R.take i) + 1000000000 ^ i * (Pl.val 1000000000 ((R.drop i).take (n + 1)) + 1000000000 ^ (n + 1) * Pl.val 1000000000 ((R.drop i).drop (n + 1))) := by
    conv => lhs; rw [e]
    rw [List.append_assoc, Pl.val_append, Pl.val_append, hpl, hwl]
  have hDlt := Pl.val_lt hdd
  rw [hn] at hDlt
  have hz : Pl.val 1000000000 ((R.drop i).drop (n + 1)) = 0 := by
    rcases Nat.eq_zero_or_pos (Pl.val 1000000000 ((R.drop i).drop (n + 1))) with h0 | h0
    · exact h0
    · exfalso
      exact Pl.long_zero (by decide) hv hlt hDlt h0
  rw [hz, Nat.mul_zero, Nat.add_zero] at hv
  refine ⟨R.take i, (R.drop i).take (n + 1), (R.drop i).drop (n + 1), qs, hpl, hwl, Pl.dig_take _ hRd, Pl.dig_take _ (Pl.dig_drop _ hRd), Pl.dig_drop _ (Pl.dig_drop _ hRd), hz, by rw [← e]; exact hRl, by rw [← e]; exact hRow, hql, hqd, hqRow, hb, hqs, hgq, by rw [← hv]; exact hV, ?_⟩
  exact Pl.long_small hv hlt

/-- behind a place: its digit q, what is left of the window -/
theorem long_shut {w0 wr : World} {g q la n V : Nat} {ds pre ws ws' post qs : List Nat} {i x : Nat} (hn : ds.length = n) (hi : i + n ≤ la) (hpl : pre.length = i) (hwl' : ws'.length = n + 1) (hdp : Pl.dig 1000000000 pre) (hdw' : Pl.dig 1000000000 ws') (hdpost : Pl.dig 1000000000 post) (hpost : Pl.val 1000000000 post = 0) (hwl : ws.length = n + 1) (hlen : (pre ++ ws ++ post).length = la + 1)
    (hrow : Row wr g (pre ++ ws' ++ post)) (hql : qs.length = la - n + 1 - (i + 1)) (hqd : Pl.dig 1000000000 qs) (hx : x < 1000000000) (hqRow : Row wr q (List.replicate i 0 ++ (x :: qs))) (hb : Below g w0 wr) (hqs : q < wr.heap.size) (hgq : g < q)
    (hV : V = Pl.val 1000000000 qs * (1000000000 ^ (i + 1) * Pl.val 1000000000 ds) + (Pl.val 1000000000 pre + 1000000000 ^ i * Pl.val 1000000000 ws)) (hW : Pl.val 1000000000 ws = x * Pl.val 1000000000 ds + Pl.val 1000000000 ws') (hlt : Pl.val 1000000000 ws' < Pl.val 1000000000 ds) : LongSt w0 wr g q la n V ds i := by
  have hv : Pl.val 1000000000 (pre ++ ws' ++ post) = Pl.val 1000000000 pre + 1000000000 ^ i * Pl.val 1000000000 ws' := by
    rw [List.append_assoc, Pl.val_append, Pl.val_append, hpost, hpl]; simp
  refine ⟨pre ++ ws' ++ post, x :: qs, ?_, Pl.dig_append.2 ⟨Pl.dig_append.2 ⟨hdp, hdw'⟩, hdpost⟩, hrow, by simp [hql]; omega, Pl.dig_cons.2 ⟨hx, hqd⟩, hqRow, hb, hqs, hgq, ?_, ?_⟩
  · simp at hlen ⊢; omega
  · rw [hv, Pl.val_cons]; exact Pl.div_step hV hW
  · rw [hv]
    have a := Pl.val_lt hdp
    rw [hpl] at a
    exact Pl.long_less a hlt
end Go.Proofs.YtfcbeohkhljboaaDoor
namespace Go.Proofs.YtfcbeohkhljboaaDoor
open Go.RowKit
set_option linter.unusedVariables false
set_option linter.unusedSimpArgs false

theorem Row.set0 {w : World} {g : Nat} {i x : Nat} {qs : List Nat} (h : Row w g (List.replicate (i + 1) 0 ++ qs)) : Row (w.setCell ⟨g, i, none⟩ (.int .u64 (x : Int))) g (List.replicate i 0 ++ (x :: qs)) := by
  have := h.set i x (by simp; omega)
  rwa [set_zeros] at this

theorem Row.set1 {w : World} {g : Nat} {i x y : Nat} {qs : List Nat} (h : Row w g (List.replicate i 0 ++ (y :: qs))) : Row (w.setCell ⟨g, i, none⟩ (.int .u64 (x : Int))) g (List.replicate i 0 ++ (x :: qs)) := by
  have := h.set i x (by simp)
  have e : (List.replicate i 0 ++ (y :: qs)).set i x = List.replicate i 0 ++ (x :: qs) := by
    rw [List.set_append_right _ _ (by simp)]; simp
  rwa [e] at this

theorem Row.at1 {w : World} {g : Nat} {i y : Nat} {qs : List Nat} (h : Row w g (List.replicate i 0 ++ (y :: qs))) : w.cell? ⟨g, i, none⟩ = some (.int .u64 (y : Int)) := by
  have := h.cell i (by simp)
  rw [this]
  congr 3
  rw [List.getD_eq_getElem?_getD, List.getElem?_append_right (by simp)]; simp

theorem below_of_grown {g q : Nat} {w w' : World} (h : w.grownBy w' (some q)) (hq : g ≤ q) (hg : g ≤ w.heap.size) : Below g w w' := below_grown h hq hg

set_option maxHeartbeats 6400000 in
theorem w_divide_long (va vb : Value) (xs ys : List Nat) (n : Nat) (w : World) (ha : Nums .u64 w va xs) (hb : Nums .u64 w vb ys) (hma : xs.length ≤ 137438953472) (hn : ys.length = n) (hn2 : 2 ≤ n) (hx : Pl.dig 1000000000 xs) (hy : Pl.dig 1000000000 ys) (tx : Pl.Top xs) (ty : Pl.Top ys) (hge : ¬ Pl.val 1000000000 xs < Pl.val 1000000000 ys) :
    Calls Tryd.prog 73 #[va, vb] w fun e w' => ∃ vq vr, e = .returned (.tuple #[vq, vr]) ∧ Divided w w' vq vr xs ys := by
  have HA := Hid.mk ha
  have HB := Hid.mk hb
  obtain ⟨c, hc⟩ : ∃ c, c = Pl.cmpI (Pl.val 1000000000 xs) (Pl.val 1000000000 ys) := ⟨_, rfl⟩
  have hc0 : ¬ c < 0 := by
    rw [hc]
    rcases (show Pl.val 1000000000 ys < Pl.val 1000000000 xs ∨ Pl.val 1000000000 xs = Pl.val 1000000000 ys by omega) with h | h
    · rw [Pl.cmp_more h]; decide
    · rw [Pl.cmp_eq h]; decide
  have HC := Hid.mk hc
  have hnl : n ≤ xs.length := by
    rcases Nat.lt_or_ge xs.length n with h | h
    · have := Pl.val_lt_of_len (B := 1000000000) (by decide) hx ty (by omega); omega
    · exact h
  have hv0 := Pl.top_last ty (by omega)
  rw [hn] at hv0
  have hvB := Pl.dig_getD (by decide) hy (n - 1)
  obtain ⟨ao, capa, rfl, q1, q2⟩ := ha
  clear q1 q2 hc
  rcases hb.open' with ⟨e, _⟩ | ⟨_, bb, off, capb, rfl, hcb, hltb, hcell⟩
  · rw [e] at hn; simp at hn; omega
  subst hn
  have cv := hcell (ys.length - 1) (by omega)
  generalize hn : ys.length = n at *
  have HN := Hid.mk hn
  obtain ⟨v, hvv⟩ : ∃ v, v = ys.getD (n - 1) 0 := ⟨_, rfl⟩
  rw [← hvv] at cv hv0 hvB
  have HVV := Hid.mk hvv
  obtain ⟨s, hs⟩ : ∃ s, s = 1000000000 / (v + 1) := ⟨_, rfl⟩
  obtain ⟨hs1, hs2, hs3⟩ := Pl.scale_great (by omega) hvB hs
  have hsi : (1000000000 : Int) / ((v : Int) + 1) = (s : Int) := by rw [hs]; simp
  have HS := Hid.mk hs
  have HS1 := Hid.mk hs1
  have e1 : ((n : Int) - 1).toNat = n - 1 := by omega
  have hne1 : ((n : Int) == 1) = false := by simp; omega
  clear hcell hvv hs hs1 hn hb
  generalize hla : xs.length = la at *
  have HLA := Hid.mk hla
  clear hla
  have hmk1 := fun (u : World) => run_make_row' (la + 1) ((la : Int) + 1) (by simp) (by omega) u
  have hmk2 := fun (u : World) => run_make_row' (la - n + 1) ((la : Int) - (n : Int) + 1) (by omega) (by omega) u
  go_enter Tryd.func73, Tryd.ntmps73
  go_wp2_with fail
  refine (w_compare _ _ xs ys w HA.out HB.out (by rw [HLA.out]; unfold maxLen; omega) (by rw [HN.out]; unfold maxLen; omega) hx hy tx ty).mono ?_
  rintro e w1 ⟨rfl, hb1⟩
  rw [← HC.out]
  have HB1 := Hid.mk hb1
  have cv1 := below_cells hb1 hltb cv
  clear cv hb1
  go_wp2_with fail
  have HAl1 := Hid.mk ((Below.refl w1.heap.size w1).alloc (Nat.le_refl _) (.cells #[.int .u64 (s : Int)] 76))
  refine (w_product (n + 1) _ _ ys [s] _ (by rw [HN.out]; simp) (by omega) ((HB.out.keep HB1.out).keep HAl1.out) (one_nums w1 s) hy (dig_one (by omega))).mono ?_
  rintro e w2 ⟨v2, ds, rfl, hf2, hv2⟩
  rw [val_one] at hv2
  obtain ⟨hdl, hdt⟩ := Pl.scale_len (B := 1000000000) (by decide) HN.out (by omega) hy ty hf2.2.2.1 hf2.2.1 (by rw [← HVV.out]; exact HS.out) hs2 hv2
  rw [← HVV.out] at hdt
  have HDT : Hid (250000000 ≤ ds.getD (n - 1) 0) := Nat.le_trans HS1.out hdt
  have HV2 := Hid.mk hv2
  have HF2 := Hid.mk hf2
  have HBa : Hid (Below w.heap.size w w2) := by
    have a1 := HB1.out.trans (HAl1.out.mono HB1.out.size)
    exact a1.trans (hf2.2.2.2.1.mono a1.size)
  obtain ⟨ao2, cap2, hvv, q1, q2⟩ := hf2.1
  rw [hdl] at hvv
  have HDL := Hid.mk hdl
  clear q1 q2 hf2 hv2 cv1 hdl hdt
  subst hvv
  have HD2 := Hid.mk (show Nums .u64 w2 (.slice ao2 n cap2) ds from HF2.out.1)
  go_wp2_with fail
  have HAl2 := Hid.mk (((Below.refl w2.heap.size w2).alloc (Nat.le_refl _) (zrow (la + 1))).alloc (by simp) (.cells #[.int .u64 (s : Int)] 76))
  have HAl3 := Hid.mk ((Below.refl (w2.alloc (zrow (la + 1))).heap.size (w2.alloc (zrow (la + 1)))).alloc (Nat.le_refl _) (.cells #[.int .u64 (s : Int)] 76))
  have hone := one_nums (w2.alloc (zrow (la + 1))) s
  rw [show (w2.alloc (zrow (la + 1))).heap.size = w2.heap.size + 1 by simp] at hone
  refine (w_product (la + 1) _ _ xs [s] _ (by rw [HLA.out]; simp) (by omega) ((HA.out.keep HBa.out).keep HAl2.out) hone hx (dig_one (by omega))).mono ?_
  rintro e w3 ⟨v3, zv, rfl, hf3, hv3⟩
  rw [val_one] at hv3
  have hzl : zv.length ≤ la + 1 := Pl.mul_len (B := 1000000000) (by decide) hx (dig_one (x := s) (by omega)) hf3.2.2.1 (by rw [val_one]; exact hv3) (by rw [HLA.out]; simp)
  have hrow3 := ((row_new w2 (la + 1)).keep HAl3.out).keep hf3.2.2.2.1
  obtain ⟨w4, hcp, HR4, HG34⟩ := run_copy_nums w3 w2.heap.size (la + 1) (la + 1) v3 _ zv hrow3 (by simp) hf3.1 hzl
  have HRl : Hid ((zv ++ (List.replicate (la + 1) 0).drop zv.length).length = la + 1) := by show _ = _; simp; omega
  have HRd : Hid (Pl.dig 1000000000 (zv ++ (List.replicate (la + 1) 0).drop zv.length)) := Pl.dig_append.2 ⟨hf3.2.1, Pl.dig_drop _ (dig_zeros _ _ (by decide))⟩
  have HRv : Hid (Pl.val 1000000000 (zv ++ (List.replicate (la + 1) 0).drop zv.length) = Pl.val 1000000000 xs * s) := by show _ = _; rw [Pl.val_append, List.drop_replicate, val_zeros, hv3]; simp
  generalize zv ++ (List.replicate (la + 1) 0).drop zv.length = R at *
  have HB24 : Hid (Below w2.heap.size w2 w4) := by
    have a1 := HAl2.out.trans (hf3.2.2.2.1.mono HAl2.out.size)
    exact a1.trans (below_grown HG34.out (Nat.le_refl _) a1.size)
  have hS4 : w2.heap.size < w4.heap.size := HR4.out.lt
  have HSt : Hid (LongSt w2 (w4.alloc (zrow (la - n + 1))) w2.heap.size w4.heap.size la n (Pl.val 1000000000 xs * s) ds (la - n + 1)) := by
    refine ⟨⟨R, [], HRl.out, HRd.out, HR4.out.keep ((Below.refl _ _).alloc (Nat.le_refl _) _), by simp, Pl.dig_nil _, by simpa using row_new w4 (la - n + 1), HB24.out.alloc (by omega) _, by simp, hS4, by rw [HRv.out]; simp [Pl.val], ?_⟩⟩
    rw [HRv.out, HV2.out]
    exact Pl.long_first (B := 1000000000) hx HLA.out HN.out hnl (by omega) (Pl.val_ge_top (B := 1000000000) (by rw [HN.out]; omega) (Pl.top_last ty (by rw [HN.out]; omega))) hs2
  obtain ⟨ao3, cap3, hvv, q1, q2⟩ := hf3.1
  clear q1 q2 hf3 hv3 hzl hrow3 hone
  subst hvv
  have HD2' := HD2
  clear HAl1 HAl2 HAl3 HR4 HG34
  go_wp2_with fail
  clear hcp
  go_loopw [11] (fun i wr => ∃ k : Nat, k ≤ la - n + 1 ∧ i = .int .i64 ((k : Int) - 1) ∧ Hid (LongSt w2 wr w2.heap.size w4.heap.size la n (Pl.val 1000000000 xs * s) ds k)) (fun i _ => (intOf i + 1).toNat)
  case atStart => exact ⟨la - n + 1, Nat.le_refl _, int_eq (by omega), HSt⟩
  case round =>
    obtain ⟨k, hk, rfl, HL⟩ := hrel
    cases k with
    | zero =>
      rw [show ((0 : Nat) : Int) - 1 = -1 from rfl]
      obtain ⟨R', qs, hRl, hRd, hRow, hql, hqd, hqRow, hbel, hqs, hgq, hV, hlt⟩ := HL.out.out
      have HNR := Hid.mk (hRow.nums (pre := []) (post := []) (cap := la + 1) (by simp) rfl hRl (Nat.le_refl _))
      have HNQ : Hid (Nums .u64 wr (.slice (some ⟨w4.heap.size, 0, none⟩) (la - n + 1) (la - n + 1)) qs) := hqRow.nums (pre := []) (post := []) (by simp) rfl (by omega) (Nat.le_refl _)
      obtain ⟨hfin1, hfin2⟩ := Pl.long_last hV hlt (by rw [HV2.out]) hs2
      have HFin1 := Hid.mk hfin1
      have HFin2 := Hid.mk hfin2
      have HRl' := Hid.mk hRl
      have HQl' := Hid.mk hql
      have HBel : Hid (Below w.heap.size w wr) := HBa.out.trans (hbel.mono HBa.out.size)
      clear hRow hqRow hV hlt hRl hql hfin1 hfin2 hbel
      go_wp2_with fail
      refine (w_tTrim _ R' _ HNR.out (by rw [HRl'.out]; unfold maxLen; omega)).mono ?_
      rintro e w6 ⟨v6, rfl, hw6, hn6, ho6⟩
      subst hw6
      have HN6 := Hid.mk hn6
      obtain ⟨ao6, cap6, hvv, q1, q2⟩ := hn6
      clear q1 q2 ho6
      subst hvv
      go_wp2_with fail
      refine (w_divideByGroup _ (Pl.trimN R') s w6 HN6.out (Nat.le_trans (Pl.trim_len _) (by rw [HRl'.out]; omega)) (Pl.dig_trim hRd) hs2 (by omega)).mono ?_
      rintro e w7 ⟨v7, zr, l, rfl, hf7, hv7, hl7⟩
      rw [Pl.val_trim] at hv7
      have HF7 := Hid.mk hf7
      have HV7 := Hid.mk hv7
      obtain ⟨ao7, cap7, hvv, q1, q2⟩ := hf7.1
      clear q1 q2 hf7 hv7
      subst hvv
      go_wp2_with fail
      refine (w_tTrim _ qs _ (HNQ.out.keep HF7.out.2.2.2.1) (by have := HQl'.out; unfold maxLen; omega)).mono ?_
      rintro e w8 ⟨v8, rfl, hw8, hn8, ho8⟩
      subst hw8
      have HN8 := Hid.mk hn8
      obtain ⟨ao8, cap8, hvv, q1, q2⟩ := hn8
      clear q1 q2 ho8
      subst hvv
      go_wp2_with fail
      go_ret2
      refine ⟨_, _, rfl, Pl.trimN qs, zr, ⟨HN8.out, Pl.dig_trim hqd, Pl.top_trim _⟩, ⟨HF7.out.1, HF7.out.2.1, HF7.out.2.2.1⟩, HBel.out.trans (HF7.out.2.2.2.1.mono HBel.out.size), ?_⟩
      rw [Pl.val_trim]
      exact Pl.long_rest HFin1.out HFin2.out HV7.out hl7 hs2
    | succ i =>
      rw [show ((i + 1 : Nat) : Int) - 1 = (i : Int) by omega]
      have hin : i + n ≤ la := by omega
      have c1 : (i : Int) + (n : Int) + 1 ≤ (la : Int) + 1 := by omega
      have c2 : (i : Int) < (la : Int) - (n : Int) + 1 := by omega
      have c3 : (i : Int) < ((la - n + 1 : Nat) : Int) := by omega
      obtain ⟨pre, ws, post, qs, hpl, hwl, hdp, hdw, hdpo, hpo, hlen, hrow, hql, hqd, hqRow, hbel, hqs, hgq, hV, hWlt⟩ := long_open HL.out HDL.out HF2.out.2.1 hin
      have HNW := Hid.mk (hrow.nums (pre := pre) (post := post) (cap := n + 1) rfl hpl hwl (Nat.le_refl _))
      have HND := Hid.mk (HD2.out.keep hbel)
      have HSh := Hid.mk (fun wr' ws' x => @long_shut w2 wr' w2.heap.size w4.heap.size la n (Pl.val 1000000000 xs * s) ds pre ws ws' post qs i x HDL.out hin hpl)
      have HRow := Hid.mk hrow
      have HQRow := Hid.mk hqRow
      have HBel := Hid.mk hbel
      have HV := Hid.mk hV
      have HW := Hid.mk hWlt
      have HPL := Hid.mk hpl
      have HWL := Hid.mk hwl
      have HQL := Hid.mk hql
      have HLen := Hid.mk hlen
      clear hrow hqRow hbel hV hWlt hpl hwl hql hlen
      go_wp2_with fail
      have esub : i + n + 1 - i = n + 1 := by omega
      rw [esub]
      refine (w_guess _ _ ws ds n wr HNW.out HND.out HWL.out HDL.out hn2 (by omega) hdw HF2.out.2.1 HDT.out).mono ?_
      rintro e w6 ⟨qh, rfl, hb6, hgs⟩
      obtain ⟨hq1, hq2, hq3⟩ := Pl.guess_near (B := 1000000000) (by decide) HWL.out HDL.out hn2 hdw HF2.out.2.1 (by have := HDT.out; omega) hgs.1 hgs.2 HW.out
      have hqr6 := HQRow.out.keep hb6
      have cq := hqr6.cell i (by simp; omega)
      have fq := hqr6.free i
      have HQR6 := Hid.mk (hqr6.set0 (x := qh))
      have HG6 := Hid.mk (grown_set w6 w4.heap.size i (.int .u64 (qh : Int)))
      have HRow6 := Hid.mk ((HRow.out.keep hb6).off HG6.out (by omega))
      have hvo : (Value.slice ao2 n cap2).ownBlock ≠ some w4.heap.size := HD2.out.older (by omega)
      have hvo2 : (Value.slice ao2 n cap2).ownBlock ≠ some w2.heap.size := HD2.out.older (Nat.le_refl _)
      have HND6 := Hid.mk ((HND.out.keep hb6).off hvo HG6.out)
      have HVO := Hid.mk hvo
      have HVO2 := Hid.mk hvo2
      have hs6 : w4.heap.size < w6.heap.size := Nat.lt_of_lt_of_le hqs hb6.size
      have HB6 : Hid (Below w2.heap.size w2 (w6.setCell ⟨w4.heap.size, i, none⟩ (.int .u64 (qh : Int)))) := (HBel.out.trans (hb6.mono HBel.out.size)).setCell (by show _ ≤ w4.heap.size; omega) _
      have HQ2 := Hid.mk hq2
      have HQ3 := Hid.mk hq3
      obtain ⟨vo, hvo'⟩ : ∃ vo, w6.cell? ⟨w4.heap.size, i, none⟩ = some vo := ⟨_, cq⟩
      clear hqr6 cq hgs hq2 hq3 hvo hvo2 hb6 HNW HND HRow HQRow HBel
      go_wp2_with fail
      refine (w_takeFrom w2.heap.size i (n + 1) (n + 1) _ qh pre ws post ds _ HRow6.out HPL.out HWL.out (Nat.le_refl _) (by omega) hdw HF2.out.2.1 HND6.out HVO2.out (by rw [HDL.out]; omega) hq1).mono ?_
      rintro e w7 ⟨short, rfl, htk⟩
      obtain ⟨hg7, ws1, cc, hl1, hd1, hrow7, hv1, hsh, hiff⟩ := htk
      have HQR7 := Hid.mk (HQR6.out.off hg7 (by omega))
      have HB7 : Hid (Below w2.heap.size w2 w7) := HB6.out.trans (below_grown hg7 (Nat.le_refl _) HB6.out.size)
      have hs7 : w4.heap.size < w7.heap.size := Nat.lt_of_lt_of_le (by simpa using hs6) hg7.size
      rcases Nat.eq_zero_or_pos cc with hc1 | hc1
      · subst hc1
        rw [show short = false by rw [hsh]; rfl]
        obtain ⟨x1, x2, x3⟩ := Pl.near_ok (by simpa using hv1) HQ2.out HW.out
        have HNew := Hid.mk (HSh.out w7 ws1 qh hl1 hdp hd1 hdpo hpo HWL.out HLen.out hrow7 HQL.out hqd x3 HQR7.out HB7.out hs7 (by omega) HV.out x1 x2)
        clear hg7 hl1 hd1 hrow7 hv1 hsh hiff x1 x2 x3
        go_wp2_with fail
        go_roundw
        case measure => simp [intOf]
        exact ⟨i, by omega, int_eq (by omega), HNew⟩
      · rw [show short = true by rw [hsh]; simp [hc1]]
        have hWq : Pl.val 1000000000 ws < qh * Pl.val 1000000000 ds := by have := hiff.1 hc1; rw [Nat.mul_comm]; exact this
        have hq0 : 0 < qh := by
          rcases Nat.eq_zero_or_pos qh with h | h
          · rw [h] at hWq; simp at hWq
          · exact h
        have c7 := HQR7.out.at1
        have f7 := HQR7.out.free i
        have HQR8 := Hid.mk (HQR7.out.set1 (x := qh - 1))
        have HG8 := Hid.mk (grown_set w7 w4.heap.size i (.int .u64 ((qh - 1 : Nat) : Int)))
        have HRow8 := Hid.mk (hrow7.off HG8.out (by omega))
        have HND8 := Hid.mk ((HND6.out.off HVO2.out hg7).off HVO.out HG8.out)
        have HB8 : Hid (Below w2.heap.size w2 (w7.setCell ⟨w4.heap.size, i, none⟩ (.int .u64 ((qh - 1 : Nat) : Int)))) := HB7.out.setCell (by show _ ≤ w4.heap.size; omega) _
        have HWq := Hid.mk hWq
        have HV1 := Hid.mk hv1
        have HL1 := Hid.mk hl1
        have ecast : ((qh : Int)) - 1 = ((qh - 1 : Nat) : Int) := by omega
        clear hg7 hrow7 hv1 hsh hiff hWq hl1
        go_wp2_with fail
        refine (w_addTo w2.heap.size i (n + 1) (n + 1) _ pre ws1 post ds _ HRow8.out HPL.out HL1.out (Nat.le_refl _) (by omega) hd1 HF2.out.2.1 HND8.out HVO2.out (by rw [HDL.out]; omega)).mono ?_
        rintro e w9 ⟨rfl, hadd⟩
        obtain ⟨hg9, ws2, hl9, hd9, hrow9, hv9⟩ := hadd
        have hDlt : Pl.val 1000000000 ds ≤ 1000000000 ^ (n + 1) := by
          have := Pl.val_lt HF2.out.2.1
          rw [HDL.out] at this
          exact Nat.le_of_lt (Nat.lt_of_lt_of_le this (Nat.pow_le_pow_right (by decide) (by omega)))
        obtain ⟨x1, x2⟩ := Pl.put_right HV1.out hv9 hq0 (HQ3.out hq0) HWq.out hDlt
        have HNew := Hid.mk (HSh.out w9 ws2 (qh - 1) hl9 hdp hd9 hdpo hpo HWL.out HLen.out hrow9 HQL.out hqd (by omega) (HQR8.out.off hg9 (by omega)) (HB8.out.trans (below_grown hg9 (Nat.le_refl _) HB8.out.size)) (Nat.lt_of_lt_of_le (by simpa using hs7) hg9.size) (by omega) HV.out x1 x2)
        clear hg9 hl9 hd9 hrow9 hv9 hDlt x1 x2
        go_wp2_with fail
        go_roundw
        case measure => simp [intOf]
        exact ⟨i, by omega, int_eq (by omega), HNew⟩

theorem w_divide (va vb : Value) (xs ys : List Nat) (w : World) (ha : Nums .u64 w va xs) (hb : Nums .u64 w vb ys) (hma : xs.length ≤ 137438953472) (hmb : ys.length ≤ 137438953472) (hx : Pl.dig 1000000000 xs) (hy : Pl.dig 1000000000 ys) (tx : Pl.Top xs) (ty : Pl.Top ys) (hpos : 0 < Pl.val 1000000000 ys) :
    Calls Tryd.prog 73 #[va, vb] w fun e w' => ∃ vq vr, e = .returned (.tuple #[vq, vr]) ∧ Divided w w' vq vr xs ys := by
  by_cases hlt : Pl.val 1000000000 xs < Pl.val 1000000000 ys
  · exact w_divide_less va vb xs ys w ha hb (by omega) (by omega) hx hy tx ty hlt
  · rcases (show ys.length = 0 ∨ ys.length = 1 ∨ 2 ≤ ys.length by omega) with h | h | h
    · rw [List.eq_nil_of_length_eq_zero h] at hpos; simp [Pl.val] at hpos
    · obtain ⟨b, rfl⟩ : ∃ b, ys = [b] := by
        cases ys with
        | nil => simp at h
        | cons b t => cases t with
          | nil => exact ⟨b, rfl⟩
          | cons _ _ => simp at h
      rw [val_one] at hpos
      exact w_divide_one va vb xs b w ha hb (by omega) hx (hy b (by simp)) hpos tx ty hlt
    · exact w_divide_long va vb xs ys ys.length w ha hb hma rfl h hx hy tx ty hlt
end Go.Proofs.YtfcbeohkhljboaaDoor
