import Derived.Test.YtfcbeohkhljboaaDoorM17
namespace Go.Proofs.YtfcbeohkhljboaaDoor
open Go.RowKit
set_option linter.unusedVariables false
set_option linter.unusedSimpArgs false

theorem mul_step {B P Q R Y c d r x y z : Nat} (h : Q + c * P = R + x * Y) (hs : z + y * B = c + (r + x * d)) : (Q + P * z) + y * (P * B) = (R + P * r) + x * (Y + P * d) := by
  have h1 : P * (z + y * B) = P * (c + (r + x * d)) := by rw [hs]
  have h2 : y * (P * B) = P * (y * B) := by rw [Nat.mul_left_comm]
  have h3 : c * P = P * c := Nat.mul_comm _ _
  have h4 : x * (P * d) = P * (x * d) := by rw [Nat.mul_left_comm]
  simp only [Nat.mul_add] at h1
  rw [Nat.mul_add, h4]
  omega

/-- inside a row of the product -/
structure MulSt (w wr : World) (g : Nat) (pre rs post xs : List Nat) (x i c : Nat) : Prop where
  out : ∃ qs : List Nat, qs.length = i ∧ Pl.dig 1000000000 qs ∧ Row wr g (pre ++ (qs ++ rs.drop i) ++ post) ∧ Below w.heap.size w wr ∧ Pl.val 1000000000 qs + c * 1000000000 ^ i = Pl.val 1000000000 (rs.take i) + x * Pl.val 1000000000 (xs.take i)

theorem MulSt.step {w wr : World} {g : Nat} {pre rs post xs : List Nat} {x i c o z y : Nat} (h : MulSt w wr g pre rs post xs x i c) (hg : w.heap.size ≤ g) (ho : pre.length = o) (hi : i < rs.length) (hz : z < 1000000000) (hs : z + y * 1000000000 = c + (rs.getD i 0 + x * xs.getD i 0)) :
    MulSt w (wr.setCell ⟨g, o + i, none⟩ (.int .u64 (z : Int))) g pre rs post xs x (i + 1) y := by
  obtain ⟨qs, hq, hd, hrow, hb, hv⟩ := h.out
  refine ⟨qs ++ [z], by simp [hq], Pl.dig_append.2 ⟨hd, by intro u hu; simp at hu; omega⟩, ?_, hb.setCell (by simpa using hg) _, ?_⟩
  · have := hrow.set (o + i) z (by simp; omega)
    rwa [Pl.mid_set ho hq hi] at this
  · rw [Pl.val_snoc, Pl.val_take_succ, Pl.val_take_succ, hq, Nat.pow_succ]
    exact mul_step hv hs

theorem MulSt.cell {w wr : World} {g : Nat} {pre rs post xs : List Nat} {x i c o : Nat} (h : MulSt w wr g pre rs post xs x i c) (ho : pre.length = o) (hi : i < rs.length) : wr.cell? ⟨g, o + i, none⟩ = some (.int .u64 ((rs.getD i 0 : Nat) : Int)) ∧ wr.frozen? ⟨g, o + i, none⟩ = false := by
  obtain ⟨qs, hq, hd, hrow, hb, hv⟩ := h.out
  have := hrow.cell (o + i) (by simp; omega)
  rw [Pl.mid_get ho hq hi] at this
  exact ⟨this, hrow.free _⟩

/-- between two rows of the product -/
structure RowsSt (w wr : World) (g la lb : Nat) (xs ys : List Nat) (i : Nat) : Prop where
  out : ∃ hs : List Nat, hs.length = la + i ∧ Pl.dig 1000000000 hs ∧ Row wr g (hs ++ List.replicate (lb - i) 0) ∧ Below w.heap.size w wr ∧ Pl.val 1000000000 hs = Pl.val 1000000000 xs * Pl.val 1000000000 (ys.take i)

theorem rows_open {w wr : World} {g la lb : Nat} {xs ys : List Nat} {i : Nat} (h : RowsSt w wr g la lb xs ys i) (hi : i < lb) :
    ∃ pre rs post, pre.length = i ∧ rs.length = la + 1 ∧ rs.getD la 0 = 0 ∧ Pl.dig 1000000000 rs ∧ Pl.dig 1000000000 pre ∧ post = List.replicate (lb - (i + 1)) 0 ∧ MulSt w wr g pre rs post xs (ys.getD i 0) 0 0 ∧ Pl.val 1000000000 pre + 1000000000 ^ i * Pl.val 1000000000 rs = Pl.val 1000000000 xs * Pl.val 1000000000 (ys.take i) := by
  obtain ⟨hs, hl, hd, hrow, hb, hv⟩ := h.out
  have e : hs ++ List.replicate (lb - i) 0 = hs.take i ++ (hs.drop i ++ [0]) ++ List.replicate (lb - (i + 1)) 0 := by
    rw [show lb - i = (lb - (i + 1)) + 1 by omega, List.replicate_succ]
    rw [← List.append_assoc, List.append_assoc _ [0], List.take_append_drop]
    rfl
  have hpl : (hs.take i).length = i := by simp; omega
  refine ⟨hs.take i, hs.drop i ++ [0], _, hpl, by simp; omega, ?_, Pl.dig_append.2 ⟨Pl.dig_drop i hd, by intro u hu; simp at hu; omega⟩, Pl.dig_take i hd, rfl, ⟨⟨[], rfl, Pl.dig_nil _, ?_, hb, by simp [Pl.val]⟩⟩, ?_⟩
  · rw [List.getD_eq_getElem?_getD, List.getElem?_append_right (by simp; omega)]
    have : la - (hs.drop i).length = 0 := by simp; omega
    rw [this]; rfl
  · rw [e] at hrow; simpa using hrow
  · rw [Pl.val_snoc, Nat.mul_zero, Nat.add_zero, ← hv]
    conv => rhs; rw [← List.take_append_drop i hs]
    rw [Pl.val_append, hpl]

theorem rows_shut {w wr : World} {g la lb : Nat} {xs ys pre rs post : List Nat} {i c : Nat} (hi : i < lb) (hxl : xs.length = la) (hpl : pre.length = i) (hrl : rs.length = la + 1) (hr0 : rs.getD la 0 = 0) (hdp : Pl.dig 1000000000 pre) (hpost : post = List.replicate (lb - (i + 1)) 0)
    (h : MulSt w wr g pre rs post xs (ys.getD i 0) la c) (hc : c < 1000000000) (hg : w.heap.size ≤ g) (hv0 : Pl.val 1000000000 pre + 1000000000 ^ i * Pl.val 1000000000 rs = Pl.val 1000000000 xs * Pl.val 1000000000 (ys.take i)) :
    RowsSt w (wr.setCell ⟨g, i + la, none⟩ (.int .u64 (c : Int))) g la lb xs ys (i + 1) := by
  obtain ⟨qs, hq, hd, hrow, hb, hv⟩ := h.out
  have hset := hrow.set (i + la) c (by simp; omega)
  rw [Pl.mid_set hpl hq (by omega)] at hset
  have hz : rs.drop (la + 1) = [] := List.drop_eq_nil_of_le (by omega)
  rw [hz, List.append_nil, ← List.append_assoc] at hset
  refine ⟨pre ++ qs ++ [c], by simp; omega, Pl.dig_append.2 ⟨Pl.dig_append.2 ⟨hdp, hd⟩, by intro u hu; simp at hu; omega⟩, by rw [← hpost]; exact hset, hb.setCell (by simpa using hg) _, ?_⟩
  have hvr : Pl.val 1000000000 rs = Pl.val 1000000000 (rs.take la) := by
    have := Pl.val_take_succ 1000000000 rs la
    rw [List.take_of_length_le (by omega), hr0] at this
    simpa using this
  rw [Pl.val_take_all 1000000000 xs la (by omega)] at hv
  rw [List.append_assoc, Pl.val_append, Pl.val_snoc, hpl, hq, Pl.val_take_succ]
  have e1 : Pl.val 1000000000 qs + 1000000000 ^ la * c = Pl.val 1000000000 rs + ys.getD i 0 * Pl.val 1000000000 xs := by
    rw [hvr, ← hv, Nat.mul_comm c]
  rw [e1, Nat.mul_add, ← Nat.add_assoc, hv0, Nat.mul_add]
  congr 1
  rw [Nat.mul_comm (ys.getD i 0), Nat.mul_left_comm]

theorem rows_end {w wr : World} {g la lb : Nat} {xs ys : List Nat} (h : RowsSt w wr g la lb xs ys lb) (hy : ys.length = lb) : ∃ hs : List Nat, hs.length = la + lb ∧ Pl.dig 1000000000 hs ∧ Row wr g hs ∧ Below w.heap.size w wr ∧ Pl.val 1000000000 hs = Pl.val 1000000000 xs * Pl.val 1000000000 ys := by
  obtain ⟨hs, hl, hd, hrow, hb, hv⟩ := h.out
  refine ⟨hs, hl, hd, by simpa using hrow, hb, ?_⟩
  rw [hv, Pl.val_take_all _ _ _ (by omega)]

set_option maxHeartbeats 3200000 in
theorem w_productByRows (va vb : Value) (xs ys : List Nat) (w : World) (ha : Nums .u64 w va xs) (hb : Nums .u64 w vb ys) (hma : xs.length ≤ 274877906944) (hmb : ys.length ≤ 274877906944) (hx : Pl.dig 1000000000 xs) (hy : Pl.dig 1000000000 ys) :
    Calls Tryd.prog 99 #[va, vb] w fun e w' => ∃ v zs, e = .returned v ∧ Fresh w w' v zs ∧ Pl.val 1000000000 zs = Pl.val 1000000000 xs * Pl.val 1000000000 ys := by
  have HA := Hid.mk ha
  have HB := Hid.mk hb
  obtain ⟨ao, capa, rfl, q1, q2⟩ := ha
  clear q1 q2
  obtain ⟨bo, capb, rfl, q1, q2⟩ := hb
  clear q1 q2
  have hmk := fun (u : World) => run_make_row' (xs.length + ys.length) ((xs.length : Int) + (ys.length : Int)) (by simp) (by omega) u
  have HS : Hid (RowsSt w (w.alloc (zrow (xs.length + ys.length))) w.heap.size xs.length ys.length xs ys 0) :=
    ⟨⟨List.replicate xs.length 0, by simp, dig_zeros _ _ (by decide), by have := row_new w (xs.length + ys.length); rw [← List.replicate_append_replicate] at this; simpa using this, (Below.refl _ _).alloc (Nat.le_refl _) _, by rw [val_zeros]; simp [Pl.val]⟩⟩
  generalize hn : xs.length = la at *
  have HLA := Hid.mk hn
  clear hn
  generalize hn : ys.length = lb at *
  have HLB := Hid.mk hn
  clear hn
  go_enter Tryd.func99, Tryd.ntmps99
  go_wp2
  go_loopw [20] (fun i wr => ∃ (k : Nat), k ≤ lb ∧ i = .int .i64 k ∧ Hid (RowsSt w wr w.heap.size la lb xs ys k)) (fun i _ => lb - (intOf i).toNat)
  case atStart => exact ⟨0, Nat.zero_le _, rfl, HS⟩
  case round =>
    obtain ⟨k, hk, rfl, HR⟩ := hrel
    by_cases hlt : k < lb
    · have hk1 : (k : Int) < (lb : Int) := by omega
      obtain ⟨pre, rs, post, hpl, hrl, hr0, hdr, hdp, hpost, hm0, hv0⟩ := rows_open HR.out hlt
      have HM := Hid.mk hm0
      have HE := Hid.mk (fun wr' c => @rows_shut w wr' w.heap.size la lb xs ys pre rs post k c hlt HLA.out hpl hrl hr0 hdp hpost)
      have HE2 := Hid.mk hv0
      have HPL := Hid.mk hpl
      have HRL := Hid.mk hrl
      clear hpl hrl hr0 hpost hm0 hv0
      have hyk := Pl.dig_getD (by decide) hy k
      obtain ⟨bb, off, hbo, hbl, cy⟩ : ∃ bb off, bo = some ⟨bb, off, none⟩ ∧ bb < w.heap.size ∧ wr.cell? ⟨bb, off + k, none⟩ = some (.int .u64 ((ys.getD k 0 : Nat) : Int)) := by
        obtain ⟨qs, hq, hd, hrow, hbw, hv⟩ := HM.out.out
        rcases HB.out.open' with ⟨e, _⟩ | ⟨hp, bb, off, cap, e, hc, hlt2, hcell⟩
        · have := HLB.out; rw [e] at this; simp at this; omega
        · cases e
          exact ⟨bb, off, rfl, hlt2, (hbw.cell (p := ⟨bb, off + k, none⟩) hlt2).trans (hcell k (by have := HLB.out; omega))⟩
      subst hbo
      obtain ⟨x, hxx⟩ : ∃ x, x = ys.getD k 0 := ⟨_, rfl⟩
      rw [← hxx] at cy hyk HM HE
      clear hxx
      obtain ⟨wo, rfl⟩ : ∃ wo : World, wo = wr := ⟨_, rfl⟩
      go_wp2
      go_loopw [9, 40] (fun c j wr => ∃ (m cc : Nat), m ≤ la ∧ j = .int .i64 m ∧ c = .int .u64 (cc : Int) ∧ cc < 1000000000 ∧ Hid (MulSt w wr w.heap.size pre rs post xs x m cc)) (fun _ j _ => la - (intOf j).toNat)
      case atStart => exact ⟨0, 0, Nat.zero_le _, rfl, rfl, by decide, HM⟩
      case round =>
        obtain ⟨m, cc, hm, rfl, rfl, hcc, HI⟩ := hrel
        by_cases hml : m < la
        · have hm1 : (m : Int) < (la : Int) := by omega
          obtain ⟨c1, f1⟩ := HI.out.cell HPL.out (by rw [HRL.out]; omega)
          have hr := Pl.dig_getD (by decide) hdr m
          have hxm := Pl.dig_getD (by decide) hx m
          obtain ⟨ba, offa, hao, hbla, cx⟩ : ∃ ba offa, ao = some ⟨ba, offa, none⟩ ∧ ba < w.heap.size ∧ wr.cell? ⟨ba, offa + m, none⟩ = some (.int .u64 ((xs.getD m 0 : Nat) : Int)) := by
            obtain ⟨qs, hq, hd, hrow, hbw, hv⟩ := HI.out.out
            rcases HA.out.open' with ⟨e, _⟩ | ⟨hp, ba, offa, cap, e, hc, hlt2, hcell⟩
            · have := HLA.out; rw [e] at this; simp at this; omega
            · cases e
              exact ⟨ba, offa, rfl, hlt2, (hbw.cell (p := ⟨ba, offa + m, none⟩) hlt2).trans (hcell m (by have := HLA.out; omega))⟩
          subst hao
          obtain ⟨r, hrr⟩ : ∃ r, r = rs.getD m 0 := ⟨_, rfl⟩
          obtain ⟨y, hyy⟩ : ∃ y, y = xs.getD m 0 := ⟨_, rfl⟩
          rw [← hrr] at c1 hr
          rw [← hyy] at cx hxm
          have HRr := Hid.mk hrr
          have HY := Hid.mk hyy
          clear hrr hyy
          have hxy : x * y ≤ 999999999 * 999999999 := Nat.mul_le_mul (by omega) (by omega)
          have hxy2 : (x : Int) * (y : Int) ≤ 999999998000000001 := by
            have : ((x * y : Nat) : Int) ≤ 999999998000000001 := by omega
            simpa using this
          have hxy0 : 0 ≤ (x : Int) * (y : Int) := Int.mul_nonneg (by omega) (by omega)
          go_wp2
          go_roundw
          case measure => simp [intOf]; omega
          have e : (x : Int) * (y : Int) = ((x * y : Nat) : Int) := by simp
          rw [e]
          generalize hmt : x * y = p at *
          refine ⟨m + 1, (cc + (r + p)) / 1000000000, by omega, by go_num, int_eq (by omega), by omega, ?_⟩
          rw [show ((cc : Int) + ((r : Int) + (p : Int))) % 1000000000 = (((cc + (r + p)) % 1000000000 : Nat) : Int) by omega]
          exact HI.out.step (Nat.le_refl _) HPL.out (by rw [HRL.out]; omega) (by omega) (by rw [← HRr.out, ← HY.out, hmt]; omega)
        · obtain rfl : m = la := by omega
          obtain ⟨c1, f1⟩ := HI.out.cell HPL.out (by rw [HRL.out]; omega)
          have HN := Hid.mk (HE.out wr cc HI.out hcc (Nat.le_refl _) HE2.out)
          clear hml
          go_wp2
          go_roundw
          case measure => simp [intOf]; omega
          exact ⟨k + 1, by omega, by go_num, HN⟩
    · obtain rfl : k = lb := by omega
      obtain ⟨hs, hl, hd, hrow, hbw, hv⟩ := rows_end HR.out HLB.out
      have HNum := Hid.mk (hrow.nums (pre := []) (post := []) (cap := la + k) (by simp) rfl hl (Nat.le_refl _))
      have HV := Hid.mk hv
      have HL := Hid.mk hl
      clear hrow hv hl
      go_wp2_with fail
      refine (w_tTrim _ hs _ HNum.out (by have := HL.out; unfold maxLen; omega)).mono ?_
      rintro e w3 ⟨v', rfl, rfl, hn', ho'⟩
      have HF := Hid.mk (fresh_of hbw (Nat.le_refl _) hd hn' ho' rfl)
      have HVal : Hid (Pl.val 1000000000 (Pl.trimN hs) = Pl.val 1000000000 xs * Pl.val 1000000000 ys) := by
        show _ = _
        rw [Pl.val_trim]; exact HV.out
      obtain ⟨ao', cap', hvv, q1, q2⟩ := hn'
      clear q1 q2 ho'
      subst hvv
      go_wp2_with fail
      go_ret
      exact ⟨_, _, rfl, HF.out, HVal.out⟩
end Go.Proofs.YtfcbeohkhljboaaDoor
namespace Go.Proofs.YtfcbeohkhljboaaDoor
open Go.RowKit
set_option linter.unusedVariables false
set_option linter.unusedSimpArgs false

set_option maxHeartbeats 1600000 in
theorem w_cut (va : Value) (xs : List Nat) (n : Nat) (w : World) (ha : Nums .u64 w va xs) (hma : xs.length ≤ 274877906944) (hn0 : 0 < n) (hn : n < xs.length) :
    Calls Tryd.prog 91 #[va, .int .i64 (n : Int)] w fun e w' => ∃ vl vh, e = .returned (.tuple #[vl, vh]) ∧ Below w.heap.size w w' ∧ Nums .u64 w vl (Pl.trimN (xs.take n)) ∧ Nums .u64 w vh (xs.drop n) ∧ vl.ownBlock = va.ownBlock ∧ vh.ownBlock = va.ownBlock := by
  rcases ha.open' with ⟨rfl, _⟩ | ⟨hp, b, off, cap, rfl, hc, hlt, hcell⟩
  · simp at hn
  have hlow : Nums .u64 w (.slice (some ⟨b, off, none⟩) n n) (xs.take n) := by
    refine Nums.mk (by simp; omega) (Nat.le_refl _) hlt (fun i hi => ?_)
    rw [getD_take hi]; exact hcell i (by omega)
  have hhigh : Nums .u64 w (.slice (some ⟨b, off + n, none⟩) (xs.length - n) (xs.length - n)) (xs.drop n) := by
    refine Nums.mk (by simp) (Nat.le_refl _) hlt (fun i hi => ?_)
    rw [Nat.add_assoc]
    have := hcell (n + i) (by omega)
    rw [this]
    simp
  have HLow := Hid.mk hlow
  have HHigh := Hid.mk hhigh
  have hlm : (xs.take n).length ≤ maxLen := by simp; unfold maxLen; omega
  generalize hl : xs.length = la at *
  clear hl hlow hhigh hcell ha
  have h1 : (n : Int) < (la : Int) := by omega
  have h2 : (la : Int) ≤ (cap : Int) := by omega
  have h3 : (n : Int) ≤ (cap : Int) := by omega
  go_enter Tryd.func91, Tryd.ntmps91
  go_wp2
  go_quiet ((go_at_call 71; exact Calls.quiet_of_same (w_tTrimD _ _ _ (HLow.out.keep (below_drewN (Below.refl _ _) _)) hlm)))
  go_wp2
  go_ret2
  exact ⟨_, _, rfl, below_drewN (Below.refl _ _) _, HLow.out.trim3, HHigh.out, rfl, rfl⟩
end Go.Proofs.YtfcbeohkhljboaaDoor
