import Derived.Test.YtfcbeohkhljboaaDoorM5
namespace Go.Proofs.YtfcbeohkhljboaaDoor
open Go.RowKit
set_option linter.unusedVariables false
set_option linter.unusedSimpArgs false

theorem w_take_none (ao : Option Addr) (cap : Nat) (vd : Value) (w : World) :
    Calls Tryd.prog 93 #[.slice ao 0 cap, vd, .int .u64 1] w fun e w' => e = .returned (.bool false) ∧ w' = w := by
  go_enter Tryd.func93, Tryd.ntmps93
  go_wp2
  refine wp_loop_rounds 1 ?_
  rw [rounds_succ]
  go_wp2
  go_ret
  exact ⟨rfl, rfl⟩

set_option maxHeartbeats 1600000 in
theorem w_difference (va vb : Value) (xs ys : List Nat) (w : World) (ha : Nums .u64 w va xs) (hb : Nums .u64 w vb ys) (hma : xs.length ≤ 274877906944) (hx : Pl.dig 1000000000 xs) (hy : Pl.dig 1000000000 ys) (ty : Pl.Top ys) (hle : Pl.val 1000000000 ys ≤ Pl.val 1000000000 xs) :
    Calls Tryd.prog 80 #[va, vb] w fun e w' => ∃ v zs, e = .returned v ∧ Fresh w w' v zs ∧ Pl.val 1000000000 zs + Pl.val 1000000000 ys = Pl.val 1000000000 xs := by
  have hll : ys.length ≤ xs.length := by
    rcases Nat.lt_or_ge xs.length ys.length with h | h
    · have := Pl.val_lt_of_len (by decide) hx ty h; omega
    · exact h
  have HA := Hid.mk ha
  have HB := Hid.mk hb
  obtain ⟨ao, capa, rfl, q1, q2⟩ := ha
  clear q1 q2
  obtain ⟨bo, capb, rfl, q1, q2⟩ := hb
  clear q1 q2
  go_enter Tryd.func80, Tryd.ntmps80
  go_wp2_with fail
  refine (w_Clone _ xs w HA.out hma).mono ?_
  rintro e w1 ⟨v, rfl, hn, hb1, hrow, hown⟩
  have HB1 := Hid.mk (HB.out.keep hb1)
  by_cases hp : 0 < xs.length
  · obtain ⟨g, cap, rfl, hcap, hg, hr⟩ := hrow hp
    have HR := Hid.mk hr
    clear hr hrow hown hn
    have hoff : (Value.slice bo ys.length capb).ownBlock ≠ some g := HB.out.older hg
    have HOff := Hid.mk hoff
    clear hoff
    go_wp2_with fail
    refine (w_takeFrom g 0 xs.length cap _ 1 [] xs [] ys w1 (by simpa using HR.out) rfl rfl hcap (by omega) hx hy HB1.out HOff.out hll (by decide)).mono ?_
    rintro e w2 ⟨short, rfl, htk⟩
    obtain ⟨hg2, rs', c, hl', hd', hrow', hv', hsh, hiff⟩ := htk
    have hc0 : c = 0 := by
      rcases Nat.eq_zero_or_pos c with h | h
      · exact h
      · have := hiff.1 h; omega
    subst hc0
    have HVal : Hid (Pl.val 1000000000 (Pl.trimN rs') + Pl.val 1000000000 ys = Pl.val 1000000000 xs) := by
      show _ = _
      rw [Pl.val_trim]; simpa using hv'
    go_wp2_with fail
    refine (w_tTrim _ rs' _ (hrow'.nums (pre := []) (post := []) rfl rfl hl' hcap) (by unfold maxLen; omega)).mono ?_
    rintro e w3 ⟨v', rfl, rfl, hn', ho'⟩
    have HF := Hid.mk (fresh_of (hb1.trans (below_grown hg2 hg hb1.size)) hg hd' hn' ho' rfl)
    obtain ⟨ao', cap', hvv, q1, q2⟩ := hn'
    clear q1 q2 hl' hd' hrow' hv' hg2 ho' hsh hiff
    subst hvv
    go_wp2_with fail
    go_ret
    exact ⟨_, _, rfl, HF.out, HVal.out⟩
  · obtain rfl : xs = [] := List.eq_nil_of_length_eq_zero (by omega)
    obtain rfl : ys = [] := List.eq_nil_of_length_eq_zero (by simpa using hll)
    have HN := Hid.mk hn
    have HO := Hid.mk hown
    obtain ⟨ao', cap', rfl, q1, q2⟩ := hn
    clear q1 q2 hrow hown
    go_wp2_with fail
    refine (w_take_none ao' cap' _ w1).mono ?_
    rintro e w2 ⟨rfl, rfl⟩
    go_wp2_with fail
    refine (w_tTrim _ [] _ HN.out (by decide)).mono ?_
    rintro e w3 ⟨v', rfl, rfl, hn', ho'⟩
    have HF : Hid (Fresh w w3 v' (Pl.trimN [])) := ⟨hn', Pl.dig_nil _, rfl, hb1, fun k hk => HO.out k (by rw [← ho']; exact hk)⟩
    obtain ⟨ao2, cap2, hvv, q1, q2⟩ := hn'
    clear q1 q2 ho'
    subst hvv
    go_wp2_with fail
    go_ret
    exact ⟨_, _, rfl, HF.out, rfl⟩
end Go.Proofs.YtfcbeohkhljboaaDoor
namespace Go.Proofs.YtfcbeohkhljboaaDoor
open Go.RowKit
set_option linter.unusedVariables false
set_option linter.unusedSimpArgs false

/-- while a row is divided by one group: from place k on -/
structure DivSt (w wr : World) (g n : Nat) (xs : List Nat) (b k l : Nat) : Prop where
  out : ∃ qs : List Nat, qs.length = n - k ∧ Pl.dig 1000000000 qs ∧ Row wr g (List.replicate k 0 ++ qs) ∧ Below w.heap.size w wr ∧ w.heap.size < wr.heap.size ∧ Pl.val 1000000000 qs * b + l = Pl.val 1000000000 (xs.drop k)

theorem set_zeros (m q : Nat) (qs : List Nat) : (List.replicate (m + 1) 0 ++ qs).set m q = List.replicate m 0 ++ (q :: qs) := by
  induction m with
  | zero => rfl
  | succ m ih => rw [List.replicate_succ, List.cons_append, List.set_cons_succ, ih]; rfl

theorem DivSt.step {w wr : World} {g n : Nat} {xs : List Nat} {b m l : Nat} (h : DivSt w wr g n xs b (m + 1) l) (hg : g = w.heap.size) (hm : m < xs.length) (hn : xs.length = n) (hb : 0 < b) (hl : l < b) (hx : Pl.dig 1000000000 xs) :
    DivSt w (wr.setCell ⟨g, m, none⟩ (.int .u64 (((l * 1000000000 + xs.getD m 0) / b : Nat) : Int))) g n xs b m ((l * 1000000000 + xs.getD m 0) % b) := by
  obtain ⟨qs, hq, hd, hrow, hbw, hs, hv⟩ := h.out
  obtain ⟨x, t, h1, h2, h3⟩ := Pl.drop_parts hm
  have hxm := Pl.dig_getD (by decide) hx m
  rw [h2] at hxm ⊢
  have hlt : (l * 1000000000 + x) / b < 1000000000 := by
    rw [Nat.div_lt_iff_lt_mul hb]
    have : (l + 1) * 1000000000 ≤ b * 1000000000 := Nat.mul_le_mul_right _ hl
    have e : 1000000000 * b = b * 1000000000 := Nat.mul_comm _ _
    omega
  refine ⟨((l * 1000000000 + x) / b) :: qs, by simp [hq]; omega, Pl.dig_cons.2 ⟨hlt, hd⟩, ?_, hbw.setCell (by simp [hg]) _, by simpa using hs, ?_⟩
  · have := hrow.set m ((l * 1000000000 + x) / b) (by simp; omega)
    rwa [set_zeros] at this
  · rw [h1, Pl.val_cons, Pl.val_cons, ← h3, ← hv]
    have e1 := Nat.div_add_mod (l * 1000000000 + x) b
    generalize (l * 1000000000 + x) / b = q at *
    generalize (l * 1000000000 + x) % b = r at *
    rw [Nat.add_mul, Nat.mul_add, Nat.mul_assoc]
    have e2 : b * q = q * b := Nat.mul_comm _ _
    omega

theorem DivSt.free {w wr : World} {g n : Nat} {xs : List Nat} {b m l : Nat} (h : DivSt w wr g n xs b (m + 1) l) : (∃ v, wr.cell? ⟨g, m, none⟩ = some v) ∧ wr.frozen? ⟨g, m, none⟩ = false := by
  obtain ⟨qs, hq, hd, hrow, hbw, hs, hv⟩ := h.out
  exact ⟨⟨_, hrow.cell m (by simp; omega)⟩, hrow.free _⟩

set_option maxHeartbeats 1600000 in
theorem w_divideByGroup (va : Value) (xs : List Nat) (b : Nat) (w : World) (ha : Nums .u64 w va xs) (hma : xs.length ≤ 274877906944) (hx : Pl.dig 1000000000 xs) (hb : 0 < b) (hbB : b < 1000000000) :
    Calls Tryd.prog 74 #[va, .int .u64 (b : Int)] w fun e w' => ∃ v zs l, e = .returned (.tuple #[v, .int .u64 ((l : Nat) : Int)]) ∧ Fresh w w' v zs ∧ Pl.val 1000000000 zs * b + l = Pl.val 1000000000 xs ∧ l < b := by
  have HA := Hid.mk ha
  obtain ⟨ao, capa, rfl, q1, q2⟩ := ha
  clear q1 q2
  have hmk := fun (u : World) => run_make_row' xs.length (xs.length : Int) rfl (by omega) u
  have HS : Hid (DivSt w (w.alloc (zrow xs.length)) w.heap.size xs.length xs b xs.length 0) :=
    ⟨⟨[], by simp, Pl.dig_nil _, by simpa using row_new w xs.length, (Below.refl _ _).alloc (Nat.le_refl _) _, by simp, by rw [List.drop_eq_nil_of_le (Nat.le_refl _)]; simp [Pl.val]⟩⟩
  generalize hn : xs.length = n at *
  have HN := Hid.mk hn
  clear hn
  go_enter Tryd.func74, Tryd.ntmps74
  go_wp2
  go_loopw [5, 6] (fun l i wr => ∃ (k ll : Nat), k ≤ n ∧ i = .int .i64 ((k : Int) - 1) ∧ l = .int .u64 (ll : Int) ∧ ll < b ∧ Hid (DivSt w wr w.heap.size n xs b k ll)) (fun _ i _ => (intOf i + 1).toNat)
  case atStart => exact ⟨n, 0, Nat.le_refl _, rfl, rfl, hb, HS⟩
  case round =>
    obtain ⟨k, ll, hk, rfl, rfl, hll, HD⟩ := hrel
    cases k with
    | zero =>
      obtain ⟨qs, hq, hd, hrow, hbw, hs, hv⟩ := HD.out.out
      have hnum : Nums .u64 wr (.slice (some ⟨w.heap.size, 0, none⟩) n n) qs := hrow.nums (pre := []) (post := []) (by simp) rfl (by simpa using hq) (Nat.le_refl _)
      have HNum := Hid.mk hnum
      have HV := Hid.mk hv
      have HQ := Hid.mk hq
      clear hnum hv hrow hq
      rw [show ((0 : Nat) : Int) - 1 = -1 from rfl]
      go_wp2_with fail
      refine (w_tTrim _ qs _ HNum.out (by have := HQ.out; unfold maxLen; omega)).mono ?_
      rintro e w3 ⟨v', rfl, rfl, hn', ho'⟩
      have HF := Hid.mk (fresh_of hbw (Nat.le_refl _) hd hn' ho' rfl)
      have HVal : Hid (Pl.val 1000000000 (Pl.trimN qs) * b + ll = Pl.val 1000000000 xs) := by
        show _ = _
        rw [Pl.val_trim]; exact HV.out
      obtain ⟨ao', cap', hvv, q1, q2⟩ := hn'
      clear q1 q2 ho'
      subst hvv
      go_wp2_with fail
      go_ret2
      exact ⟨_, _, ll, rfl, HF.out, HVal.out, hll⟩
    | succ m =>
      rw [show ((m + 1 : Nat) : Int) - 1 = (m : Int) by omega]
      have hm1 : (m : Int) < (n : Int) := by omega
      obtain ⟨⟨vo, c1⟩, f1⟩ := HD.out.free
      have hxm := Pl.dig_getD (by decide) hx m
      obtain ⟨bb, off, hao, hbl, cx⟩ : ∃ bb off, ao = some ⟨bb, off, none⟩ ∧ bb < w.heap.size ∧ wr.cell? ⟨bb, off + m, none⟩ = some (.int .u64 ((xs.getD m 0 : Nat) : Int)) := by
        obtain ⟨qs, hq, hd, hrow, hbw, hs, hv⟩ := HD.out.out
        rcases HA.out.open' with ⟨e, _⟩ | ⟨hp, bb, off, cap, e, hc, hlt, hcell⟩
        · have := HN.out; rw [e] at this; simp at this; omega
        · cases e
          exact ⟨bb, off, rfl, hlt, (hbw.cell (p := ⟨bb, off + m, none⟩) hlt).trans (hcell m (by have := HN.out; omega))⟩
      subst hao
      obtain ⟨x, hxx⟩ : ∃ x, x = xs.getD m 0 := ⟨_, rfl⟩
      rw [← hxx] at cx hxm
      have HX := Hid.mk hxx
      clear hxx
      have hb0 : (((b : Nat) : Int) == 0) = false := by simp; omega
      have hl1 : ll * 1000000000 + x < 1000000000000000000 := by omega
      go_wp2
      go_roundw
      case measure => simp [intOf]
      refine ⟨m, (ll * 1000000000 + x) % b, by omega, rfl, ?_, Nat.mod_lt _ hb, ?_⟩
      · exact int_eq (by simp)
      · rw [show ((ll : Int) * 1000000000 + (x : Int)) / (b : Int) = (((ll * 1000000000 + x) / b : Nat) : Int) by simp, HX.out]
        exact HD.out.step rfl (by have := HN.out; omega) HN.out hb hll hx
end Go.Proofs.YtfcbeohkhljboaaDoor
