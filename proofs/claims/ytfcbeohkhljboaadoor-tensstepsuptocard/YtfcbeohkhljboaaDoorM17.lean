import Derived.Test.YtfcbeohkhljboaaDoorM15
import Derived.Test.YtfcbeohkhljboaaDoorM16
import Derived.Deep.AppendLies
namespace Go.Proofs.YtfcbeohkhljboaaDoor
open Go.RowKit
set_option linter.unusedVariables false
set_option linter.unusedSimpArgs false

theorem w_CompareU (a b : Nat) (w : World) :
    Calls Tryd.prog 96 #[.int .u64 (a : Int), .int .u64 (b : Int)] w fun e w' => e = .returned (.int .i64 (Pl.cmpI a b)) ∧ w' = w := by
  by_cases h1 : a < b
  · have HX : Hid (Pl.cmpI a b = -1) := Pl.cmp_less h1
    go_enter Tryd.func96, Tryd.ntmps96
    go_wp2
    all_goals (go_ret; exact ⟨by rw [HX.out]; rfl, rfl⟩)
  · by_cases h2 : b < a
    · have HX : Hid (Pl.cmpI a b = 1) := Pl.cmp_more h2
      go_enter Tryd.func96, Tryd.ntmps96
      go_wp2
      all_goals (go_ret; exact ⟨by rw [HX.out]; rfl, rfl⟩)
    · have HX : Hid (Pl.cmpI a b = 0) := Pl.cmp_eq (by omega)
      go_enter Tryd.func96, Tryd.ntmps96
      go_wp2
      all_goals (go_ret; exact ⟨by rw [HX.out]; rfl, rfl⟩)

set_option maxHeartbeats 800000 in
theorem w_compare (va vb : Value) (xs ys : List Nat) (w : World) (ha : Nums .u64 w va xs) (hb : Nums .u64 w vb ys) (hm : xs.length ≤ maxLen) (hm2 : ys.length ≤ maxLen) (hx : Pl.dig 1000000000 xs) (hy : Pl.dig 1000000000 ys) (tx : Pl.Top xs) (ty : Pl.Top ys) :
    Calls Tryd.prog 76 #[va, vb] w fun e w' => e = .returned (.int .i64 (Pl.cmpI (Pl.val 1000000000 xs) (Pl.val 1000000000 ys))) ∧ Below w.heap.size w w' := by
  unfold maxLen at hm hm2
  by_cases hl : xs.length = ys.length
  · rcases ha.open' with ⟨rfl, ao, cap, rfl, hblk⟩ | ⟨hp, b, off, cap, rfl, hc, hlt, hcell⟩
    · have : ys = [] := List.eq_nil_of_length_eq_zero (by simpa using hl.symm)
      subst this
      rcases hb.open' with ⟨_, ao2, cap2, rfl, hblk2⟩ | ⟨hp, _⟩
      · go_enter Tryd.func76, Tryd.ntmps76
        go_wp2
        refine wp_loop_rounds 1 ?_
        rw [rounds_succ]
        go_wp2
        go_ret
        exact ⟨rfl, Below.refl _ _⟩
      · simp at hp
    · rcases hb.open' with ⟨rfl, _⟩ | ⟨hp2, b2, off2, cap2, rfl, hc2, hlt2, hcell2⟩
      · simp at hl; rw [hl] at hp; simp at hp
      · generalize hn : xs.length = n at *
        have HN := Hid.mk hn
        rw [← hl]
        clear hn
        have HL := Hid.mk hl
        clear hl
        have hne : (((n : Nat) : Int) != ((n : Nat) : Int)) = false := by simp
        go_enter Tryd.func76, Tryd.ntmps76
        go_wp2
        go_loopw [5] (fun i wr => ∃ k : Nat, k ≤ n ∧ i = .int .i64 ((k : Int) - 1) ∧ Below w.heap.size w wr ∧ Hid (∀ j, k ≤ j → xs.getD j 0 = ys.getD j 0)) (fun i _ => (intOf i + 1).toNat)
        case atStart => exact ⟨n, Nat.le_refl _, rfl, Below.refl _ _, Pl.above HN.out (HN.out.trans HL.out)⟩
        case round =>
          obtain ⟨k, hk, rfl, hbw, HA⟩ := hrel
          cases k with
          | zero =>
            have HX : Hid (Pl.cmpI (Pl.val 1000000000 xs) (Pl.val 1000000000 ys) = 0) := Pl.cmp_same (HN.out.trans HL.out) HA.out
            rw [show ((0 : Nat) : Int) - 1 = -1 from rfl]
            go_wp2
            go_ret
            exact ⟨by rw [HX.out]; rfl, hbw⟩
          | succ m =>
            have e1 : ((m + 1 : Nat) : Int) - 1 = (m : Int) := by omega
            rw [e1]
            clear e1
            have cx : wr.cell? ⟨b, off + m, none⟩ = some (.int .u64 ((xs.getD m 0 : Nat) : Int)) := (hbw.cell (p := ⟨b, off + m, none⟩) hlt).trans (hcell m (by omega))
            have cy : wr.cell? ⟨b2, off2 + m, none⟩ = some (.int .u64 ((ys.getD m 0 : Nat) : Int)) := (hbw.cell (p := ⟨b2, off2 + m, none⟩) hlt2).trans (hcell2 m (by have := HL.out; omega))
            have hm1 : (m : Int) < (n : Int) := by omega
            obtain ⟨x, hxx⟩ : ∃ x, x = xs.getD m 0 := ⟨_, rfl⟩
            obtain ⟨y, hyy⟩ : ∃ y, y = ys.getD m 0 := ⟨_, rfl⟩
            rw [← hxx] at cx
            rw [← hyy] at cy
            have HXX := Hid.mk hxx
            have HYY := Hid.mk hyy
            clear hxx hyy hcell hcell2
            by_cases h : x = y
            · have HE : Hid (∀ j, m ≤ j → xs.getD j 0 = ys.getD j 0) := by
                intro j hj
                by_cases e : j = m
                · subst e; rw [← HXX.out, ← HYY.out]; exact h
                · exact HA.out j (by omega)
              have hxy : (((x : Nat) : Int) != ((y : Nat) : Int)) = false := by simp [h]
              clear h
              go_wp2
              go_quiet (fail)
              go_wp2
              go_roundw
              case rel => exact ⟨m, by omega, rfl, below_drewN hbw _, HE⟩
              case measure => simp [intOf]
            · have hxy : (((x : Nat) : Int) != ((y : Nat) : Int)) = true := by rw [bne_iff_ne]; omega
              have HX : Hid (Pl.cmpI (x : Int) (y : Int) = Pl.cmpI (Pl.val 1000000000 xs) (Pl.val 1000000000 ys)) := by
                show _ = _
                rcases (show x < y ∨ y < x by omega) with h | h
                · rw [Pl.cmp_less h, Pl.cmp_less (Pl.val_lt_at m (HN.out.trans HL.out) (by have := HN.out; omega) hx (by rw [← HXX.out, ← HYY.out]; exact h) (fun j hj => HA.out j hj))]
                · rw [Pl.cmp_more h, Pl.cmp_more (Pl.val_lt_at m (HL.out.symm.trans HN.out.symm) (by have := HL.out; omega) hy (by rw [← HXX.out, ← HYY.out]; exact h) (fun j hj => (HA.out j hj).symm))]
              clear h
              go_wp2
              go_quiet (fail)
              replace hbw := below_drewN hbw nq
              replace cx : (wr.drewN nq).cell? ⟨b, off + m, none⟩ = some (.int .u64 (x : Int)) := cx
              replace cy : (wr.drewN nq).cell? ⟨b2, off2 + m, none⟩ = some (.int .u64 (y : Int)) := cy
              generalize wr.drewN nq = wq at *
              go_wp2
              go_quiet ((go_at_call 96; exact Calls.quiet_of_same (w_CompareU _ _ _)))
              go_wp2
              go_ret
              exact ⟨by rw [← HX.out]; rfl, below_drewN hbw _⟩
  · obtain ⟨ao, cap, rfl, q1, q2⟩ := ha
    clear q1 q2
    obtain ⟨ao2, cap2, rfl, q1, q2⟩ := hb
    clear q1 q2
    have hne : (((xs.length : Nat) : Int) != ((ys.length : Nat) : Int)) = true := by rw [bne_iff_ne]; omega
    have HX : Hid (Pl.cmpI (xs.length : Int) (ys.length : Int) = Pl.cmpI (Pl.val 1000000000 xs) (Pl.val 1000000000 ys)) := by
      show _ = _
      rcases (show xs.length < ys.length ∨ ys.length < xs.length by omega) with h | h
      · rw [Pl.cmp_less h, Pl.cmp_less (Pl.val_lt_of_len (by decide) hx ty h)]
      · rw [Pl.cmp_more h, Pl.cmp_more (Pl.val_lt_of_len (by decide) hy tx h)]
    clear hl
    go_enter Tryd.func76, Tryd.ntmps76
    go_wp2_with fail
    refine (w_CompareInt _ _ _).mono ?_
    rintro e w1 ⟨rfl, rfl⟩
    rw [HX.out]
    go_wp2_with fail
    go_ret
    exact ⟨rfl, Below.refl _ _⟩

theorem clone_below {w w1 : World} {o : Obj} (hg : (w.alloc o).grownBy w1 (some w.heap.size)) : Below w.heap.size w w1 :=
  ((Below.refl w.heap.size w).alloc (Nat.le_refl _) o).trans (below_grown hg (Nat.le_refl _) (by simp))

theorem own_row {w : World} {base : Nat} {v : Value} {n : Nat} {xs : List Nat} (h : w.ownsRow base 76 1 v n (vals .u64 xs)) (hp : 0 < xs.length) : ∃ g cap, v = .slice (some ⟨g, 0, none⟩) xs.length cap ∧ xs.length ≤ cap ∧ base ≤ g ∧ Row w g xs := by
  obtain ⟨hl, h⟩ := h
  have hn : xs.length = n := by rw [vals_len] at hl; omega
  rcases h with ⟨rfl, rfl⟩ | ⟨g, cap, cur, rfl, hg, hh, hcap, hm, hcs, ht⟩
  · omega
  · refine ⟨g, cap, by rw [hn], by omega, hg, cur.toList.drop n, ?_⟩
    have e : (vals .u64 xs ++ cur.toList.drop n).toArray = cur := by
      rw [← ht, Nat.mul_one, List.take_append_drop]
    rw [e]; exact hh

set_option maxHeartbeats 800000 in
theorem w_Clone (va : Value) (xs : List Nat) (w : World) (ha : Nums .u64 w va xs) (hm : xs.length ≤ 274877906944) :
    Calls Tryd.prog 98 #[va] w fun e w' => ∃ v, e = .returned v ∧ Nums .u64 w' v xs ∧ Below w.heap.size w w' ∧ (0 < xs.length → ∃ g cap, v = .slice (some ⟨g, 0, none⟩) xs.length cap ∧ xs.length ≤ cap ∧ w.heap.size ≤ g ∧ Row w' g xs) ∧ (∀ k, v.ownBlock = some k → w.heap.size ≤ k) := by
  obtain ⟨i0, hi0, hz0, hz1, hz2⟩ := info_parts Tryd.infoU
  have hown : (w.alloc (.cells #[] 76)).ownsRow w.heap.size 76 1 (.slice (some ⟨w.heap.size, 0, none⟩) 0 0) 0 [] :=
    ⟨rfl, Or.inr ⟨w.heap.size, 0, #[], rfl, Nat.le_refl _, heap_alloc_new w _, Nat.le_refl _, Nat.zero_le _, rfl, rfl⟩⟩
  rcases ha.open' with ⟨rfl, ao, cap, rfl, hblk⟩ | ⟨hp, b, off, cap, rfl, hc, hlt, hcell⟩
  · cases ao with
    | none =>
      have hnil := fun (w : World) => Lib.run_eql_slice_nil (P := Tryd.prog) w 56 76 none 0 cap 0 0 Tryd.underlying56
      go_enter Tryd.func98, Tryd.ntmps98
      go_wp2
      go_ret
      exact ⟨_, rfl, Nums.nil _ _ _ _ (fun a e => by cases e), Below.refl _ _, fun h => by simp at h, fun k h => by cases h⟩
    | some a =>
      have hnil := fun (w : World) => Lib.run_eql_slice_nil (P := Tryd.prog) w 56 76 (some a) 0 cap 0 0 Tryd.underlying56
      go_enter Tryd.func98, Tryd.ntmps98
      go_wp2_with (at_builtin; refine wpList_append_own _ rfl _ _ 56 rfl w.heap.size 76 i0 (.int .u64 0) 1 8 Tryd.underlying56 hi0 hz0 hz1 hz2 rfl (by decide) _ _ _ rfl hown a 0 cap [] rfl rfl (by intro j u hj; simp at hj) (by intro u hu; simp at hu) (by decide) (by decide) (by simp) ?_)
      intro v' w1 hown' hgrow _
      have HN := Hid.mk (own_nums (k := .u64) (xs := []) hown')
      have HB := Hid.mk (clone_below hgrow)
      have HO := Hid.mk (own_base hown')
      go_wp2_with fail
      obtain ⟨ao', cap', hvv, q1, q2⟩ := HN.out
      clear q1 q2
      subst hvv
      go_wp2_with fail
      go_ret
      exact ⟨_, rfl, HN.out, HB.out, fun h => by simp at h, HO.out⟩
  · have hnil := fun (w : World) => Lib.run_eql_slice_nil (P := Tryd.prog) w 56 76 (some ⟨b, off, none⟩) xs.length cap 0 0 Tryd.underlying56
    have hnews : ∀ j u, (vals .u64 xs)[j]? = some u → (w.alloc (.cells #[] 76)).cell? ((⟨b, off, none⟩ : Addr).add j) = some u := by
      intro j u hj
      have hj' : j < xs.length := by
        have := (List.getElem?_eq_some_iff.1 hj).1
        rwa [vals_len] at this
      rw [vals_get .u64 xs j hj'] at hj
      rw [← hj, add_off, ← hcell j hj']
      exact ((Below.refl w.heap.size w).alloc (Nat.le_refl _) _).cell (p := ⟨b, off + j, none⟩) hlt
    clear hcell
    go_enter Tryd.func98, Tryd.ntmps98
    go_wp2_with (at_builtin; refine wpList_append_own _ rfl _ _ 56 rfl w.heap.size 76 i0 (.int .u64 0) 1 8 Tryd.underlying56 hi0 hz0 hz1 hz2 rfl (by decide) _ _ _ rfl hown ⟨b, off, none⟩ xs.length cap (vals .u64 xs) rfl (by rw [vals_len]; omega) hnews (vals_one _ _) (by unfold maxLen; omega) (by omega) (by simp) ?_)
    intro v' w1 hown' hgrow _
    have HN := Hid.mk (own_nums (k := .u64) (xs := xs) hown')
    have HB := Hid.mk (clone_below hgrow)
    have HO := Hid.mk (own_base hown')
    have HR := Hid.mk (own_row hown' hp)
    obtain ⟨ao', cap', hvv, q1, q2⟩ := HN.out
    clear q1 q2 hnews
    subst hvv
    go_wp2_with fail
    go_ret
    exact ⟨_, rfl, HN.out, HB.out, fun _ => HR.out, HO.out⟩
end Go.Proofs.YtfcbeohkhljboaaDoor
namespace Go.Proofs.YtfcbeohkhljboaaDoor
open Go.RowKit
set_option linter.unusedVariables false
set_option linter.unusedSimpArgs false

theorem w_take_none (ao : Option Addr) (cap : Nat) (vd : Value) (w : World) :
    Calls Tryd.prog 93 #[.slice ao 0 cap, vd, .int .u64 1] w fun e w' => e = .returned (.bool false) ∧ w' = w := by
  go_enter Tryd.func93, Tryd.ntmps93
  go_wp2
  refine wp_loop_rounds 1 ?_
  rw [rounds_succ]
  go_wp2
  go_ret
  exact ⟨rfl, rfl⟩

set_option maxHeartbeats 1600000 in
theorem w_difference (va vb : Value) (xs ys : List Nat) (w : World) (ha : Nums .u64 w va xs) (hb : Nums .u64 w vb ys) (hma : xs.length ≤ 274877906944) (hx : Pl.dig 1000000000 xs) (hy : Pl.dig 1000000000 ys) (ty : Pl.Top ys) (hle : Pl.val 1000000000 ys ≤ Pl.val 1000000000 xs) :
    Calls Tryd.prog 80 #[va, vb] w fun e w' => ∃ v zs, e = .returned v ∧ Fresh w w' v zs ∧ Pl.val 1000000000 zs + Pl.val 1000000000 ys = Pl.val 1000000000 xs := by
  have hll : ys.length ≤ xs.length := by
    rcases Nat.lt_or_ge xs.length ys.length with h | h
    · have := Pl.val_lt_of_len (by decide) hx ty h; omega
    · exact h
  have HA := Hid.mk ha
  have HB := Hid.mk hb
  obtain ⟨ao, capa, rfl, q1, q2⟩ := ha
  clear q1 q2
  obtain ⟨bo, capb, rfl, q1, q2⟩ := hb
  clear q1 q2
  go_enter Tryd.func80, Tryd.ntmps80
  go_wp2_with fail
  refine (w_Clone _ xs w HA.out hma).mono ?_
  rintro e w1 ⟨v, rfl, hn, hb1, hrow, hown⟩
  have HB1 := Hid.mk (HB.out.keep hb1)
  by_cases hp : 0 < xs.length
  · obtain ⟨g, cap, rfl, hcap, hg, hr⟩ := hrow hp
    have HR := Hid.mk hr
    clear hr hrow hown hn
    have hoff : (Value.slice bo ys.length capb).ownBlock ≠ some g := HB.out.older hg
    have HOff := Hid.mk hoff
    clear hoff
    go_wp2_with fail
    refine (w_takeFrom g 0 xs.length cap _ 1 [] xs [] ys w1 (by simpa using HR.out) rfl rfl hcap (by omega) hx hy HB1.out HOff.out hll (by decide)).mono ?_
    rintro e w2 ⟨short, rfl, htk⟩
    obtain ⟨hg2, rs', c, hl', hd', hrow', hv', hsh, hiff⟩ := htk
    have hc0 : c = 0 := by
      rcases Nat.eq_zero_or_pos c with h | h
      · exact h
      · have := hiff.1 h; omega
    subst hc0
    have HVal : Hid (Pl.val 1000000000 (Pl.trimN rs') + Pl.val 1000000000 ys = Pl.val 1000000000 xs) := by
      show _ = _
      rw [Pl.val_trim]; simpa using hv'
    go_wp2_with fail
    refine (w_tTrim _ rs' _ (hrow'.nums (pre := []) (post := []) rfl rfl hl' hcap) (by unfold maxLen; omega)).mono ?_
    rintro e w3 ⟨v', rfl, rfl, hn', ho'⟩
    have HF := Hid.mk (fresh_of (hb1.trans (below_grown hg2 hg hb1.size)) hg hd' hn' ho' rfl)
    obtain ⟨ao', cap', hvv, q1, q2⟩ := hn'
    clear q1 q2 hl' hd' hrow' hv' hg2 ho' hsh hiff
    subst hvv
    go_wp2_with fail
    go_ret
    exact ⟨_, _, rfl, HF.out, HVal.out⟩
  · obtain rfl : xs = [] := List.eq_nil_of_length_eq_zero (by omega)
    obtain rfl : ys = [] := List.eq_nil_of_length_eq_zero (by simpa using hll)
    have HN := Hid.mk hn
    have HO := Hid.mk hown
    obtain ⟨ao', cap', rfl, q1, q2⟩ := hn
    clear q1 q2 hrow hown
    go_wp2_with fail
    refine (w_take_none ao' cap' _ w1).mono ?_
    rintro e w2 ⟨rfl, rfl⟩
    go_wp2_with fail
    refine (w_tTrim _ [] _ HN.out (by decide)).mono ?_
    rintro e w3 ⟨v', rfl, rfl, hn', ho'⟩
    have HF : Hid (Fresh w w3 v' (Pl.trimN [])) := ⟨hn', Pl.dig_nil _, rfl, hb1, fun k hk => HO.out k (by rw [← ho']; exact hk)⟩
    obtain ⟨ao2, cap2, hvv, q1, q2⟩ := hn'
    clear q1 q2 ho'
    subst hvv
    go_wp2_with fail
    go_ret
    exact ⟨_, _, rfl, HF.out, rfl⟩
end Go.Proofs.YtfcbeohkhljboaaDoor
namespace Go.Proofs.YtfcbeohkhljboaaDoor
open Go.RowKit
set_option linter.unusedVariables false
set_option linter.unusedSimpArgs false

/-- while a row is divided by one group: from place k on -/
structure DivSt (w wr : World) (g n : Nat) (xs : List Nat) (b k l : Nat) : Prop where
  out : ∃ qs : List Nat, qs.length = n - k ∧ Pl.dig 1000000000 qs ∧ Row wr g (List.replicate k 0 ++ qs) ∧ Below w.heap.size w wr ∧ w.heap.size < wr.heap.size ∧ Pl.val 1000000000 qs * b + l = Pl.val 1000000000 (xs.drop k)

theorem set_zeros (m q : Nat) (qs : List Nat) : (List.replicate (m + 1) 0 ++ qs).set m q = List.replicate m 0 ++ (q :: qs) := by
  induction m with
  | zero => rfl
  | succ m ih => rw [List.replicate_succ, List.cons_append, List.set_cons_succ, ih]; rfl

theorem DivSt.step {w wr : World} {g n : Nat} {xs : List Nat} {b m l : Nat} (h : DivSt w wr g n xs b (m + 1) l) (hg : g = w.heap.size) (hm : m < xs.length) (hn : xs.length = n) (hb : 0 < b) (hl : l < b) (hx : Pl.dig 1000000000 xs) :
    DivSt w (wr.setCell ⟨g, m, none⟩ (.int .u64 (((l * 1000000000 + xs.getD m 0) / b : Nat) : Int))) g n xs b m ((l * 1000000000 + xs.getD m 0) % b) := by
  obtain ⟨qs, hq, hd, hrow, hbw, hs, hv⟩ := h.out
  obtain ⟨x, t, h1, h2, h3⟩ := Pl.drop_parts hm
  have hxm := Pl.dig_getD (by decide) hx m
  rw [h2] at hxm ⊢
  have hlt : (l * 1000000000 + x) / b < 1000000000 := by
    rw [Nat.div_lt_iff_lt_mul hb]
    have : (l + 1) * 1000000000 ≤ b * 1000000000 := Nat.mul_le_mul_right _ hl
    have e : 1000000000 * b = b * 1000000000 := Nat.mul_comm _ _
    omega
  refine ⟨((l * 1000000000 + x) / b) :: qs, by simp [hq]; omega, Pl.dig_cons.2 ⟨hlt, hd⟩, ?_, hbw.setCell (by simp [hg]) _, by simpa using hs, ?_⟩
  · have := hrow.set m ((l * 1000000000 + x) / b) (by simp; omega)
    rwa [set_zeros] at this
  · rw [h1, Pl.val_cons, Pl.val_cons, ← h3, ← hv]
    have e1 := Nat.div_add_mod (l * 1000000000 + x) b
    generalize (l * 1000000000 + x) / b = q at *
    generalize (l * 1000000000 + x) % b = r at *
    rw [Nat.add_mul, Nat.mul_add, Nat.mul_assoc]
    have e2 : b * q = q * b := Nat.mul_comm _ _
    omega

theorem DivSt.free {w wr : World} {g n : Nat} {xs : List Nat} {b m l : Nat} (h : DivSt w wr g n xs b (m + 1) l) : (∃ v, wr.cell? ⟨g, m, none⟩ = some v) ∧ wr.frozen? ⟨g, m, none⟩ = false := by
  obtain ⟨qs, hq, hd, hrow, hbw, hs, hv⟩ := h.out
  exact ⟨⟨_, hrow.cell m (by simp; omega)⟩, hrow.free _⟩

set_option maxHeartbeats 1600000 in
theorem w_divideByGroup (va : Value) (xs : List Nat) (b : Nat) (w : World) (ha : Nums .u64 w va xs) (hma : xs.length ≤ 274877906944) (hx : Pl.dig 1000000000 xs) (hb : 0 < b) (hbB : b < 1000000000) :
    Calls Tryd.prog 74 #[va, .int .u64 (b : Int)] w fun e w' => ∃ v zs l, e = .returned (.tuple #[v, .int .u64 ((l : Nat) : Int)]) ∧ Fresh w w' v zs ∧ Pl.val 1000000000 zs * b + l = Pl.val 1000000000 xs ∧ l < b := by
  have HA := Hid.mk ha
  obtain ⟨ao, capa, rfl, q1, q2⟩ := ha
  clear q1 q2
  have hmk := fun (u : World) => run_make_row' xs.length (xs.length : Int) rfl (by omega) u
  have HS : Hid (DivSt w (w.alloc (zrow xs.length)) w.heap.size xs.length xs b xs.length 0) :=
    ⟨⟨[], by simp, Pl.dig_nil _, by simpa using row_new w xs.length, (Below.refl _ _).alloc (Nat.le_refl _) _, by simp, by rw [List.drop_eq_nil_of_le (Nat.le_refl _)]; simp [Pl.val]⟩⟩
  generalize hn : xs.length = n at *
  have HN := Hid.mk hn
  clear hn
  go_enter Tryd.func74, Tryd.ntmps74
  go_wp2
  go_loopw [5, 6] (fun l i wr => ∃ (k ll : Nat), k ≤ n ∧ i = .int .i64 ((k : Int) - 1) ∧ l = .int .u64 (ll : Int) ∧ ll < b ∧ Hid (DivSt w wr w.heap.size n xs b k ll)) (fun _ i _ => (intOf i + 1).toNat)
  case atStart => exact ⟨n, 0, Nat.le_refl _, rfl, rfl, hb, HS⟩
  case round =>
    obtain ⟨k, ll, hk, rfl, rfl, hll, HD⟩ := hrel
    cases k with
    | zero =>
      obtain ⟨qs, hq, hd, hrow, hbw, hs, hv⟩ := HD.out.out
      have hnum : Nums .u64 wr (.slice (some ⟨w.heap.size, 0, none⟩) n n) qs := hrow.nums (pre := []) (post := []) (by simp) rfl (by simpa using hq) (Nat.le_refl _)
      have HNum := Hid.mk hnum
      have HV := Hid.mk hv
      have HQ := Hid.mk hq
      clear hnum hv hrow hq
      rw [show ((0 : Nat) : Int) - 1 = -1 from rfl]
      go_wp2_with fail
      refine (w_tTrim _ qs _ HNum.out (by have := HQ.out; unfold maxLen; omega)).mono ?_
      rintro e w3 ⟨v', rfl, rfl, hn', ho'⟩
      have HF := Hid.mk (fresh_of hbw (Nat.le_refl _) hd hn' ho' rfl)
      have HVal : Hid (Pl.val 1000000000 (Pl.trimN qs) * b + ll = Pl.val 1000000000 xs) := by
        show _ = _
        rw [Pl.val_trim]; exact HV.out
      obtain ⟨ao', cap', hvv, q1, q2⟩ := hn'
      clear q1 q2 ho'
      subst hvv
      go_wp2_with fail
      go_ret2
      exact ⟨_, _, ll, rfl, HF.out, HVal.out, hll⟩
    | succ m =>
      rw [show ((m + 1 : Nat) : Int) - 1 = (m : Int) by omega]
      have hm1 : (m : Int) < (n : Int) := by omega
      obtain ⟨⟨vo, c1⟩, f1⟩ := HD.out.free
      have hxm := Pl.dig_getD (by decide) hx m
      obtain ⟨bb, off, hao, hbl, cx⟩ : ∃ bb off, ao = some ⟨bb, off, none⟩ ∧ bb < w.heap.size ∧ wr.cell? ⟨bb, off + m, none⟩ = some (.int .u64 ((xs.getD m 0 : Nat) : Int)) := by
        obtain ⟨qs, hq, hd, hrow, hbw, hs, hv⟩ := HD.out.out
        rcases HA.out.open' with ⟨e, _⟩ | ⟨hp, bb, off, cap, e, hc, hlt, hcell⟩
        · have := HN.out; rw [e] at this; simp at this; omega
        · cases e
          exact ⟨bb, off, rfl, hlt, (hbw.cell (p := ⟨bb, off + m, none⟩) hlt).trans (hcell m (by have := HN.out; omega))⟩
      subst hao
      obtain ⟨x, hxx⟩ : ∃ x, x = xs.getD m 0 := ⟨_, rfl⟩
      rw [← hxx] at cx hxm
      have HX := Hid.mk hxx
      clear hxx
      have hb0 : (((b : Nat) : Int) == 0) = false := by simp; omega
      have hl1 : ll * 1000000000 + x < 1000000000000000000 := by omega
      go_wp2
      go_roundw
      case measure => simp [intOf]
      refine ⟨m, (ll * 1000000000 + x) % b, by omega, rfl, ?_, Nat.mod_lt _ hb, ?_⟩
      · exact int_eq (by simp)
      · rw [show ((ll : Int) * 1000000000 + (x : Int)) / (b : Int) = (((ll * 1000000000 + x) / b : Nat) : Int) by simp, HX.out]
        exact HD.out.step rfl (by have := HN.out; omega) HN.out hb hll hx
end Go.Proofs.YtfcbeohkhljboaaDoor
