import Derived.Test.YtfcbeohkhljboaaDoorM4
import Derived.Deep.AppendLies
namespace Go.Proofs.YtfcbeohkhljboaaDoor
open Go.RowKit
set_option linter.unusedVariables false
set_option linter.unusedSimpArgs false

theorem w_CompareInt (a b : Int) (w : World) :
    Calls Tryd.prog 95 #[.int .i64 a, .int .i64 b] w fun e w' => e = .returned (.int .i64 (Pl.cmpI a b)) ∧ w' = w := by
  by_cases h1 : a < b
  · have HX : Hid (Pl.cmpI a b = -1) := by show _ = _; simp [Pl.cmpI, h1]
    go_enter Tryd.func95, Tryd.ntmps95
    go_wp2
    all_goals (go_ret; exact ⟨by rw [HX.out]; rfl, rfl⟩)
  · by_cases h2 : b < a
    · have HX : Hid (Pl.cmpI a b = 1) := by show _ = _; simp [Pl.cmpI, h1, h2]
      go_enter Tryd.func95, Tryd.ntmps95
      go_wp2
      all_goals (go_ret; exact ⟨by rw [HX.out]; rfl, rfl⟩)
    · have HX : Hid (Pl.cmpI a b = 0) := by show _ = _; simp [Pl.cmpI, h1, h2]
      go_enter Tryd.func95, Tryd.ntmps95
      go_wp2
      all_goals (go_ret; exact ⟨by rw [HX.out]; rfl, rfl⟩)

theorem w_CompareString (a b : ByteArray) (w : World) :
    Calls Tryd.prog 101 #[.string a, .string b] w fun e w' => e = .returned (.int .i64 (Pl.cmpS a.toList b.toList)) ∧ w' = w := by
  cases h1 : Op.bytesLess a.toList b.toList with
  | true =>
    have HX : Hid (Pl.cmpS a.toList b.toList = -1) := by show _ = _; simp [Pl.cmpS, h1]
    go_enter Tryd.func101, Tryd.ntmps101
    go_wp2
    all_goals (go_ret; exact ⟨by rw [HX.out]; rfl, rfl⟩)
  | false =>
    cases h2 : (a.toList == b.toList) with
    | false =>
      have HX : Hid (Pl.cmpS a.toList b.toList = 1) := by show _ = _; simp [Pl.cmpS, h1, h2]
      go_enter Tryd.func101, Tryd.ntmps101
      go_wp2
      all_goals (go_ret; exact ⟨by rw [HX.out]; rfl, rfl⟩)
    | true =>
      have HX : Hid (Pl.cmpS a.toList b.toList = 0) := by show _ = _; simp [Pl.cmpS, h1, h2]
      go_enter Tryd.func101, Tryd.ntmps101
      go_wp2
      all_goals (go_ret; exact ⟨by rw [HX.out]; rfl, rfl⟩)

theorem w_Or2 (b : Nat) (x y : Int) (w : World) (hx : w.cell? ⟨b, 0, none⟩ = some (.int .i64 x)) (hy : w.cell? ⟨b, 1, none⟩ = some (.int .i64 y)) :
    Calls Tryd.prog 100 #[.slice (some ⟨b, 0, none⟩) 2 2] w fun e w' => e = .returned (.int .i64 (Pl.orI x y)) ∧ w' = w := by
  by_cases h : x = 0
  · subst h
    by_cases h2 : y = 0
    · subst h2
      have HX : Hid (Pl.orI 0 0 = 0) := rfl
      go_enter Tryd.func100, Tryd.ntmps100
      go_wp2
      refine wp_loop_rounds 3 ?_
      rw [rounds_succ]
      go_wp2
      rw [rounds_succ]
      go_wp2
      rw [rounds_succ]
      go_wp2
      go_ret
      exact ⟨by rw [HX.out]; rfl, rfl⟩
    · have HX : Hid (Pl.orI 0 y = y) := rfl
      have h3 : (y == 0) = false := by simp [h2]
      have h4 : (y != 0) = true := by simp [h2]
      go_enter Tryd.func100, Tryd.ntmps100
      go_wp2
      refine wp_loop_rounds 2 ?_
      rw [rounds_succ]
      go_wp2
      rw [rounds_succ]
      go_wp2
      go_ret
      exact ⟨by rw [HX.out]; rfl, rfl⟩
  · have HX : Hid (Pl.orI x y = x) := by show _ = _; simp [Pl.orI, h]
    have h3 : (x == 0) = false := by simp [h]
    have h4 : (x != 0) = true := by simp [h]
    go_enter Tryd.func100, Tryd.ntmps100
    go_wp2
    refine wp_loop_rounds 1 ?_
    rw [rounds_succ]
    go_wp2
    go_ret
    exact ⟨by rw [HX.out]; rfl, rfl⟩

theorem w_compareTexts (a b : ByteArray) (w : World) (ha : a.size ≤ maxLen) (hb : b.size ≤ maxLen) :
    Calls Tryd.prog 84 #[.string a, .string b] w fun e w' => e = .returned (.int .i64 (Pl.cmpT a.toList b.toList)) ∧ Below w.heap.size w w' := by
  unfold maxLen at ha hb
  go_enter Tryd.func84, Tryd.ntmps84
  go_wp2_with fail
  refine (w_CompareInt _ _ _).mono ?_
  rintro e w' ⟨rfl, rfl⟩
  go_wp2_with fail
  refine (w_CompareString _ _ _).mono ?_
  rintro e w' ⟨rfl, rfl⟩
  have HT : Hid (Pl.cmpT a.toList b.toList = Pl.orI (Pl.cmpI (a.size : Int) (b.size : Int)) (Pl.cmpS a.toList b.toList)) := Pl.cmpT_eq a b
  generalize Pl.cmpI (a.size : Int) (b.size : Int) = x at HT ⊢
  generalize Pl.cmpS a.toList b.toList = y at HT ⊢
  go_wp2_with fail
  refine (w_Or2 w'.heap.size x y _ (by simp) (by simp)).mono ?_
  rintro e w1 ⟨rfl, rfl⟩
  go_wp2
  go_ret
  exact ⟨by rw [HT.out]; rfl, (Below.refl _ _).alloc (Nat.le_refl _) _⟩
end Go.Proofs.YtfcbeohkhljboaaDoor
namespace Go.Proofs.YtfcbeohkhljboaaDoor
open Go.RowKit
set_option linter.unusedVariables false
set_option linter.unusedSimpArgs false

theorem w_CompareU (a b : Nat) (w : World) :
    Calls Tryd.prog 96 #[.int .u64 (a : Int), .int .u64 (b : Int)] w fun e w' => e = .returned (.int .i64 (Pl.cmpI a b)) ∧ w' = w := by
  by_cases h1 : a < b
  · have HX : Hid (Pl.cmpI a b = -1) := Pl.cmp_less h1
    go_enter Tryd.func96, Tryd.ntmps96
    go_wp2
    all_goals (go_ret; exact ⟨by rw [HX.out]; rfl, rfl⟩)
  · by_cases h2 : b < a
    · have HX : Hid (Pl.cmpI a b = 1) := Pl.cmp_more h2
      go_enter Tryd.func96, Tryd.ntmps96
      go_wp2
      all_goals (go_ret; exact ⟨by rw [HX.out]; rfl, rfl⟩)
    · have HX : Hid (Pl.cmpI a b = 0) := Pl.cmp_eq (by omega)
      go_enter Tryd.func96, Tryd.ntmps96
      go_wp2
      all_goals (go_ret; exact ⟨by rw [HX.out]; rfl, rfl⟩)

set_option maxHeartbeats 800000 in
theorem w_compare (va vb : Value) (xs ys : List Nat) (w : World) (ha : Nums .u64 w va xs) (hb : Nums .u64 w vb ys) (hm : xs.length ≤ maxLen) (hm2 : ys.length ≤ maxLen) (hx : Pl.dig 1000000000 xs) (hy : Pl.dig 1000000000 ys) (tx : Pl.Top xs) (ty : Pl.Top ys) :
    Calls Tryd.prog 76 #[va, vb] w fun e w' => e = .returned (.int .i64 (Pl.cmpI (Pl.val 1000000000 xs) (Pl.val 1000000000 ys))) ∧ Below w.heap.size w w' := by
  unfold maxLen at hm hm2
  by_cases hl : xs.length = ys.length
  · rcases ha.open' with ⟨rfl, ao, cap, rfl, hblk⟩ | ⟨hp, b, off, cap, rfl, hc, hlt, hcell⟩
    · have : ys = [] := List.eq_nil_of_length_eq_zero (by simpa using hl.symm)
      subst this
      rcases hb.open' with ⟨_, ao2, cap2, rfl, hblk2⟩ | ⟨hp, _⟩
      · go_enter Tryd.func76, Tryd.ntmps76
        go_wp2
        refine wp_loop_rounds 1 ?_
        rw [rounds_succ]
        go_wp2
        go_ret
        exact ⟨rfl, Below.refl _ _⟩
      · simp at hp
    · rcases hb.open' with ⟨rfl, _⟩ | ⟨hp2, b2, off2, cap2, rfl, hc2, hlt2, hcell2⟩
      · simp at hl; rw [hl] at hp; simp at hp
      · generalize hn : xs.length = n at *
        have HN := Hid.mk hn
        rw [← hl]
        clear hn
        have HL := Hid.mk hl
        clear hl
        have hne : (((n : Nat) : Int) != ((n : Nat) : Int)) = false := by simp
        go_enter Tryd.func76, Tryd.ntmps76
        go_wp2
        go_loopw [5] (fun i wr => ∃ k : Nat, k ≤ n ∧ i = .int .i64 ((k : Int) - 1) ∧ Below w.heap.size w wr ∧ Hid (∀ j, k ≤ j → xs.getD j 0 = ys.getD j 0)) (fun i _ => (intOf i + 1).toNat)
        case atStart => exact ⟨n, Nat.le_refl _, rfl, Below.refl _ _, Pl.above HN.out (HN.out.trans HL.out)⟩
        case round =>
          obtain ⟨k, hk, rfl, hbw, HA⟩ := hrel
          cases k with
          | zero =>
            have HX : Hid (Pl.cmpI (Pl.val 1000000000 xs) (Pl.val 1000000000 ys) = 0) := Pl.cmp_same (HN.out.trans HL.out) HA.out
            rw [show ((0 : Nat) : Int) - 1 = -1 from rfl]
            go_wp2
            go_ret
            exact ⟨by rw [HX.out]; rfl, hbw⟩
          | succ m =>
            have e1 : ((m + 1 : Nat) : Int) - 1 = (m : Int) := by omega
            rw [e1]
            clear e1
            have cx : wr.cell? ⟨b, off + m, none⟩ = some (.int .u64 ((xs.getD m 0 : Nat) : Int)) := (hbw.cell (p := ⟨b, off + m, none⟩) hlt).trans (hcell m (by omega))
            have cy : wr.cell? ⟨b2, off2 + m, none⟩ = some (.int .u64 ((ys.getD m 0 : Nat) : Int)) := (hbw.cell (p := ⟨b2, off2 + m, none⟩) hlt2).trans (hcell2 m (by have := HL.out; omega))
            have hm1 : (m : Int) < (n : Int) := by omega
            obtain ⟨x, hxx⟩ : ∃ x, x = xs.getD m 0 := ⟨_, rfl⟩
            obtain ⟨y, hyy⟩ : ∃ y, y = ys.getD m 0 := ⟨_, rfl⟩
            rw [← hxx] at cx
            rw [← hyy] at cy
            have HXX := Hid.mk hxx
            have HYY := Hid.mk hyy
            clear hxx hyy hcell hcell2
            by_cases h : x = y
            · have HE : Hid (∀ j, m ≤ j → xs.getD j 0 = ys.getD j 0) := by
                intro j hj
                by_cases e : j = m
                · subst e; rw [← HXX.out, ← HYY.out]; exact h
                · exact HA.out j (by omega)
              have hxy : (((x : Nat) : Int) != ((y : Nat) : Int)) = false := by simp [h]
              clear h
              go_wp2
              go_quiet (fail)
              go_wp2
              go_roundw
              case rel => exact ⟨m, by omega, rfl, below_drewN hbw _, HE⟩
              case measure => simp [intOf]
            · have hxy : (((x : Nat) : Int) != ((y : Nat) : Int)) = true := by rw [bne_iff_ne]; omega
              have HX : Hid (Pl.cmpI (x : Int) (y : Int) = Pl.cmpI (Pl.val 1000000000 xs) (Pl.val 1000000000 ys)) := by
                show _ = _
                rcases (show x < y ∨ y < x by omega) with h | h
                · rw [Pl.cmp_less h, Pl.cmp_less (Pl.val_lt_at m (HN.out.trans HL.out) (by have := HN.out; omega) hx (by rw [← HXX.out, ← HYY.out]; exact h) (fun j hj => HA.out j hj))]
                · rw [Pl.cmp_more h, Pl.cmp_more (Pl.val_lt_at m (HL.out.symm.trans HN.out.symm) (by have := HL.out; omega) hy (by rw [← HXX.out, ← HYY.out]; exact h) (fun j hj => (HA.out j hj).symm))]
              clear h
              go_wp2
              go_quiet (fail)
              replace hbw := below_drewN hbw nq
              replace cx : (wr.drewN nq).cell? ⟨b, off + m, none⟩ = some (.int .u64 (x : Int)) := cx
              replace cy : (wr.drewN nq).cell? ⟨b2, off2 + m, none⟩ = some (.int .u64 (y : Int)) := cy
              generalize wr.drewN nq = wq at *
              go_wp2
              go_quiet ((go_at_call 96; exact Calls.quiet_of_same (w_CompareU _ _ _)))
              go_wp2
              go_ret
              exact ⟨by rw [← HX.out]; rfl, below_drewN hbw _⟩
  · obtain ⟨ao, cap, rfl, q1, q2⟩ := ha
    clear q1 q2
    obtain ⟨ao2, cap2, rfl, q1, q2⟩ := hb
    clear q1 q2
    have hne : (((xs.length : Nat) : Int) != ((ys.length : Nat) : Int)) = true := by rw [bne_iff_ne]; omega
    have HX : Hid (Pl.cmpI (xs.length : Int) (ys.length : Int) = Pl.cmpI (Pl.val 1000000000 xs) (Pl.val 1000000000 ys)) := by
      show _ = _
      rcases (show xs.length < ys.length ∨ ys.length < xs.length by omega) with h | h
      · rw [Pl.cmp_less h, Pl.cmp_less (Pl.val_lt_of_len (by decide) hx ty h)]
      · rw [Pl.cmp_more h, Pl.cmp_more (Pl.val_lt_of_len (by decide) hy tx h)]
    clear hl
    go_enter Tryd.func76, Tryd.ntmps76
    go_wp2_with fail
    refine (w_CompareInt _ _ _).mono ?_
    rintro e w1 ⟨rfl, rfl⟩
    rw [HX.out]
    go_wp2_with fail
    go_ret
    exact ⟨rfl, Below.refl _ _⟩

theorem clone_below {w w1 : World} {o : Obj} (hg : (w.alloc o).grownBy w1 (some w.heap.size)) : Below w.heap.size w w1 :=
  ((Below.refl w.heap.size w).alloc (Nat.le_refl _) o).trans (below_grown hg (Nat.le_refl _) (by simp))

theorem own_row {w : World} {base : Nat} {v : Value} {n : Nat} {xs : List Nat} (h : w.ownsRow base 76 1 v n (vals .u64 xs)) (hp : 0 < xs.length) : ∃ g cap, v = .slice (some ⟨g, 0, none⟩) xs.length cap ∧ xs.length ≤ cap ∧ base ≤ g ∧ Row w g xs := by
  obtain ⟨hl, h⟩ := h
  have hn : xs.length = n := by rw [vals_len] at hl; omega
  rcases h with ⟨rfl, rfl⟩ | ⟨g, cap, cur, rfl, hg, hh, hcap, hm, hcs, ht⟩
  · omega
  · refine ⟨g, cap, by rw [hn], by omega, hg, cur.toList.drop n, ?_⟩
    have e : (vals .u64 xs ++ cur.toList.drop n).toArray = cur := by
      rw [← ht, Nat.mul_one, List.take_append_drop]
    rw [e]; exact hh

set_option maxHeartbeats 800000 in
theorem w_Clone (va : Value) (xs : List Nat) (w : World) (ha : Nums .u64 w va xs) (hm : xs.length ≤ 274877906944) :
    Calls Tryd.prog 98 #[va] w fun e w' => ∃ v, e = .returned v ∧ Nums .u64 w' v xs ∧ Below w.heap.size w w' ∧ (0 < xs.length → ∃ g cap, v = .slice (some ⟨g, 0, none⟩) xs.length cap ∧ xs.length ≤ cap ∧ w.heap.size ≤ g ∧ Row w' g xs) ∧ (∀ k, v.ownBlock = some k → w.heap.size ≤ k) := by
  obtain ⟨i0, hi0, hz0, hz1, hz2⟩ := info_parts Tryd.infoU
  have hown : (w.alloc (.cells #[] 76)).ownsRow w.heap.size 76 1 (.slice (some ⟨w.heap.size, 0, none⟩) 0 0) 0 [] :=
    ⟨rfl, Or.inr ⟨w.heap.size, 0, #[], rfl, Nat.le_refl _, heap_alloc_new w _, Nat.le_refl _, Nat.zero_le _, rfl, rfl⟩⟩
  rcases ha.open' with ⟨rfl, ao, cap, rfl, hblk⟩ | ⟨hp, b, off, cap, rfl, hc, hlt, hcell⟩
  · cases ao with
    | none =>
      have hnil := fun (w : World) => Lib.run_eql_slice_nil (P := Tryd.prog) w 56 76 none 0 cap 0 0 Tryd.underlying56
      go_enter Tryd.func98, Tryd.ntmps98
      go_wp2
      go_ret
      exact ⟨_, rfl, Nums.nil _ _ _ _ (fun a e => by cases e), Below.refl _ _, fun h => by simp at h, fun k h => by cases h⟩
    | some a =>
      have hnil := fun (w : World) => Lib.run_eql_slice_nil (P := Tryd.prog) w 56 76 (some a) 0 cap 0 0 Tryd.underlying56
      go_enter Tryd.func98, Tryd.ntmps98
      go_wp2_with (at_builtin; refine wpList_append_own _ rfl _ _ 56 rfl w.heap.size 76 i0 (.int .u64 0) 1 8 Tryd.underlying56 hi0 hz0 hz1 hz2 rfl (by decide) _ _ _ rfl hown a 0 cap [] rfl rfl (by intro j u hj; simp at hj) (by intro u hu; simp at hu) (by decide) (by decide) (by simp) ?_)
      intro v' w1 hown' hgrow _
      have HN := Hid.mk (own_nums (k := .u64) (xs := []) hown')
      have HB := Hid.mk (clone_below hgrow)
      have HO := Hid.mk (own_base hown')
      go_wp2_with fail
      obtain ⟨ao', cap', hvv, q1, q2⟩ := HN.out
      clear q1 q2
      subst hvv
      go_wp2_with fail
      go_ret
      exact ⟨_, rfl, HN.out, HB.out, fun h => by simp at h, HO.out⟩
  · have hnil := fun (w : World) => Lib.run_eql_slice_nil (P := Tryd.prog) w 56 76 (some ⟨b, off, none⟩) xs.length cap 0 0 Tryd.underlying56
    have hnews : ∀ j u, (vals .u64 xs)[j]? = some u → (w.alloc (.cells #[] 76)).cell? ((⟨b, off, none⟩ : Addr).add j) = some u := by
      intro j u hj
      have hj' : j < xs.length := by
        have := (List.getElem?_eq_some_iff.1 hj).1
        rwa [vals_len] at this
      rw [vals_get .u64 xs j hj'] at hj
      rw [← hj, add_off, ← hcell j hj']
      exact ((Below.refl w.heap.size w).alloc (Nat.le_refl _) _).cell (p := ⟨b, off + j, none⟩) hlt
    clear hcell
    go_enter Tryd.func98, Tryd.ntmps98
    go_wp2_with (at_builtin; refine wpList_append_own _ rfl _ _ 56 rfl w.heap.size 76 i0 (.int .u64 0) 1 8 Tryd.underlying56 hi0 hz0 hz1 hz2 rfl (by decide) _ _ _ rfl hown ⟨b, off, none⟩ xs.length cap (vals .u64 xs) rfl (by rw [vals_len]; omega) hnews (vals_one _ _) (by unfold maxLen; omega) (by omega) (by simp) ?_)
    intro v' w1 hown' hgrow _
    have HN := Hid.mk (own_nums (k := .u64) (xs := xs) hown')
    have HB := Hid.mk (clone_below hgrow)
    have HO := Hid.mk (own_base hown')
    have HR := Hid.mk (own_row hown' hp)
    obtain ⟨ao', cap', hvv, q1, q2⟩ := HN.out
    clear q1 q2 hnews
    subst hvv
    go_wp2_with fail
    go_ret
    exact ⟨_, rfl, HN.out, HB.out, fun _ => HR.out, HO.out⟩
end Go.Proofs.YtfcbeohkhljboaaDoor
