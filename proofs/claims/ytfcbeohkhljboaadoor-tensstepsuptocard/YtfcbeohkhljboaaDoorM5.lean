import Derived.Test.YtfcbeohkhljboaaDoorM4
import Derived.Deep.RegionHeld3
import Derived.Deep.AppendLies
namespace Go.Proofs.YtfcbeohkhljboaaDoor
open Go.RowKit
set_option linter.unusedVariables false
set_option linter.unusedSimpArgs false

set_option maxHeartbeats 800000 in
theorem w_size (va vb : Value) (xs ys : List Nat) (w : World) (ha : Nums .i64 w va xs) (hb : Nums .i64 w vb ys) (hm : xs.length ≤ maxLen) (hm2 : ys.length ≤ maxLen) (B : Nat) (hB : 0 < B) (hx : Pl.dig B xs) (hy : Pl.dig B ys) (tx : Pl.Top xs) (ty : Pl.Top ys) :
    Calls Tryd.prog 51 #[va, vb] w fun e w' => e = .returned (.int .i64 (Pl.cmpI (Pl.val B xs) (Pl.val B ys))) ∧ Below w.heap.size w w' := by
  by_cases hl : xs.length = ys.length
  · exact w_size_eq va vb xs ys w ha hb hl hm B hx hy
  · unfold maxLen at hm hm2
    obtain ⟨ao, cap, rfl, q1, q2⟩ := ha
    clear q1 q2
    obtain ⟨ao2, cap2, rfl, q1, q2⟩ := hb
    clear q1 q2
    have hne : (((xs.length : Nat) : Int) != ((ys.length : Nat) : Int)) = true := by rw [bne_iff_ne]; omega
    rcases (show xs.length < ys.length ∨ ys.length < xs.length by omega) with h | h
    · have HX : Hid (Pl.cmpI (Pl.val B xs) (Pl.val B ys) = -1) := Pl.cmp_less (Pl.val_lt_of_len hB hx ty h)
      clear hl
      go_enter Tryd.func51, Tryd.ntmps51
      go_wp2
      go_ret
      exact ⟨by rw [HX.out]; rfl, Below.refl _ _⟩
    · have HX : Hid (Pl.cmpI (Pl.val B xs) (Pl.val B ys) = 1) := Pl.cmp_more (Pl.val_lt_of_len hB hy tx h)
      clear hl
      have h' : ¬ xs.length < ys.length := by omega
      go_enter Tryd.func51, Tryd.ntmps51
      go_wp2
      go_ret
      exact ⟨by rw [HX.out]; rfl, Below.refl _ _⟩

set_option maxHeartbeats 800000 in
theorem w_trim (bl : Bool) (v : Value) (xs : List Nat) (w : World) (ha : Nums .i64 w v xs) (hm : xs.length ≤ maxLen) :
    Calls Tryd.prog 46 #[.agg #[.bool bl, v]] w fun e w' => e = .returned (.agg #[.bool (bl && decide (0 < (Pl.trimN xs).length)), resl v (Pl.trimN xs).length]) ∧ Below w.heap.size w w' := by
  unfold maxLen at hm
  rcases ha.open' with ⟨rfl, ao, cap, rfl, hblk⟩ | ⟨hp, b, off, cap, rfl, hc, hlt, hcell⟩
  · cases bl
    all_goals
      go_enter Tryd.func46, Tryd.ntmps46
      go_wp2
      refine wp_loop_rounds 1 ?_
      rw [rounds_succ]
      go_wp2
      go_region
      all_goals go_wp2
    all_goals
      refine bodyPost_ret (v := .agg #[.bool false, .slice ao 0 cap]) (by simp [results, Tryd.results46, go_sem]) rfl ⟨rfl, ?_⟩
      · exact (((Below.refl _ _).alloc (Nat.le_refl _) _).alloc (by simp) _).drew
  · generalize hn : xs.length = n at *
    have HN := Hid.mk hn
    clear hn
    go_enter Tryd.func46, Tryd.ntmps46
    go_wp2
    go_loop [3] (fun i => ∃ k : Nat, k ≤ n ∧ i = .int .i64 k ∧ Hid (∀ j, k ≤ j → xs.getD j 0 = 0)) (fun i => (intOf i).toNat)
    case atStart => exact ⟨n, Nat.le_refl _, rfl, fun j hj => Pl.getD_past (by rw [HN.out]; exact hj)⟩
    case round =>
      obtain ⟨k, hk, rfl, HA⟩ := hrel
      cases k with
      | zero =>
        have HT : Hid (Pl.trimN xs = []) := by
          have := Pl.trim_take xs 0 (Nat.zero_le _) HA.out (Or.inl rfl)
          show _ = _
          simpa using this
        cases bl
        all_goals
          go_wp2
          go_region
          all_goals go_wp2
          all_goals (refine bodyPost_ret (v := .agg #[.bool false, .slice (some ⟨b, off, none⟩) 0 cap]) (by simp [results, Tryd.results46, go_sem]) rfl ⟨by rw [HT.out]; rfl, ?_⟩)
          · exact (((Below.refl _ _).alloc (Nat.le_refl _) _).alloc (by simp) _).drew
      | succ m =>
        have hbw : ∀ o1 o2, Below w.heap.size w ((w.alloc o1).alloc o2) := fun o1 o2 => ((Below.refl _ _).alloc (Nat.le_refl _) _).alloc (by simp) _
        have cx : ∀ o1 o2, ((w.alloc o1).alloc o2).cell? ⟨b, off + m, none⟩ = some (.int .i64 ((xs.getD m 0 : Nat) : Int)) := fun o1 o2 => ((hbw o1 o2).cell (p := ⟨b, off + m, none⟩) hlt).trans (hcell m (by omega))
        have hm1 : (m : Int) < (n : Int) := by omega
        obtain ⟨x, hxx⟩ : ∃ x, x = xs.getD m 0 := ⟨_, rfl⟩
        rw [← hxx] at cx
        have HXX := Hid.mk hxx
        have HC := Hid.mk hcell
        clear hxx hcell
        by_cases h0 : x = 0
        · have HE : Hid (∀ j, m ≤ j → xs.getD j 0 = 0) := by
            intro j hj
            by_cases e : j = m
            · subst e; rw [← HXX.out]; exact h0
            · exact HA.out j (by omega)
          have hb0 : (((x : Nat) : Int) == 0) = true := by simp [h0]
          clear h0
          go_wp2
          go_round
          case rel => exact ⟨m, by omega, by go_num, HE⟩
          case measure => simp [intOf]
        · have hb0 : (((x : Nat) : Int) == 0) = false := by simp [h0]
          have HT : Hid (Pl.trimN xs = xs.take (m + 1)) := Pl.trim_take xs (m + 1) (by rw [HN.out]; exact hk) HA.out (Or.inr (by rw [Nat.add_sub_cancel, ← HXX.out]; exact h0))
          clear h0
          cases bl
          all_goals
            go_wp2
            go_region
            all_goals go_wp2
          · refine bodyPost_ret (v := .agg #[.bool false, .slice (some ⟨b, off, none⟩) (m + 1) cap]) (by simp [results, Tryd.results46, go_sem]) rfl ⟨by rw [HT.out, List.length_take, HN.out, Nat.min_eq_left hk]; rfl, ?_⟩
            · exact (((Below.refl _ _).alloc (Nat.le_refl _) _).alloc (by simp) _).drew
          · refine bodyPost_ret (v := .agg #[.bool true, .slice (some ⟨b, off, none⟩) (m + 1) cap]) (by simp [results, Tryd.results46, go_sem]) rfl ⟨by rw [HT.out, List.length_take, HN.out, Nat.min_eq_left hk]; rfl, ?_⟩
            · exact (((Below.refl _ _).alloc (Nat.le_refl _) _).alloc (by simp) _).drew
end Go.Proofs.YtfcbeohkhljboaaDoor
namespace Go.Proofs.YtfcbeohkhljboaaDoor
open Go.RowKit
set_option linter.unusedVariables false
set_option linter.unusedSimpArgs false

theorem keep2 {w : World} (o1 o2 : Obj) : Below w.heap.size w ((w.alloc o1).alloc o2) := ((Below.refl _ _).alloc (Nat.le_refl _) _).alloc (by simp) _

set_option maxHeartbeats 800000 in
theorem w_order (ba bb : Bool) (va vb : Value) (xs ys : List Nat) (w : World) (ha : Nums .i64 w va xs) (hb : Nums .i64 w vb ys) (hm : xs.length ≤ maxLen) (hm2 : ys.length ≤ maxLen) (B : Nat) (hB : 0 < B) (hx : Pl.dig B xs) (hy : Pl.dig B ys) (tx : Pl.Top xs) (ty : Pl.Top ys) :
    Calls Tryd.prog 64 #[.agg #[.bool ba, va], .agg #[.bool bb, vb]] w fun e w' => e = .returned (.int .i64 (Pl.ordI ba bb (Pl.cmpI (Pl.val B xs) (Pl.val B ys)))) ∧ Below w.heap.size w w' := by
  have hc1 := Pl.cmpI_bd (Pl.val B xs) (Pl.val B ys)
  have hA := fun o1 o2 => ha.keep (keep2 (w := w) o1 o2)
  have hB' := fun o1 o2 => hb.keep (keep2 (w := w) o1 o2)
  obtain ⟨ao, cap, rfl, q1, q2⟩ := ha
  clear q1 q2
  obtain ⟨ao2, cap2, rfl, q1, q2⟩ := hb
  clear q1 q2
  cases ba <;> cases bb
  · go_enter Tryd.func64, Tryd.ntmps64
    go_wp2_with fail
    refine (w_size _ _ xs ys _ (hA _ _) (hB' _ _) hm hm2 B hB hx hy tx ty).mono ?_
    rintro e w1 ⟨rfl, hb1⟩
    go_wp2_with fail
    go_ret
    exact ⟨rfl, (keep2 _ _).trans (hb1.mono (by simp; omega))⟩
  · go_enter Tryd.func64, Tryd.ntmps64
    go_wp2_with fail
    go_ret
    exact ⟨rfl, keep2 _ _⟩
  · go_enter Tryd.func64, Tryd.ntmps64
    go_wp2_with fail
    go_ret
    exact ⟨rfl, keep2 _ _⟩
  · go_enter Tryd.func64, Tryd.ntmps64
    go_wp2_with fail
    refine (w_size _ _ xs ys _ (hA _ _) (hB' _ _) hm hm2 B hB hx hy tx ty).mono ?_
    rintro e w1 ⟨rfl, hb1⟩
    generalize hcc : Pl.cmpI (Pl.val B xs) (Pl.val B ys) = c at hc1 ⊢
    have HCC := Hid.mk hcc
    clear hcc
    obtain ⟨hc1, hc2⟩ := hc1
    go_wp2_with fail
    go_ret
    exact ⟨by rw [HCC.out]; rfl, (keep2 _ _).trans (hb1.mono (by simp; omega))⟩
end Go.Proofs.YtfcbeohkhljboaaDoor
