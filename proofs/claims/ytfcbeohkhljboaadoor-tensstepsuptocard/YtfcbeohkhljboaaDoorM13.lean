import Derived.Test.YtfcbeohkhljboaaDoorM12
import Derived.Test.YtfcbeohkhljboaaDoorM1
import Derived.Laws.CopyOwn
import Derived.Laws.MakeOwn
namespace Go.Proofs.YtfcbeohkhljboaaDoor
open Go.RowKit
set_option linter.unusedVariables false
set_option linter.unusedSimpArgs false

theorem Tryd.infoU : (Tryd.prog.info? 76).map (fun i => (i.zero, i.size, i.bytes)) = some (some (.int .u64 0), 1, 8) := by kernel_rfl

/-- a new row of noughts -/
def zrow (n : Nat) : Obj := .cells (vals .u64 (List.replicate n 0)).toArray 76 (0, 0)

theorem made_zeros (n : Nat) : madeCells #[.int .u64 0] n = (vals .u64 (List.replicate n 0)).toArray := by
  unfold madeCells vals
  apply Array.ext
  · simp
  · intro i h1 h2
    have e : i % 1 = 0 := by omega
    simp [e]

theorem run_make_row (n : Nat) (hn : n ≤ 1099511627776) (u : World) : (Instr.makeSlice 56 (.int .i64 (n : Int)) (.int .i64 (n : Int))).run Tryd.prog u = .ok (.slice (some ⟨u.heap.size, 0, none⟩) n n) (u.alloc (zrow n)) := by
  obtain ⟨i0, hi, hz0, hz1, hz2⟩ := info_parts Tryd.infoU
  have h := run_make (P := Tryd.prog) u 56 76 i0 (.int .u64 0) Tryd.underlying56 hi hz0 .i64 .i64 (n : Int) (n : Int) (by omega) (Int.le_refl _) (by rw [hz2]; omega) (by omega)
  have e : ((n : Int)).toNat = n := by omega
  rw [e] at h
  unfold zrow
  rw [← made_zeros]
  simpa [hz1, Value.cells] using h

theorem run_make_row' (n : Nat) (z : Int) (hz : z = (n : Int)) (hn : n ≤ 1099511627776) (u : World) : (Instr.makeSlice 56 (.int .i64 z) (.int .i64 z)).run Tryd.prog u = .ok (.slice (some ⟨u.heap.size, 0, none⟩) n n) (u.alloc (zrow n)) := by
  subst hz; exact run_make_row n hn u
theorem Tryd.oneU : (Tryd.prog.info? 76).map (·.size) = some 1 := by kernel_rfl

theorem row_new (w : World) (n : Nat) : Row (w.alloc (zrow n)) w.heap.size (List.replicate n 0) := by
  refine ⟨[], ?_⟩
  rw [List.append_nil]
  exact heap_alloc_new w _

theorem dig_zeros (B n : Nat) (hB : 0 < B) : Pl.dig B (List.replicate n 0) := by
  intro x hx
  have := (List.mem_replicate.1 hx).2
  omega
theorem val_zeros (B n : Nat) : Pl.val B (List.replicate n 0) = 0 := by
  induction n with
  | zero => rfl
  | succ n ih => rw [List.replicate_succ, Pl.val_cons, ih]; simp

theorem grown_setRow (w : World) (g : Nat) (cs : Array Value) : w.grownBy (w.setRow g cs) (some g) :=
  ⟨rfl, rfl, rfl, by simp [World.setRow], fun k _ hk => setRow_other w g k cs (by intro e; exact hk (by rw [e]))⟩

theorem add_off (b off j : Nat) : (⟨b, off, none⟩ : Addr).add j = ⟨b, off + j, none⟩ := by unfold Addr.add; split <;> simp_all

/-- 'copy(room, d)': room a row that is known whole -/
theorem run_copy_nums (w : World) (g n cap : Nat) (vs : Value) (xs ys : List Nat) (hrow : Row w g xs) (hx : xs.length = n) (hys : Nums .u64 w vs ys) (hl : ys.length ≤ n) :
    ∃ w', (Builtin.copy_ #[56, 56] 3 #[.slice (some ⟨g, 0, none⟩) n cap, vs]).run Tryd.prog w = .ok (goInt ys.length) w' ∧ Hid (Row w' g (ys ++ xs.drop ys.length)) ∧ Hid (w.grownBy w' (some g)) := by
  rcases hys.open' with ⟨rfl, ao, c, rfl, hblk⟩ | ⟨hp, b, off, c, rfl, hc, hlt, hcell⟩
  · exact ⟨w, run_copy_none (P := Tryd.prog) w 56 56 3 76 _ _ n cap 0 c Tryd.underlying56 Tryd.oneU (by simp), by show Row w g _; simpa using hrow, grown_refl _ _⟩
  · obtain ⟨tail, hh⟩ := hrow
    have hsrc : ∀ j v, (vals .u64 ys)[j]? = some v → w.cell? ((⟨b, off, none⟩ : Addr).add j) = some v := by
      intro j v hj
      have hj' : j < ys.length := by
        have := (List.getElem?_eq_some_iff.1 hj).1
        rwa [vals_len] at this
      rw [vals_get .u64 ys j hj'] at hj
      rw [← hj, add_off]
      exact hcell j hj'
    have h := run_copy_row (P := Tryd.prog) w 56 56 3 76 g 0 n cap ⟨b, off, none⟩ ys.length c (vals .u64 xs ++ tail).toArray 76 (vals .u64 ys) Tryd.underlying56 Tryd.oneU hh (by rw [vals_len]; exact (Nat.min_eq_left hl).symm) hsrc (by simp [vals_len]; omega) (vals_one _ _)
    have e : ((vals .u64 xs ++ tail).toArray.toList.take 0 ++ vals .u64 ys ++ (vals .u64 xs ++ tail).toArray.toList.drop (0 + (vals .u64 ys).length)).toArray = (vals .u64 (ys ++ xs.drop ys.length) ++ tail).toArray := by
      rw [vals_append, vals_len, Nat.zero_add, List.drop_append_of_le_length (by rw [vals_len]; omega)]
      simp [vals, List.map_drop]
    rw [e, vals_len] at h
    exact ⟨_, h, ⟨tail, setRow_heap w g _ _ _ _ hh⟩, grown_setRow _ _ _⟩

/-- the same slice, so many of its elements, and no room behind them -/
def resl3 (v : Value) (n : Nat) : Value := match v with
  | .slice ao _ _ => .slice ao n n
  | u => u

theorem Nums.trim3 {k : IntKind} {w : World} {v : Value} {xs : List Nat} (h : Nums k w v xs) : Nums k w (resl3 v (Pl.trimN xs).length) (Pl.trimN xs) := by
  obtain ⟨ao, cap, rfl, hc, hk, hr⟩ := h
  have hl := Pl.trim_len xs
  refine ⟨ao, (Pl.trimN xs).length, rfl, Nat.le_refl _, hk, fun hp => ?_⟩
  obtain ⟨b, off, ha, hlt, hcell⟩ := hr (by omega)
  refine ⟨b, off, ha, hlt, fun i hi => ?_⟩
  rw [← (trim_is_take xs).out, getD_take hi]
  exact hcell i (by omega)

theorem Nums.own3 {k : IntKind} {w : World} {v : Value} {xs : List Nat} (h : Nums k w v xs) (n : Nat) : (resl3 v n).ownBlock = v.ownBlock := by
  obtain ⟨ao, cap, rfl, hc, hk, hr⟩ := h
  cases ao <;> rfl

set_option maxHeartbeats 800000 in
theorem w_tTrimD (v : Value) (xs : List Nat) (w : World) (ha : Nums .u64 w v xs) (hm : xs.length ≤ maxLen) :
    Calls Tryd.prog 71 #[v] w fun e w' => e = .returned (resl3 v (Pl.trimN xs).length) ∧ w' = w := by
  unfold maxLen at hm
  rcases ha.open' with ⟨rfl, ao, cap, rfl, hblk⟩ | ⟨hp, b, off, cap, rfl, hc, hlt, hcell⟩
  · go_enter Tryd.func71, Tryd.ntmps71
    go_wp2
    refine wp_loop_rounds 1 ?_
    rw [rounds_succ]
    go_wp2
    go_ret
    exact ⟨rfl, rfl⟩
  · generalize hn : xs.length = n at *
    have HN := Hid.mk hn
    clear hn
    go_enter Tryd.func71, Tryd.ntmps71
    go_wp2
    go_loop [3] (fun i => ∃ k : Nat, k ≤ n ∧ i = .int .i64 k ∧ Hid (∀ j, k ≤ j → xs.getD j 0 = 0)) (fun i => (intOf i).toNat)
    case atStart => exact ⟨n, Nat.le_refl _, rfl, fun j hj => Pl.getD_past (by rw [HN.out]; exact hj)⟩
    case round =>
      obtain ⟨k, hk, rfl, HA⟩ := hrel
      cases k with
      | zero =>
        have HT : Hid (Pl.trimN xs = []) := by
          have := Pl.trim_take xs 0 (Nat.zero_le _) HA.out (Or.inl rfl)
          show _ = _
          simpa using this
        go_wp2
        go_ret
        exact ⟨by rw [HT.out]; rfl, rfl⟩
      | succ m =>
        have cx : w.cell? ⟨b, off + m, none⟩ = some (.int .u64 ((xs.getD m 0 : Nat) : Int)) := hcell m (by omega)
        have hm1 : (m : Int) < (n : Int) := by omega
        obtain ⟨x, hxx⟩ : ∃ x, x = xs.getD m 0 := ⟨_, rfl⟩
        rw [← hxx] at cx
        have HXX := Hid.mk hxx
        have HC := Hid.mk hcell
        clear hxx hcell
        by_cases h0 : x = 0
        · have HE : Hid (∀ j, m ≤ j → xs.getD j 0 = 0) := by
            intro j hj
            by_cases e : j = m
            · subst e; rw [← HXX.out]; exact h0
            · exact HA.out j (by omega)
          have hb0 : (((x : Nat) : Int) == 0) = true := by simp [h0]
          clear h0
          go_wp2
          go_round
          case rel => exact ⟨m, by omega, by go_num, HE⟩
          case measure => simp [intOf]
        · have hb0 : (((x : Nat) : Int) == 0) = false := by simp [h0]
          have HT : Hid (Pl.trimN xs = xs.take (m + 1)) := Pl.trim_take xs (m + 1) (by rw [HN.out]; exact hk) HA.out (Or.inr (by rw [Nat.add_sub_cancel, ← HXX.out]; exact h0))
          clear h0
          go_wp2
          go_ret
          exact ⟨by rw [HT.out, List.length_take, HN.out, Nat.min_eq_left hk]; rfl, rfl⟩

theorem w_tTrim (v : Value) (xs : List Nat) (w : World) (ha : Nums .u64 w v xs) (hm : xs.length ≤ maxLen) :
    Calls Tryd.prog 71 #[v] w fun e w' => ∃ v', e = .returned v' ∧ w' = w ∧ Nums .u64 w v' (Pl.trimN xs) ∧ v'.ownBlock = v.ownBlock := by
  refine (w_tTrimD v xs w ha hm).mono ?_
  rintro e w' ⟨rfl, rfl⟩
  exact ⟨_, rfl, rfl, ha.trim3, ha.own3 _⟩
end Go.Proofs.YtfcbeohkhljboaaDoor
