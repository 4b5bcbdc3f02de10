import Derived.Test.YtfcbeohkhljboaaDoorM2
import Derived.Laws.CopyOwn
import Derived.Laws.MakeOwn
namespace Go.Proofs.YtfcbeohkhljboaaDoor
open Go.RowKit
set_option linter.unusedVariables false
set_option linter.unusedSimpArgs false

theorem Tryd.infoU : (Tryd.prog.info? 76).map (fun i => (i.zero, i.size, i.bytes)) = some (some (.int .u64 0), 1, 8) := by kernel_rfl

/-- a new row of noughts -/
def zrow (n : Nat) : Obj := .cells (vals .u64 (List.replicate n 0)).toArray 76 (0, 0)

theorem made_zeros (n : Nat) : madeCells #[.int .u64 0] n = (vals .u64 (List.replicate n 0)).toArray := by
  unfold madeCells vals
  apply Array.ext
  · simp
  · intro i h1 h2
    have e : i % 1 = 0 := by omega
    simp [e]

theorem run_make_row (n : Nat) (hn : n ≤ 1099511627776) (u : World) : (Instr.makeSlice 56 (.int .i64 (n : Int)) (.int .i64 (n : Int))).run Tryd.prog u = .ok (.slice (some ⟨u.heap.size, 0, none⟩) n n) (u.alloc (zrow n)) := by
  obtain ⟨i0, hi, hz0, hz1, hz2⟩ := info_parts Tryd.infoU
  have h := run_make (P := Tryd.prog) u 56 76 i0 (.int .u64 0) Tryd.underlying56 hi hz0 .i64 .i64 (n : Int) (n : Int) (by omega) (Int.le_refl _) (by rw [hz2]; omega) (by omega)
  have e : ((n : Int)).toNat = n := by omega
  rw [e] at h
  unfold zrow
  rw [← made_zeros]
  simpa [hz1, Value.cells] using h

theorem run_make_row' (n : Nat) (z : Int) (hz : z = (n : Int)) (hn : n ≤ 1099511627776) (u : World) : (Instr.makeSlice 56 (.int .i64 z) (.int .i64 z)).run Tryd.prog u = .ok (.slice (some ⟨u.heap.size, 0, none⟩) n n) (u.alloc (zrow n)) := by
  subst hz; exact run_make_row n hn u
theorem Tryd.oneU : (Tryd.prog.info? 76).map (·.size) = some 1 := by kernel_rfl

theorem row_new (w : World) (n : Nat) : Row (w.alloc (zrow n)) w.heap.size (List.replicate n 0) := by
  refine ⟨[], ?_⟩
  rw [List.append_nil]
  exact heap_alloc_new w _

theorem dig_zeros (B n : Nat) (hB : 0 < B) : Pl.dig B (List.replicate n 0) := by
  intro x hx
  have := (List.mem_replicate.1 hx).2
  omega
theorem val_zeros (B n : Nat) : Pl.val B (List.replicate n 0) = 0 := by
  induction n with
  | zero => rfl
  | succ n ih => rw [List.replicate_succ, Pl.val_cons, ih]; simp

theorem grown_setRow (w : World) (g : Nat) (cs : Array Value) : w.grownBy (w.setRow g cs) (some g) :=
  ⟨rfl, rfl, rfl, by simp [World.setRow], fun k _ hk => setRow_other w g k cs (by intro e; exact hk (by rw [e]))⟩

theorem add_off (b off j : Nat) : (⟨b, off, none⟩ : Addr).add j = ⟨b, off + j, none⟩ := by unfold Addr.add; split <;> simp_all

/-- 'copy(room, d)': room a row that is known whole -/
theorem run_copy_nums (w : World) (g n cap : Nat) (vs : Value) (xs ys : List Nat) (hrow : Row w g xs) (hx : xs.length = n) (hys : Nums .u64 w vs ys) (hl : ys.length ≤ n) :
    ∃ w', (Builtin.copy_ #[56, 56] 3 #[.slice (some ⟨g, 0, none⟩) n cap, vs]).run Tryd.prog w = .ok (goInt ys.length) w' ∧ Hid (Row w' g (ys ++ xs.drop ys.length)) ∧ Hid (w.grownBy w' (some g)) := by
  rcases hys.open' with ⟨rfl, ao, c, rfl, hblk⟩ | ⟨hp, b, off, c, rfl, hc, hlt, hcell⟩
  · exact ⟨w, run_copy_none (P := Tryd.prog) w 56 56 3 76 _ _ n cap 0 c Tryd.underlying56 Tryd.oneU (by simp), by show Row w g _; simpa using hrow, grown_refl _ _⟩
  · obtain ⟨tail, hh⟩ := hrow
    have hsrc : ∀ j v, (vals .u64 ys)[j]? = some v → w.cell? ((⟨b, off, none⟩ : Addr).add j) = some v := by
      intro j v hj
      have hj' : j < ys.length := by
        have := (List.getElem?_eq_some_iff.1 hj).1
        rwa [vals_len] at this
      rw [vals_get .u64 ys j hj'] at hj
      rw [← hj, add_off]
      exact hcell j hj'
    have h := run_copy_row (P := Tryd.prog) w 56 56 3 76 g 0 n cap ⟨b, off, none⟩ ys.length c (vals .u64 xs ++ tail).toArray 76 (vals .u64 ys) Tryd.underlying56 Tryd.oneU hh (by rw [vals_len]; exact (Nat.min_eq_left hl).symm) hsrc (by simp [vals_len]; omega) (vals_one _ _)
    have e : ((vals .u64 xs ++ tail).toArray.toList.take 0 ++ vals .u64 ys ++ (vals .u64 xs ++ tail).toArray.toList.drop (0 + (vals .u64 ys).length)).toArray = (vals .u64 (ys ++ xs.drop ys.length) ++ tail).toArray := by
      rw [vals_append, vals_len, Nat.zero_add, List.drop_append_of_le_length (by rw [vals_len]; omega)]
      simp [vals, List.map_drop]
    rw [e, vals_len] at h
    exact ⟨_, h, ⟨tail, setRow_heap w g _ _ _ _ hh⟩, grown_setRow _ _ _⟩

/-- the same slice, so many of its elements, and no room behind them -/
def resl3 (v : Value) (n : Nat) : Value := match v with
  | .slice ao _ _ => .slice ao n n
  | u => u

theorem Nums.trim3 {k : IntKind} {w : World} {v : Value} {xs : List Nat} (h : Nums k w v xs) : Nums k w (resl3 v (Pl.trimN xs).length) (Pl.trimN xs) := by
  obtain ⟨ao, cap, rfl, hc, hk, hr⟩ := h
  have hl := Pl.trim_len xs
  refine ⟨ao, (Pl.trimN xs).length, rfl, Nat.le_refl _, hk, fun hp => ?_⟩
  obtain ⟨b, off, ha, hlt, hcell⟩ := hr (by omega)
  refine ⟨b, off, ha, hlt, fun i hi => ?_⟩
  rw [← (trim_is_take xs).out, getD_take hi]
  exact hcell i (by omega)

theorem Nums.own3 {k : IntKind} {w : World} {v : Value} {xs : List Nat} (h : Nums k w v xs) (n : Nat) : (resl3 v n).ownBlock = v.ownBlock := by
  obtain ⟨ao, cap, rfl, hc, hk, hr⟩ := h
  cases ao <;> rfl

set_option maxHeartbeats 800000 in
theorem w_tTrimD (v : Value) (xs : List Nat) (w : World) (ha : Nums .u64 w v xs) (hm : xs.length ≤ maxLen) :
    Calls Tryd.prog 71 #[v] w fun e w' => e = .returned (resl3 v (Pl.trimN xs).length) ∧ w' = w := by
  unfold maxLen at hm
  rcases ha.open' with ⟨rfl, ao, cap, rfl, hblk⟩ | ⟨hp, b, off, cap, rfl, hc, hlt, hcell⟩
  · go_enter Tryd.func71, Tryd.ntmps71
    go_wp2
    refine wp_loop_rounds 1 ?_
    rw [rounds_succ]
    go_wp2
    go_ret
    exact ⟨rfl, rfl⟩
  · generalize hn : xs.length = n at *
    have HN := Hid.mk hn
    clear hn
    go_enter Tryd.func71, Tryd.ntmps71
    go_wp2
    go_loop [3] (fun i => ∃ k : Nat, k ≤ n ∧ i = .int .i64 k ∧ Hid (∀ j, k ≤ j → xs.getD j 0 = 0)) (fun i => (intOf i).toNat)
    case atStart => exact ⟨n, Nat.le_refl _, rfl, fun j hj => Pl.getD_past (by rw [HN.out]; exact hj)⟩
    case round =>
      obtain ⟨k, hk, rfl, HA⟩ := hrel
      cases k with
      | zero =>
        have HT : Hid (Pl.trimN xs = []) := by
          have := Pl.trim_take xs 0 (Nat.zero_le _) HA.out (Or.inl rfl)
          show _ = _
          simpa using this
        go_wp2
        go_ret
        exact ⟨by rw [HT.out]; rfl, rfl⟩
      | succ m =>
        have cx : w.cell? ⟨b, off + m, none⟩ = some (.int .u64 ((xs.getD m 0 : Nat) : Int)) := hcell m (by omega)
        have hm1 : (m : Int) < (n : Int) := by omega
        obtain ⟨x, hxx⟩ : ∃ x, x = xs.getD m 0 := ⟨_, rfl⟩
        rw [← hxx] at cx
        have HXX := Hid.mk hxx
        have HC := Hid.mk hcell
        clear hxx hcell
        by_cases h0 : x = 0
        · have HE : Hid (∀ j, m ≤ j → xs.getD j 0 = 0) := by
            intro j hj
            by_cases e : j = m
            · subst e; rw [← HXX.out]; exact h0
            · exact HA.out j (by omega)
          have hb0 : (((x : Nat) : Int) == 0) = true := by simp [h0]
          clear h0
          go_wp2
          go_round
          case rel => exact ⟨m, by omega, by go_num, HE⟩
          case measure => simp [intOf]
        · have hb0 : (((x : Nat) : Int) == 0) = false := by simp [h0]
          have HT : Hid (Pl.trimN xs = xs.take (m + 1)) := Pl.trim_take xs (m + 1) (by rw [HN.out]; exact hk) HA.out (Or.inr (by rw [Nat.add_sub_cancel, ← HXX.out]; exact h0))
          clear h0
          go_wp2
          go_ret
          exact ⟨by rw [HT.out, List.length_take, HN.out, Nat.min_eq_left hk]; rfl, rfl⟩

theorem w_tTrim (v : Value) (xs : List Nat) (w : World) (ha : Nums .u64 w v xs) (hm : xs.length ≤ maxLen) :
    Calls Tryd.prog 71 #[v] w fun e w' => ∃ v', e = .returned v' ∧ w' = w ∧ Nums .u64 w v' (Pl.trimN xs) ∧ v'.ownBlock = v.ownBlock := by
  refine (w_tTrimD v xs w ha hm).mono ?_
  rintro e w' ⟨rfl, rfl⟩
  exact ⟨_, rfl, rfl, ha.trim3, ha.own3 _⟩
end Go.Proofs.YtfcbeohkhljboaaDoor
namespace Go.Proofs.YtfcbeohkhljboaaDoor
open Go.RowKit
set_option linter.unusedVariables false
set_option linter.unusedSimpArgs false

theorem int_eq {k : IntKind} {a b : Int} (h : a = b) : Value.int k a = Value.int k b := by rw [h]

/-- while room takes d up: behind i groups -/
structure AddSt (w wr : World) (g : Nat) (pre rs post ds : List Nat) (i c : Nat) : Prop where
  out : ∃ qs : List Nat, qs.length = i ∧ Pl.dig 1000000000 qs ∧ Row wr g (pre ++ (qs ++ rs.drop i) ++ post) ∧ w.grownBy wr (some g) ∧ Pl.val 1000000000 qs + c * 1000000000 ^ i = Pl.val 1000000000 (rs.take i) + Pl.val 1000000000 (ds.take i)

theorem AddSt.step {w wr : World} {g : Nat} {pre rs post ds : List Nat} {i c o x y : Nat} (h : AddSt w wr g pre rs post ds i c) (ho : pre.length = o) (hi : i < rs.length) (hx : x < 1000000000) (hs : x + y * 1000000000 = c + ds.getD i 0 + rs.getD i 0) :
    AddSt w (wr.setCell ⟨g, o + i, none⟩ (.int .u64 (x : Int))) g pre rs post ds (i + 1) y := by
  obtain ⟨qs, hq, hd, hrow, hg, hv⟩ := h.out
  refine ⟨qs ++ [x], by simp [hq], Pl.dig_append.2 ⟨hd, by intro z hz; simp at hz; omega⟩, ?_, grown_trans hg (grown_set _ _ _ _), Pl.add_step hq hv hs⟩
  have := hrow.set (o + i) x (by simp; omega)
  rwa [Pl.mid_set ho hq hi] at this

theorem AddSt.cell {w wr : World} {g : Nat} {pre rs post ds : List Nat} {i c o : Nat} (h : AddSt w wr g pre rs post ds i c) (ho : pre.length = o) (hi : i < rs.length) : wr.cell? ⟨g, o + i, none⟩ = some (.int .u64 ((rs.getD i 0 : Nat) : Int)) ∧ wr.frozen? ⟨g, o + i, none⟩ = false := by
  obtain ⟨qs, hq, hd, hrow, hg, hv⟩ := h.out
  have := hrow.cell (o + i) (by simp; omega)
  rw [Pl.mid_get ho hq hi] at this
  exact ⟨this, hrow.free _⟩

/-- what addTo leaves -/
def Added (w w' : World) (g n : Nat) (pre rs post ds : List Nat) : Prop :=
  w.grownBy w' (some g) ∧ ∃ rs', rs'.length = n ∧ Pl.dig 1000000000 rs' ∧ Row w' g (pre ++ rs' ++ post) ∧ Pl.val 1000000000 rs' = (Pl.val 1000000000 rs + Pl.val 1000000000 ds) % 1000000000 ^ n

set_option maxHeartbeats 1600000 in
theorem w_addTo (g o n cap : Nat) (vd : Value) (pre rs post ds : List Nat) (w : World) (hrow : Row w g (pre ++ rs ++ post)) (ho : pre.length = o) (hn : rs.length = n) (hc : n ≤ cap) (hm : n ≤ 1099511627776) (hdr : Pl.dig 1000000000 rs) (hdd : Pl.dig 1000000000 ds)
    (hds : Nums .u64 w vd ds) (hoff : vd.ownBlock ≠ some g) (hml : ds.length ≤ 1099511627776) :
    Calls Tryd.prog 94 #[.slice (some ⟨g, o, none⟩) n cap, vd] w fun e w' => e = .returned (.tuple #[]) ∧ Added w w' g n pre rs post ds := by
  have hkeep := hds
  obtain ⟨ao, capd, rfl, hcd, hblk, hrd⟩ := hds
  have HRD := Hid.mk hrd
  clear hrd
  generalize hld : ds.length = ld at *
  have HLD := Hid.mk hld
  clear hld
  have HN := Hid.mk hn
  have HO := Hid.mk ho
  clear hn ho
  have HS : Hid (AddSt w w g pre rs post ds 0 0) := ⟨⟨[], rfl, Pl.dig_nil _, by simpa using hrow, grown_refl _ _, by simp [Pl.val]⟩⟩
  go_enter Tryd.func94, Tryd.ntmps94
  go_wp2
  go_loopw [4, 8] (fun c i wr => ∃ (k cc : Nat), k ≤ n ∧ i = .int .i64 k ∧ c = .int .u64 (cc : Int) ∧ cc ≤ 1 ∧ Hid (AddSt w wr g pre rs post ds k cc)) (fun _ i _ => n - (intOf i).toNat)
  case atStart => exact ⟨0, 0, Nat.zero_le _, rfl, rfl, by decide, HS⟩
  case round =>
    obtain ⟨k, cc, hk, rfl, rfl, hcc, HA⟩ := hrel
    by_cases hlt : k < n
    · have hkn : (k : Int) < (n : Int) := by omega
      obtain ⟨c1, f1⟩ := HA.out.cell HO.out (by rw [HN.out]; exact hlt)
      have hr := Pl.dig_getD (by decide) hdr k
      by_cases hld : k < ld
      · have hkl : (k : Int) < (ld : Int) := by omega
        obtain ⟨b, off, hao, hbl, hcell⟩ := HRD.out (by omega)
        have hne : some b ≠ some g := by subst hao; simpa [Value.ownBlock] using hoff
        have cd : wr.cell? ⟨b, off + k, none⟩ = some (.int .u64 ((ds.getD k 0 : Nat) : Int)) := by
          obtain ⟨qs, hq, hd, hrow', hg, hv⟩ := HA.out.out
          rw [hg.cell_far ⟨b, off + k, none⟩ hbl hne]
          exact hcell k hld
        have hd := Pl.dig_getD (by decide) hdd k
        clear hcell hne hoff
        subst hao
        obtain ⟨x, hxx⟩ : ∃ x, x = rs.getD k 0 := ⟨_, rfl⟩
        obtain ⟨y, hyy⟩ : ∃ y, y = ds.getD k 0 := ⟨_, rfl⟩
        rw [← hxx] at c1 hr
        rw [← hyy] at cd hd
        have HX := Hid.mk hxx
        have HY := Hid.mk hyy
        clear hxx hyy
        go_wp2
        go_roundw
        case rel =>
          refine ⟨k + 1, (cc + y + x) / 1000000000, by omega, by go_num, int_eq (by omega), by omega, ?_⟩
          rw [show ((cc : Int) + (y : Int) + (x : Int)) % 1000000000 = (((cc + y + x) % 1000000000 : Nat) : Int) by omega]
          exact HA.out.step HO.out (by rw [HN.out]; exact hlt) (by omega) (by rw [← HX.out, ← HY.out]; omega)
        case measure => simp [intOf]; omega
      · have hkl : ¬ (k : Int) < (ld : Int) := by omega
        have HD0 : Hid (ds.getD k 0 = 0) := Pl.getD_past (by rw [HLD.out]; omega)
        obtain ⟨x, hxx⟩ : ∃ x, x = rs.getD k 0 := ⟨_, rfl⟩
        rw [← hxx] at c1 hr
        have HX := Hid.mk hxx
        clear hxx
        rcases (show cc = 0 ∨ cc = 1 by omega) with h0 | h0
        · subst h0
          have HF : Hid (Added w wr g n pre rs post ds) := by
            obtain ⟨qs, hq, hd, hrow', hg, hv⟩ := HA.out.out
            exact ⟨hg, qs ++ rs.drop k, by have := HN.out; simp; omega, Pl.dig_append.2 ⟨hd, Pl.dig_drop k hdr⟩, hrow', Pl.add_early (by decide) hq HN.out hk hd hdr (by rw [HLD.out]; omega) (by simpa using hv)⟩
          go_wp2
          exact bodyPost_ret (results_none rfl _ _ _) rfl ⟨rfl, HF.out⟩
        · subst h0
          go_wp2
          go_roundw
          case rel =>
            refine ⟨k + 1, (1 + x) / 1000000000, by omega, by go_num, int_eq (by omega), by omega, ?_⟩
            rw [show ((1 : Int) + (x : Int)) % 1000000000 = (((1 + x) % 1000000000 : Nat) : Int) by omega]
            exact HA.out.step HO.out (by rw [HN.out]; exact hlt) (by omega) (by rw [← HX.out, HD0.out]; omega)
          case measure => simp [intOf]; omega
    · have HF : Hid (Added w wr g n pre rs post ds) := by
        obtain rfl : k = n := by omega
        obtain ⟨qs, hq, hd, hrow', hg, hv⟩ := HA.out.out
        have hz : rs.drop k = [] := List.drop_eq_nil_of_le (by rw [HN.out]; exact Nat.le_refl _)
        rw [hz, List.append_nil] at hrow'
        exact ⟨hg, qs, hq, hd, hrow', Pl.add_end (by decide) hq HN.out hd hv⟩
      go_wp2
      go_end0
      exact ⟨rfl, HF.out⟩

/-- while d, so many times, is taken from room: behind i groups -/
structure TakeSt (w wr : World) (g : Nat) (pre rs post ds : List Nat) (t i c : Nat) : Prop where
  out : ∃ qs : List Nat, qs.length = i ∧ Pl.dig 1000000000 qs ∧ Row wr g (pre ++ (qs ++ rs.drop i) ++ post) ∧ w.grownBy wr (some g) ∧ Pl.val 1000000000 qs + Pl.val 1000000000 (ds.take i) * t = Pl.val 1000000000 (rs.take i) + c * 1000000000 ^ i

theorem TakeSt.step {w wr : World} {g : Nat} {pre rs post ds : List Nat} {t i c o x y : Nat} (h : TakeSt w wr g pre rs post ds t i c) (ho : pre.length = o) (hi : i < rs.length) (hx : x < 1000000000) (hs : x + (c + ds.getD i 0 * t) = rs.getD i 0 + y * 1000000000) :
    TakeSt w (wr.setCell ⟨g, o + i, none⟩ (.int .u64 (x : Int))) g pre rs post ds t (i + 1) y := by
  obtain ⟨qs, hq, hd, hrow, hg, hv⟩ := h.out
  refine ⟨qs ++ [x], by simp [hq], Pl.dig_append.2 ⟨hd, by intro z hz; simp at hz; omega⟩, ?_, grown_trans hg (grown_set _ _ _ _), Pl.take_step hq hv hs⟩
  have := hrow.set (o + i) x (by simp; omega)
  rwa [Pl.mid_set ho hq hi] at this

theorem TakeSt.cell {w wr : World} {g : Nat} {pre rs post ds : List Nat} {t i c o : Nat} (h : TakeSt w wr g pre rs post ds t i c) (ho : pre.length = o) (hi : i < rs.length) : wr.cell? ⟨g, o + i, none⟩ = some (.int .u64 ((rs.getD i 0 : Nat) : Int)) ∧ wr.frozen? ⟨g, o + i, none⟩ = false := by
  obtain ⟨qs, hq, hd, hrow, hg, hv⟩ := h.out
  have := hrow.cell (o + i) (by simp; omega)
  rw [Pl.mid_get ho hq hi] at this
  exact ⟨this, hrow.free _⟩

/-- what takeFrom leaves -/
def Taken (w w' : World) (g n : Nat) (pre rs post ds : List Nat) (t : Nat) (short : Bool) : Prop :=
  w.grownBy w' (some g) ∧ ∃ rs' c, rs'.length = n ∧ Pl.dig 1000000000 rs' ∧ Row w' g (pre ++ rs' ++ post) ∧ Pl.val 1000000000 rs' + Pl.val 1000000000 ds * t = Pl.val 1000000000 rs + c * 1000000000 ^ n ∧ short = decide (0 < c) ∧ (0 < c ↔ Pl.val 1000000000 rs < Pl.val 1000000000 ds * t)

set_option maxHeartbeats 1600000 in
theorem w_takeFrom (g o n cap : Nat) (vd : Value) (t : Nat) (pre rs post ds : List Nat) (w : World) (hrow : Row w g (pre ++ rs ++ post)) (ho : pre.length = o) (hn : rs.length = n) (hc : n ≤ cap) (hm : n ≤ 1099511627776) (hdr : Pl.dig 1000000000 rs) (hdd : Pl.dig 1000000000 ds)
    (hds : Nums .u64 w vd ds) (hoff : vd.ownBlock ≠ some g) (hml : ds.length ≤ n) (ht : t ≤ 1000000000) :
    Calls Tryd.prog 93 #[.slice (some ⟨g, o, none⟩) n cap, vd, .int .u64 (t : Int)] w fun e w' => ∃ short, e = .returned (.bool short) ∧ Taken w w' g n pre rs post ds t short := by
  obtain ⟨ao, capd, rfl, hcd, hblk, hrd⟩ := hds
  have HRD := Hid.mk hrd
  clear hrd
  generalize hld : ds.length = ld at *
  have HLD := Hid.mk hld
  clear hld
  have HN := Hid.mk hn
  have HO := Hid.mk ho
  clear hn ho
  have HS : Hid (TakeSt w w g pre rs post ds t 0 0) := ⟨⟨[], rfl, Pl.dig_nil _, by simpa using hrow, grown_refl _ _, by simp [Pl.val]⟩⟩
  go_enter Tryd.func93, Tryd.ntmps93
  go_wp2
  go_loopw [7, 12] (fun c i wr => ∃ (k cc : Nat), k ≤ n ∧ i = .int .i64 k ∧ c = .int .u64 (cc : Int) ∧ cc ≤ 1000000000 ∧ Hid (TakeSt w wr g pre rs post ds t k cc)) (fun _ i _ => n - (intOf i).toNat)
  case atStart => exact ⟨0, 0, Nat.zero_le _, rfl, rfl, by decide, HS⟩
  case round =>
    obtain ⟨k, cc, hk, rfl, rfl, hcc, HA⟩ := hrel
    by_cases hlt : k < n
    · have hkn : (k : Int) < (n : Int) := by omega
      obtain ⟨c1, f1⟩ := HA.out.cell HO.out (by rw [HN.out]; exact hlt)
      have hr := Pl.dig_getD (by decide) hdr k
      obtain ⟨x, hxx⟩ : ∃ x, x = rs.getD k 0 := ⟨_, rfl⟩
      rw [← hxx] at c1 hr
      have HX := Hid.mk hxx
      clear hxx
      by_cases hld : k < ld
      · have hkl : (k : Int) < (ld : Int) := by omega
        obtain ⟨b, off, hao, hbl, hcell⟩ := HRD.out (by omega)
        have hne : some b ≠ some g := by subst hao; simpa [Value.ownBlock] using hoff
        have cd : wr.cell? ⟨b, off + k, none⟩ = some (.int .u64 ((ds.getD k 0 : Nat) : Int)) := by
          obtain ⟨qs, hq, hd, hrow', hg, hv⟩ := HA.out.out
          rw [hg.cell_far ⟨b, off + k, none⟩ hbl hne]
          exact hcell k hld
        have hd := Pl.dig_getD (by decide) hdd k
        clear hcell hne hoff
        subst hao
        obtain ⟨y, hyy⟩ : ∃ y, y = ds.getD k 0 := ⟨_, rfl⟩
        rw [← hyy] at cd hd
        have HY := Hid.mk hyy
        clear hyy
        have hyt : y * t ≤ 999999999 * 1000000000 := Nat.mul_le_mul (by omega) ht
        have hyt2 : (y : Int) * (t : Int) ≤ 999999999000000000 := by
          have : ((y * t : Nat) : Int) ≤ 999999999000000000 := by omega
          simpa using this
        have hyt0 : 0 ≤ (y : Int) * (t : Int) := Int.mul_nonneg (by omega) (by omega)
        go_wp2
        have e : (y : Int) * (t : Int) = ((y * t : Nat) : Int) := by simp
        rw [e]
        generalize hmt : y * t = m at *
        refine ⟨⟨k + 1, 1000000000 - (1000000000000000000 + x - (cc + m)) / 1000000000, by omega, by go_num, int_eq (by omega), by omega, ?_⟩, by simp [intOf]; omega⟩
        rw [show ((1000000000000000000 : Int) + (x : Int) - ((cc : Int) + (m : Int))) % 1000000000 = (((1000000000000000000 + x - (cc + m)) % 1000000000 : Nat) : Int) by omega]
        exact HA.out.step HO.out (by rw [HN.out]; exact hlt) (by omega) (by rw [← HX.out, ← HY.out, hmt]; omega)
      · have hkl : ¬ (k : Int) < (ld : Int) := by omega
        have HD0 : Hid (ds.getD k 0 = 0) := Pl.getD_past (by rw [HLD.out]; omega)
        rcases (show cc = 0 ∨ 0 < cc by omega) with h0 | h0
        · subst h0
          have HF : Hid (Taken w wr g n pre rs post ds t false) := by
            obtain ⟨qs, hq, hd, hrow', hg, hv⟩ := HA.out.out
            have hv' := Pl.take_early hq (by rw [HN.out]; exact hk) (by rw [HLD.out]; omega) (by simpa using hv)
            exact ⟨hg, qs ++ rs.drop k, 0, by have := HN.out; simp; omega, Pl.dig_append.2 ⟨hd, Pl.dig_drop k hdr⟩, hrow', by simpa using hv', rfl, by constructor <;> intro h <;> omega⟩
          go_wp2
          go_ret
          exact Or.inl ⟨rfl, HF.out⟩
        · have hb0 : (((cc : Nat) : Int) == 0) = false := by simp; omega
          go_wp2
          go_roundw
          case measure => simp [intOf]; omega
          refine ⟨k + 1, 1000000000 - (1000000000000000000 + x - cc) / 1000000000, by omega, by go_num, int_eq (by omega), by omega, ?_⟩
          rw [show ((1000000000000000000 : Int) + (x : Int) - (cc : Int)) % 1000000000 = (((1000000000000000000 + x - cc) % 1000000000 : Nat) : Int) by omega]
          exact HA.out.step HO.out (by rw [HN.out]; exact hlt) (by omega) (by rw [← HX.out, HD0.out]; omega)
    · have HF : Hid (Taken w wr g n pre rs post ds t (decide (0 < cc))) := by
        obtain rfl : k = n := by omega
        obtain ⟨qs, hq, hd, hrow', hg, hv⟩ := HA.out.out
        have hz : rs.drop k = [] := List.drop_eq_nil_of_le (by rw [HN.out]; exact Nat.le_refl _)
        rw [hz, List.append_nil] at hrow'
        obtain ⟨h1, h2⟩ := Pl.take_end hq HN.out (by rw [HLD.out]; exact hml) hd hv
        exact ⟨hg, qs, cc, hq, hd, hrow', h1, rfl, h2⟩
      go_wp2
      go_ret
      exact ⟨_, by simp, HF.out⟩
end Go.Proofs.YtfcbeohkhljboaaDoor
