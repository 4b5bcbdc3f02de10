import Derived.Test.YtdegoefedkidcaaDoorM0
import Derived.Test.YtdegoefedkidcaaDoorM7
namespace Go.Proofs.YtdegoefedkidcaaDoor
open Go.RowKit
set_option linter.unusedVariables false
set_option linter.unusedSimpArgs false

theorem int_eq {k : IntKind} {a b : Int} (h : a = b) : Value.int k a = Value.int k b := by rw [h]

/-- while room takes d up: behind i groups -/
structure AddSt (w wr : World) (g : Nat) (pre rs post ds : List Nat) (i c : Nat) : Prop where
  out : ∃ qs : List Nat, qs.length = i ∧ Pl.dig 1000000000 qs ∧ Row wr g (pre ++ (qs ++ rs.drop i) ++ post) ∧ w.grownBy wr (some g) ∧ Pl.val 1000000000 qs + c * 1000000000 ^ i = Pl.val 1000000000 (rs.take i) + Pl.val 1000000000 (ds.take i)

theorem AddSt.step {w wr : World} {g : Nat} {pre rs post ds : List Nat} {i c o x y : Nat} (h : AddSt w wr g pre rs post ds i c) (ho : pre.length = o) (hi : i < rs.length) (hx : x < 1000000000) (hs : x + y * 1000000000 = c + ds.getD i 0 + rs.getD i 0) :
    AddSt w (wr.setCell ⟨g, o + i, none⟩ (.int .u64 (x : Int))) g pre rs post ds (i + 1) y := by
  obtain ⟨qs, hq, hd, hrow, hg, hv⟩ := h.out
  refine ⟨qs ++ [x], by simp [hq], Pl.dig_append.2 ⟨hd, by intro z hz; simp at hz; omega⟩, ?_, grown_trans hg (grown_set _ _ _ _), Pl.add_step hq hv hs⟩
  have := hrow.set (o + i) x (by simp; omega)
  rwa [Pl.mid_set ho hq hi] at this

theorem AddSt.cell {w wr : World} {g : Nat} {pre rs post ds : List Nat} {i c o : Nat} (h : AddSt w wr g pre rs post ds i c) (ho : pre.length = o) (hi : i < rs.length) : wr.cell? ⟨g, o + i, none⟩ = some (.int .u64 ((rs.getD i 0 : Nat) : Int)) ∧ wr.frozen? ⟨g, o + i, none⟩ = false := by
  obtain ⟨qs, hq, hd, hrow, hg, hv⟩ := h.out
  have := hrow.cell (o + i) (by simp; omega)
  rw [Pl.mid_get ho hq hi] at this
  exact ⟨this, hrow.free _⟩

/-- what addTo leaves -/
def Added (w w' : World) (g n : Nat) (pre rs post ds : List Nat) : Prop :=
  w.grownBy w' (some g) ∧ ∃ rs', rs'.length = n ∧ Pl.dig 1000000000 rs' ∧ Row w' g (pre ++ rs' ++ post) ∧ Pl.val 1000000000 rs' = (Pl.val 1000000000 rs + Pl.val 1000000000 ds) % 1000000000 ^ n

set_option maxHeartbeats 1600000 in
theorem w_addTo (g o n cap : Nat) (vd : Value) (pre rs post ds : List Nat) (w : World) (hrow : Row w g (pre ++ rs ++ post)) (ho : pre.length = o) (hn : rs.length = n) (hc : n ≤ cap) (hm : n ≤ 1099511627776) (hdr : Pl.dig 1000000000 rs) (hdd : Pl.dig 1000000000 ds)
    (hds : Nums .u64 w vd ds) (hoff : vd.ownBlock ≠ some g) (hml : ds.length ≤ 1099511627776) :
    Calls Tryd.prog 94 #[.slice (some ⟨g, o, none⟩) n cap, vd] w fun e w' => e = .returned (.tuple #[]) ∧ Added w w' g n pre rs post ds := by
  have hkeep := hds
  obtain ⟨ao, capd, rfl, hcd, hblk, hrd⟩ := hds
  have HRD := Hid.mk hrd
  clear hrd
  generalize hld : ds.length = ld at *
  have HLD := Hid.mk hld
  clear hld
  have HN := Hid.mk hn
  have HO := Hid.mk ho
  clear hn ho
  have HS : Hid (AddSt w w g pre rs post ds 0 0) := ⟨⟨[], rfl, Pl.dig_nil _, by simpa using hrow, grown_refl _ _, by simp [Pl.val]⟩⟩
  go_enter Tryd.func94, Tryd.ntmps94
  go_wp2
  go_loopw [4, 8] (fun c i wr => ∃ (k cc : Nat), k ≤ n ∧ i = .int .i64 k ∧ c = .int .u64 (cc : Int) ∧ cc ≤ 1 ∧ Hid (AddSt w wr g pre rs post ds k cc)) (fun _ i _ => n - (intOf i).toNat)
  case atStart => exact ⟨0, 0, Nat.zero_le _, rfl, rfl, by decide, HS⟩
  case round =>
    obtain ⟨k, cc, hk, rfl, rfl, hcc, HA⟩ := hrel
    by_cases hlt : k < n
    · have hkn : (k : Int) < (n : Int) := by omega
      obtain ⟨c1, f1⟩ := HA.out.cell HO.out (by rw [HN.out]; exact hlt)
      have hr := Pl.dig_getD (by decide) hdr k
      by_cases hld : k < ld
      · have hkl : (k : Int) < (ld : Int) := by omega
        obtain ⟨b, off, hao, hbl, hcell⟩ := HRD.out (by omega)
        have hne : some b ≠ some g := by subst hao; simpa [Value.ownBlock] using hoff
        have cd : wr.cell? ⟨b, off + k, none⟩ = some (.int .u64 ((ds.getD k 0 : Nat) : Int)) := by
          obtain ⟨qs, hq, hd, hrow', hg, hv⟩ := HA.out.out
          rw [hg.cell_far ⟨b, off + k, none⟩ hbl hne]
          exact hcell k hld
        have hd := Pl.dig_getD (by decide) hdd k
        clear hcell hne hoff
        subst hao
        obtain ⟨x, hxx⟩ : ∃ x, x = rs.getD k 0 := ⟨_, rfl⟩
        obtain ⟨y, hyy⟩ : ∃ y, y = ds.getD k 0 := ⟨_, rfl⟩
        rw [← hxx] at c1 hr
        rw [← hyy] at cd hd
        have HX := Hid.mk hxx
        have HY := Hid.mk hyy
        clear hxx hyy
        go_wp2
        go_roundw
        case rel =>
          refine ⟨k + 1, (cc + y + x) / 1000000000, by omega, by go_num, int_eq (by omega), by omega, ?_⟩
          rw [show ((cc : Int) + (y : Int) + (x : Int)) % 1000000000 = (((cc + y + x) % 1000000000 : Nat) : Int) by omega]
          exact HA.out.step HO.out (by rw [HN.out]; exact hlt) (by omega) (by rw [← HX.out, ← HY.out]; omega)
        case measure => simp [intOf]; omega
      · have hkl : ¬ (k : Int) < (ld : Int) := by omega
        have HD0 : Hid (ds.getD k 0 = 0) := Pl.getD_past (by rw [HLD.out]; omega)
        obtain ⟨x, hxx⟩ : ∃ x, x = rs.getD k 0 := ⟨_, rfl⟩
        rw [← hxx] at c1 hr
        have HX := Hid.mk hxx
        clear hxx
        rcases (show cc = 0 ∨ cc = 1 by omega) with h0 | h0
        · subst h0
          have HF : Hid (Added w wr g n pre rs post ds) := by
            obtain ⟨qs, hq, hd, hrow', hg, hv⟩ := HA.out.out
            exact ⟨hg, qs ++ rs.drop k, by have := HN.out; simp; omega, Pl.dig_append.2 ⟨hd, Pl.dig_drop k hdr⟩, hrow', Pl.add_early (by decide) hq HN.out hk hd hdr (by rw [HLD.out]; omega) (by simpa using hv)⟩
          go_wp2
          exact bodyPost_ret (results_none rfl _ _ _) rfl ⟨rfl, HF.out⟩
        · subst h0
          go_wp2
          go_roundw
          case rel =>
            refine ⟨k + 1, (1 + x) / 1000000000, by omega, by go_num, int_eq (by omega), by omega, ?_⟩
            rw [show ((1 : Int) + (x : Int)) % 1000000000 = (((1 + x) % 1000000000 : Nat) : Int) by omega]
            exact HA.out.step HO.out (by rw [HN.out]; exact hlt) (by omega) (by rw [← HX.out, HD0.out]; omega)
          case measure => simp [intOf]; omega
    · have HF : Hid (Added w wr g n pre rs post ds) := by
        obtain rfl : k = n := by omega
        obtain ⟨qs, hq, hd, hrow', hg, hv⟩ := HA.out.out
        have hz : rs.drop k = [] := List.drop_eq_nil_of_le (by rw [HN.out]; exact Nat.le_refl _)
        rw [hz, List.append_nil] at hrow'
        exact ⟨hg, qs, hq, hd, hrow', Pl.add_end (by decide) hq HN.out hd hv⟩
      go_wp2
      go_end0
      exact ⟨rfl, HF.out⟩

/-- while d, so many times, is taken from room: behind i groups -/
structure TakeSt (w wr : World) (g : Nat) (pre rs post ds : List Nat) (t i c : Nat) : Prop where
  out : ∃ qs : List Nat, qs.length = i ∧ Pl.dig 1000000000 qs ∧ Row wr g (pre ++ (qs ++ rs.drop i) ++ post) ∧ w.grownBy wr (some g) ∧ Pl.val 1000000000 qs + Pl.val 1000000000 (ds.take i) * t = Pl.val 1000000000 (rs.take i) + c * 1000000000 ^ i

theorem TakeSt.step {w wr : World} {g : Nat} {pre rs post ds : List Nat} {t i c o x y : Nat} (h : TakeSt w wr g pre rs post ds t i c) (ho : pre.length = o) (hi : i < rs.length) (hx : x < 1000000000) (hs : x + (c + ds.getD i 0 * t) = rs.getD i 0 + y * 1000000000) :
    TakeSt w (wr.setCell ⟨g, o + i, none⟩ (.int .u64 (x : Int))) g pre rs post ds t (i + 1) y := by
  obtain ⟨qs, hq, hd, hrow, hg, hv⟩ := h.out
  refine ⟨qs ++ [x], by simp [hq], Pl.dig_append.2 ⟨hd, by intro z hz; simp at hz; omega⟩, ?_, grown_trans hg (grown_set _ _ _ _), Pl.take_step hq hv hs⟩
  have := hrow.set (o + i) x (by simp; omega)
  rwa [Pl.mid_set ho hq hi] at this

theorem TakeSt.cell {w wr : World} {g : Nat} {pre rs post ds : List Nat} {t i c o : Nat} (h : TakeSt w wr g pre rs post ds t i c) (ho : pre.length = o) (hi : i < rs.length) : wr.cell? ⟨g, o + i, none⟩ = some (.int .u64 ((rs.getD i 0 : Nat) : Int)) ∧ wr.frozen? ⟨g, o + i, none⟩ = false := by
  obtain ⟨qs, hq, hd, hrow, hg, hv⟩ := h.out
  have := hrow.cell (o + i) (by simp; omega)
  rw [Pl.mid_get ho hq hi] at this
  exact ⟨this, hrow.free _⟩

/-- what takeFrom leaves -/
def Taken (w w' : World) (g n : Nat) (pre rs post ds : List Nat) (t : Nat) (short : Bool) : Prop :=
  w.grownBy w' (some g) ∧ ∃ rs' c, rs'.length = n ∧ Pl.dig 1000000000 rs' ∧ Row w' g (pre ++ rs' ++ post) ∧ Pl.val 1000000000 rs' + Pl.val 1000000000 ds * t = Pl.val 1000000000 rs + c * 1000000000 ^ n ∧ short = decide (0 < c) ∧ (0 < c ↔ Pl.val 1000000000 rs < Pl.val 1000000000 ds * t)

set_option maxHeartbeats 1600000 in
theorem w_takeFrom (g o n cap : Nat) (vd : Value) (t : Nat) (pre rs post ds : List Nat) (w : World) (hrow : Row w g (pre ++ rs ++ post)) (ho : pre.length = o) (hn : rs.length = n) (hc : n ≤ cap) (hm : n ≤ 1099511627776) (hdr : Pl.dig 1000000000 rs) (hdd : Pl.dig 1000000000 ds)
    (hds : Nums .u64 w vd ds) (hoff : vd.ownBlock ≠ some g) (hml : ds.length ≤ n) (ht : t ≤ 1000000000) :
    Calls Tryd.prog 93 #[.slice (some ⟨g, o, none⟩) n cap, vd, .int .u64 (t : Int)] w fun e w' => ∃ short, e = .returned (.bool short) ∧ Taken w w' g n pre rs post ds t short := by
  obtain ⟨ao, capd, rfl, hcd, hblk, hrd⟩ := hds
  have HRD := Hid.mk hrd
  clear hrd
  generalize hld : ds.length = ld at *
  have HLD := Hid.mk hld
  clear hld
  have HN := Hid.mk hn
  have HO := Hid.mk ho
  clear hn ho
  have HS : Hid (TakeSt w w g pre rs post ds t 0 0) := ⟨⟨[], rfl, Pl.dig_nil _, by simpa using hrow, grown_refl _ _, by simp [Pl.val]⟩⟩
  go_enter Tryd.func93, Tryd.ntmps93
  go_wp2
  go_loopw [7, 12] (fun c i wr => ∃ (k cc : Nat), k ≤ n ∧ i = .int .i64 k ∧ c = .int .u64 (cc : Int) ∧ cc ≤ 1000000000 ∧ Hid (TakeSt w wr g pre rs post ds t k cc)) (fun _ i _ => n - (intOf i).toNat)
  case atStart => exact ⟨0, 0, Nat.zero_le _, rfl, rfl, by decide, HS⟩
  case round =>
    obtain ⟨k, cc, hk, rfl, rfl, hcc, HA⟩ := hrel
    by_cases hlt : k < n
    · have hkn : (k : Int) < (n : Int) := by omega
      obtain ⟨c1, f1⟩ := HA.out.cell HO.out (by rw [HN.out]; exact hlt)
      have hr := Pl.dig_getD (by decide) hdr k
      obtain ⟨x, hxx⟩ : ∃ x, x = rs.getD k 0 := ⟨_, rfl⟩
      rw [← hxx] at c1 hr
      have HX := Hid.mk hxx
      clear hxx
      by_cases hld : k < ld
      · have hkl : (k : Int) < (ld : Int) := by omega
        obtain ⟨b, off, hao, hbl, hcell⟩ := HRD.out (by omega)
        have hne : some b ≠ some g := by subst hao; simpa [Value.ownBlock] using hoff
        have cd : wr.cell? ⟨b, off + k, none⟩ = some (.int .u64 ((ds.getD k 0 : Nat) : Int)) := by
          obtain ⟨qs, hq, hd, hrow', hg, hv⟩ := HA.out.out
          rw [hg.cell_far ⟨b, off + k, none⟩ hbl hne]
          exact hcell k hld
        have hd := Pl.dig_getD (by decide) hdd k
        clear hcell hne hoff
        subst hao
        obtain ⟨y, hyy⟩ : ∃ y, y = ds.getD k 0 := ⟨_, rfl⟩
        rw [← hyy] at cd hd
        have HY := Hid.mk hyy
        clear hyy
        have hyt : y * t ≤ 999999999 * 1000000000 := Nat.mul_le_mul (by omega) ht
        have hyt2 : (y : Int) * (t : Int) ≤ 999999999000000000 := by
          have : ((y * t : Nat) : Int) ≤ 999999999000000000 := by omega
          simpa using this
        have hyt0 : 0 ≤ (y : Int) * (t : Int) := Int.mul_nonneg (by omega) (by omega)
        go_wp2
        have e : (y : Int) * (t : Int) = ((y * t : Nat) : Int) := by simp
        rw [e]
        generalize hmt : y * t = m at *
        refine ⟨⟨k + 1, 1000000000 - (1000000000000000000 + x - (cc + m)) / 1000000000, by omega, by go_num, int_eq (by omega), by omega, ?_⟩, by simp [intOf]; omega⟩
        rw [show ((1000000000000000000 : Int) + (x : Int) - ((cc : Int) + (m : Int))) % 1000000000 = (((1000000000000000000 + x - (cc + m)) % 1000000000 : Nat) : Int) by omega]
        exact HA.out.step HO.out (by rw [HN.out]; exact hlt) (by omega) (by rw [← HX.out, ← HY.out, hmt]; omega)
      · have hkl : ¬ (k : Int) < (ld : Int) := by omega
        have HD0 : Hid (ds.getD k 0 = 0) := Pl.getD_past (by rw [HLD.out]; omega)
        rcases (show cc = 0 ∨ 0 < cc by omega) with h0 | h0
        · subst h0
          have HF : Hid (Taken w wr g n pre rs post ds t false) := by
            obtain ⟨qs, hq, hd, hrow', hg, hv⟩ := HA.out.out
            have hv' := Pl.take_early hq (by rw [HN.out]; exact hk) (by rw [HLD.out]; omega) (by simpa using hv)
            exact ⟨hg, qs ++ rs.drop k, 0, by have := HN.out; simp; omega, Pl.dig_append.2 ⟨hd, Pl.dig_drop k hdr⟩, hrow', by simpa using hv', rfl, by constructor <;> intro h <;> omega⟩
          go_wp2
          go_ret
          exact Or.inl ⟨rfl, HF.out⟩
        · have hb0 : (((cc : Nat) : Int) == 0) = false := by simp; omega
          go_wp2
          go_roundw
          case measure => simp [intOf]; omega
          refine ⟨k + 1, 1000000000 - (1000000000000000000 + x - cc) / 1000000000, by omega, by go_num, int_eq (by omega), by omega, ?_⟩
          rw [show ((1000000000000000000 : Int) + (x : Int) - (cc : Int)) % 1000000000 = (((1000000000000000000 + x - cc) % 1000000000 : Nat) : Int) by omega]
          exact HA.out.step HO.out (by rw [HN.out]; exact hlt) (by omega) (by rw [← HX.out, HD0.out]; omega)
    · have HF : Hid (Taken w wr g n pre rs post ds t (decide (0 < cc))) := by
        obtain rfl : k = n := by omega
        obtain ⟨qs, hq, hd, hrow', hg, hv⟩ := HA.out.out
        have hz : rs.drop k = [] := List.drop_eq_nil_of_le (by rw [HN.out]; exact Nat.le_refl _)
        rw [hz, List.append_nil] at hrow'
        obtain ⟨h1, h2⟩ := Pl.take_end hq HN.out (by rw [HLD.out]; exact hml) hd hv
        exact ⟨hg, qs, cc, hq, hd, hrow', h1, rfl, h2⟩
      go_wp2
      go_ret
      exact ⟨_, by simp, HF.out⟩
end Go.Proofs.YtdegoefedkidcaaDoor
namespace Go.Proofs.YtdegoefedkidcaaDoor
open Go.RowKit
set_option linter.unusedVariables false
set_option linter.unusedSimpArgs false

theorem nat_max (a b : Nat) : (max (a : Int) (b : Int)) = ((max a b : Nat) : Int) := by omega

/-- what a row that was put together leaves: its trimmed slice, in memory of its own -/
def Fresh (w w' : World) (v : Value) (xs : List Nat) : Prop := Nums .u64 w' v xs ∧ Pl.dig 1000000000 xs ∧ Pl.Top xs ∧ Below w.heap.size w w' ∧ ∀ k, v.ownBlock = some k → w.heap.size ≤ k

/-- a row of the call's own, trimmed -/
theorem fresh_of {w w2 : World} {g : Nat} {rs : List Nat} {v v' : Value} (hb : Below w.heap.size w w2) (hg : w.heap.size ≤ g) (hd : Pl.dig 1000000000 rs) (hn : Nums .u64 w2 v' (Pl.trimN rs)) (ho : v'.ownBlock = v.ownBlock) (hv : v.ownBlock = some g) : Fresh w w2 v' (Pl.trimN rs) :=
  ⟨hn, Pl.dig_trim hd, Pl.top_trim _, hb, fun k hk => by rw [ho, hv] at hk; cases hk; exact hg⟩

theorem sum_fits {xs ys : List Nat} {L : Nat} (hx : Pl.dig 1000000000 xs) (hy : Pl.dig 1000000000 ys) (h1 : xs.length ≤ L) (h2 : ys.length ≤ L) : (Pl.val 1000000000 xs + Pl.val 1000000000 ys) % 1000000000 ^ (L + 1) = Pl.val 1000000000 xs + Pl.val 1000000000 ys := by
  apply Nat.mod_eq_of_lt
  have a1 := Pl.val_lt hx
  have a2 := Pl.val_lt hy
  have b1 : 1000000000 ^ xs.length ≤ 1000000000 ^ L := Nat.pow_le_pow_right (by decide) h1
  have b2 : 1000000000 ^ ys.length ≤ 1000000000 ^ L := Nat.pow_le_pow_right (by decide) h2
  rw [Nat.pow_succ]
  omega

set_option maxHeartbeats 1600000 in
theorem w_sum (va vb : Value) (xs ys : List Nat) (w : World) (ha : Nums .u64 w va xs) (hb : Nums .u64 w vb ys) (hma : xs.length ≤ 274877906944) (hmb : ys.length ≤ 274877906944) (hx : Pl.dig 1000000000 xs) (hy : Pl.dig 1000000000 ys) :
    Calls Tryd.prog 75 #[va, vb] w fun e w' => ∃ v zs, e = .returned v ∧ Fresh w w' v zs ∧ Pl.val 1000000000 zs = Pl.val 1000000000 xs + Pl.val 1000000000 ys := by
  have HA := Hid.mk ha
  have HB := Hid.mk hb
  obtain ⟨ao, capa, rfl, q1, q2⟩ := ha
  clear q1 q2
  obtain ⟨bo, capb, rfl, q1, q2⟩ := hb
  clear q1 q2
  have hcase : ys.length ≤ xs.length ∨ xs.length < ys.length := by omega
  obtain ⟨L, hL⟩ : ∃ L, L = max xs.length ys.length := ⟨_, rfl⟩
  have HL := Hid.mk hL
  have hmk := fun (z : Int) (hz : z = ((L + 1 : Nat) : Int)) (u : World) => run_make_row' (L + 1) z hz (by omega) u
  have h1 := ((Below.refl w.heap.size w).alloc (Nat.le_refl _) (zrow (L + 1)))
  have HA1 := Hid.mk (HA.out.keep h1)
  have HB1 := Hid.mk (HB.out.keep h1)
  have hr1 := Hid.mk (row_new w (L + 1))
  have offA : (Value.slice ao xs.length capa).ownBlock ≠ some w.heap.size := HA.out.older (Nat.le_refl _)
  have offB := Hid.mk (show (Value.slice bo ys.length capb).ownBlock ≠ some w.heap.size from HB.out.older (Nat.le_refl _))
  have HOA := Hid.mk offA
  clear h1 offA
  have HMK := Hid.mk hmk
  clear hmk hL
  obtain ⟨w1, hcp, HR, HG⟩ := run_copy_nums _ w.heap.size (L + 1) (L + 1) _ _ xs hr1.out (by simp) HA1.out (by have := HL.out; omega)
  have hgoI : goInt xs.length = .int .i64 xs.length := rfl
  have HSum : Hid (Row w1 w.heap.size ([] ++ (xs ++ List.replicate (L + 1 - xs.length) 0) ++ [])) := by
    have := HR.out
    rw [List.drop_replicate] at this
    show Row _ _ _
    simpa using this
  have HB2 := Hid.mk (HB1.out.off offB.out HG.out)
  have HV : Hid (Pl.val 1000000000 (xs ++ List.replicate (L + 1 - xs.length) 0) = Pl.val 1000000000 xs) := by
    show _ = _
    rw [Pl.val_append, val_zeros]; simp
  have HD : Hid (Pl.dig 1000000000 (xs ++ List.replicate (L + 1 - xs.length) 0)) := Pl.dig_append.2 ⟨hx, dig_zeros _ _ (by decide)⟩
  have HLen : Hid ((xs ++ List.replicate (L + 1 - xs.length) 0).length = L + 1) := by have := HL.out; show _ = _; simp; omega
  have hLm : L ≤ 274877906944 := by have := HL.out; omega
  have HBel : Hid (Below w.heap.size w w1) := by
    exact ((Below.refl w.heap.size w).alloc (Nat.le_refl _) (zrow (L + 1))).trans (below_grown HG.out (Nat.le_refl _) (by simp))
  generalize xs ++ List.replicate (L + 1 - xs.length) 0 = rs at *
  rcases hcase with hc | hc
  · obtain rfl : L = xs.length := by have := HL.out; omega
    have hmk := fun (u : World) => HMK.out ((xs.length : Int) + 1) (by omega) u
    clear HMK
    go_enter Tryd.func75, Tryd.ntmps75
    go_wp2_with fail
    refine (w_addTo w.heap.size 0 (xs.length + 1) (xs.length + 1) _ [] rs [] ys w1 HSum.out rfl HLen.out (Nat.le_refl _) (by omega) HD.out hy HB2.out offB.out (by omega)).mono ?_
    rintro e w2 ⟨rfl, hadd⟩
    have HAd := Hid.mk hadd
    clear hadd
    go_wp2_with fail
    obtain ⟨hg2, rs', hl', hd', hrow', hv'⟩ := HAd.out
    refine (w_tTrim _ rs' _ (hrow'.nums (pre := []) (post := []) rfl rfl hl' (Nat.le_refl _)) (by unfold maxLen; omega)).mono ?_
    rintro e w3 ⟨v', rfl, rfl, hn', ho'⟩
    have HF := Hid.mk (fresh_of (HBel.out.trans (below_grown hg2 (Nat.le_refl _) (by have := HBel.out.size; omega))) (Nat.le_refl _) hd' hn' ho' rfl)
    have HVal : Hid (Pl.val 1000000000 (Pl.trimN rs') = Pl.val 1000000000 xs + Pl.val 1000000000 ys) := by
      show _ = _
      rw [Pl.val_trim, hv', HV.out]; exact sum_fits hx hy (Nat.le_refl _) hc
    obtain ⟨ao', cap', hvv, q1, q2⟩ := hn'
    clear q1 q2 hl' hd' hrow' hv' hg2 ho'
    subst hvv
    go_wp2_with fail
    go_ret
    exact ⟨_, _, rfl, HF.out, HVal.out⟩
  · obtain rfl : L = ys.length := by have := HL.out; omega
    have hmk := fun (u : World) => HMK.out ((ys.length : Int) + 1) (by omega) u
    clear HMK
    go_enter Tryd.func75, Tryd.ntmps75
    go_wp2_with fail
    refine (w_addTo w.heap.size 0 (ys.length + 1) (ys.length + 1) _ [] rs [] ys w1 HSum.out rfl HLen.out (Nat.le_refl _) (by omega) HD.out hy HB2.out offB.out (by omega)).mono ?_
    rintro e w2 ⟨rfl, hadd⟩
    have HAd := Hid.mk hadd
    clear hadd
    go_wp2_with fail
    obtain ⟨hg2, rs', hl', hd', hrow', hv'⟩ := HAd.out
    refine (w_tTrim _ rs' _ (hrow'.nums (pre := []) (post := []) rfl rfl hl' (Nat.le_refl _)) (by unfold maxLen; omega)).mono ?_
    rintro e w3 ⟨v', rfl, rfl, hn', ho'⟩
    have HF := Hid.mk (fresh_of (HBel.out.trans (below_grown hg2 (Nat.le_refl _) (by have := HBel.out.size; omega))) (Nat.le_refl _) hd' hn' ho' rfl)
    have HVal : Hid (Pl.val 1000000000 (Pl.trimN rs') = Pl.val 1000000000 xs + Pl.val 1000000000 ys) := by
      show _ = _
      rw [Pl.val_trim, hv', HV.out]; exact sum_fits hx hy (by omega) (Nat.le_refl _)
    obtain ⟨ao', cap', hvv, q1, q2⟩ := hn'
    clear q1 q2 hl' hd' hrow' hv' hg2 ho'
    subst hvv
    go_wp2_with fail
    go_ret
    exact ⟨_, _, rfl, HF.out, HVal.out⟩
end Go.Proofs.YtdegoefedkidcaaDoor
