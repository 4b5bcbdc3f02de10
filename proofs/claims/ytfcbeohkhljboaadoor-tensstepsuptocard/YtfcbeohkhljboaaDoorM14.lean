import Derived.Test.YtfcbeohkhljboaaDoorM1
import Derived.Test.YtfcbeohkhljboaaDoorM12
namespace Go.Proofs.YtfcbeohkhljboaaDoor
open Go.RowKit
set_option linter.unusedVariables false
set_option linter.unusedSimpArgs false

theorem int_eq {k : IntKind} {a b : Int} (h : a = b) : Value.int k a = Value.int k b := by rw [h]

/-- while room takes d up: behind i groups -/
structure AddSt (w wr : World) (g : Nat) (pre rs post ds : List Nat) (i c : Nat) : Prop where
  out : ∃ qs : List Nat, qs.length = i ∧ Pl.dig 1000000000 qs ∧ Row wr g (pre ++ (qs ++ rs.drop i) ++ post) ∧ w.grownBy wr (some g) ∧ Pl.val 1000000000 qs + c * 1000000000 ^ i = Pl.val 1000000000 (rs.take i) + Pl.val 1000000000 (ds.take i)

theorem AddSt.step {w wr : World} {g : Nat} {pre rs post ds : List Nat} {i c o x y : Nat} (h : AddSt w wr g pre rs post ds i c) (ho : pre.length = o) (hi : i < rs.length) (hx : x < 1000000000) (hs : x + y * 1000000000 = c + ds.getD i 0 + rs.getD i 0) :
    AddSt w (wr.setCell ⟨g, o + i, none⟩ (.int .u64 (x : Int))) g pre rs post ds (i + 1) y := by
  obtain ⟨qs, hq, hd, hrow, hg, hv⟩ := h.out
  refine ⟨qs ++ [x], by simp [hq], Pl.dig_append.2 ⟨hd, by intro z hz; simp at hz; omega⟩, ?_, grown_trans hg (grown_set _ _ _ _), Pl.add_step hq hv hs⟩
  have := hrow.set (o + i) x (by simp; omega)
  rwa [Pl.mid_set ho hq hi] at this

theorem AddSt.cell {w wr : World} {g : Nat} {pre rs post ds : List Nat} {i c o : Nat} (h : AddSt w wr g pre rs post ds i c) (ho : pre.length = o) (hi : i < rs.length) : wr.cell? ⟨g, o + i, none⟩ = some (.int .u64 ((rs.getD i 0 : Nat) : Int)) ∧ wr.frozen? ⟨g, o + i, none⟩ = false := by
  obtain ⟨qs, hq, hd, hrow, hg, hv⟩ := h.out
  have := hrow.cell (o + i) (by simp; omega)
  rw [Pl.mid_get ho hq hi] at this
  exact ⟨this, hrow.free _⟩

/-- what addTo leaves -/
def Added (w w' : World) (g n : Nat) (pre rs post ds : List Nat) : Prop :=
  w.grownBy w' (some g) ∧ ∃ rs', rs'.length = n ∧ Pl.dig 1000000000 rs' ∧ Row w' g (pre ++ rs' ++ post) ∧ Pl.val 1000000000 rs' = (Pl.val 1000000000 rs + Pl.val 1000000000 ds) % 1000000000 ^ n

set_option maxHeartbeats 1600000 in
theorem w_addTo (g o n cap : Nat) (vd : Value) (pre rs post ds : List Nat) (w : World) (hrow : Row w g (pre ++ rs ++ post)) (ho : pre.length = o) (hn : rs.length = n) (hc : n ≤ cap) (hm : n ≤ 1099511627776) (hdr : Pl.dig 1000000000 rs) (hdd : Pl.dig 1000000000 ds)
    (hds : Nums .u64 w vd ds) (hoff : vd.ownBlock ≠ some g) (hml : ds.length ≤ 1099511627776) :
    Calls Tryd.prog 94 #[.slice (some ⟨g, o, none⟩) n cap, vd] w fun e w' => e = .returned (.tuple #[]) ∧ Added w w' g n pre rs post ds := by
  have hkeep := hds
  obtain ⟨ao, capd, rfl, hcd, hblk, hrd⟩ := hds
  have HRD := Hid.mk hrd
  clear hrd
  generalize hld : ds.length = ld at *
  have HLD := Hid.mk hld
  clear hld
  have HN := Hid.mk hn
  have HO := Hid.mk ho
  clear hn ho
  have HS : Hid (AddSt w w g pre rs post ds 0 0) := ⟨⟨[], rfl, Pl.dig_nil _, by simpa using hrow, grown_refl _ _, by simp [Pl.val]⟩⟩
  go_enter Tryd.func94, Tryd.ntmps94
  go_wp2
  go_loopw [4, 8] (fun c i wr => ∃ (k cc : Nat), k ≤ n ∧ i = .int .i64 k ∧ c = .int .u64 (cc : Int) ∧ cc ≤ 1 ∧ Hid (AddSt w wr g pre rs post ds k cc)) (fun _ i _ => n - (intOf i).toNat)
  case atStart => exact ⟨0, 0, Nat.zero_le _, rfl, rfl, by decide, HS⟩
  case round =>
    obtain ⟨k, cc, hk, rfl, rfl, hcc, HA⟩ := hrel
    by_cases hlt : k < n
    · have hkn : (k : Int) < (n : Int) := by omega
      obtain ⟨c1, f1⟩ := HA.out.cell HO.out (by rw [HN.out]; exact hlt)
      have hr := Pl.dig_getD (by decide) hdr k
      by_cases hld : k < ld
      · have hkl : (k : Int) < (ld : Int) := by omega
        obtain ⟨b, off, hao, hbl, hcell⟩ := HRD.out (by omega)
        have hne : some b ≠ some g := by subst hao; simpa [Value.ownBlock] using hoff
        have cd : wr.cell? ⟨b, off + k, none⟩ = some (.int .u64 ((ds.getD k 0 : Nat) : Int)) := by
          obtain ⟨qs, hq, hd, hrow', hg, hv⟩ := HA.out.out
          rw [hg.cell_far ⟨b, off + k, none⟩ hbl hne]
          exact hcell k hld
        have hd := Pl.dig_getD (by decide) hdd k
        clear hcell hne hoff
        subst hao
        obtain ⟨x, hxx⟩ : ∃ x, x = rs.getD k 0 := ⟨_, rfl⟩
        obtain ⟨y, hyy⟩ : ∃ y, y = ds.getD k 0 := ⟨_, rfl⟩
        rw [← hxx] at c1 hr
        rw [← hyy] at cd hd
        have HX := Hid.mk hxx
        have HY := Hid.mk hyy
        clear hxx hyy
        go_wp2
        go_roundw
        case rel =>
          refine ⟨k + 1, (cc + y + x) / 1000000000, by omega, by go_num, int_eq (by omega), by omega, ?_⟩
          rw [show ((cc : Int) + (y : Int) + (x : Int)) % 1000000000 = (((cc + y + x) % 1000000000 : Nat) : Int) by omega]
          exact HA.out.step HO.out (by rw [HN.out]; exact hlt) (by omega) (by rw [← HX.out, ← HY.out]; omega)
        case measure => simp [intOf]; omega
      · have hkl : ¬ (k : Int) < (ld : Int) := by omega
        have HD0 : Hid (ds.getD k 0 = 0) := Pl.getD_past (by rw [HLD.out]; omega)
        obtain ⟨x, hxx⟩ : ∃ x, x = rs.getD k 0 := ⟨_, rfl⟩
        rw [← hxx] at c1 hr
        have HX := Hid.mk hxx
        clear hxx
        rcases (show cc = 0 ∨ cc = 1 by omega) with h0 | h0
        · subst h0
          have HF : Hid (Added w wr g n pre rs post ds) := by
            obtain ⟨qs, hq, hd, hrow', hg, hv⟩ := HA.out.out
            exact ⟨hg, qs ++ rs.drop k, by have := HN.out; simp; omega, Pl.dig_append.2 ⟨hd, Pl.dig_drop k hdr⟩, hrow', Pl.add_early (by decide) hq HN.out hk hd hdr (by rw [HLD.out]; omega) (by simpa using hv)⟩
          go_wp2
          exact bodyPost_ret (results_none rfl _ _ _) rfl ⟨rfl, HF.out⟩
        · subst h0
          go_wp2
          go_roundw
          case rel =>
            refine ⟨k + 1, (1 + x) / 1000000000, by omega, by go_num, int_eq (by omega), by omega, ?_⟩
            rw [show ((1 : Int) + (x : Int)) % 1000000000 = (((1 + x) % 1000000000 : Nat) : Int) by omega]
            exact HA.out.step HO.out (by rw [HN.out]; exact hlt) (by omega) (by rw [← HX.out, HD0.out]; omega)
          case measure => simp [intOf]; omega
    · have HF : Hid (Added w wr g n pre rs post ds) := by
        obtain rfl : k = n := by omega
        obtain ⟨qs, hq, hd, hrow', hg, hv⟩ := HA.out.out
        have hz : rs.drop k = [] := List.drop_eq_nil_of_le (by rw [HN.out]; exact Nat.le_refl _)
        rw [hz, List.append_nil] at hrow'
        exact ⟨hg, qs, hq, hd, hrow', Pl.add_end (by decide) hq HN.out hd hv⟩
      go_wp2
      go_end0
      exact ⟨rfl, HF.out⟩

/-- while d, so many times, is taken from room: behind i groups -/
structure TakeSt (w wr : World) (g : Nat) (pre rs post ds : List Nat) (t i c : Nat) : Prop where
  out : ∃ qs : List Nat, qs.length = i ∧ Pl.dig 1000000000 qs ∧ Row wr g (pre ++ (qs ++ rs.drop i) ++ post) ∧ w.grownBy wr (some g) ∧ Pl.val 1000000000 qs + Pl.val 1000000000 (ds.take i) * t = Pl.val 1000000000 (rs.take i) + c * 1000000000 ^ i

theorem TakeSt.step {w wr : World} {g : Nat} {pre rs post ds : List Nat} {t i c o x y : Nat} (h : TakeSt w wr g pre rs post ds t i c) (ho : pre.length = o) (hi : i < rs.length) (hx : x < 1000000000) (hs : x + (c + ds.getD i 0 * t) = rs.getD i 0 + y * 1000000000) :
    TakeSt w (wr.setCell ⟨g, o + i, none⟩ (.int .u64 (x : Int))) g pre rs post ds t (i + 1) y := by
  obtain ⟨qs, hq, hd, hrow, hg, hv⟩ := h.out
  refine ⟨qs ++ [x], by simp [hq], Pl.dig_append.2 ⟨hd, by intro z hz; simp at hz; omega⟩, ?_, grown_trans hg (grown_set _ _ _ _), Pl.take_step hq hv hs⟩
  have := hrow.set (o + i) x (by simp; omega)
  rwa [Pl.mid_set ho hq hi] at this

theorem TakeSt.cell {w wr : World} {g : Nat} {pre rs post ds : List Nat} {t i c o : Nat} (h : TakeSt w wr g pre rs post ds t i c) (ho : pre.length = o) (hi : i < rs.length) : wr.cell? ⟨g, o + i, none⟩ = some (.int .u64 ((rs.getD i 0 : Nat) : Int)) ∧ wr.frozen? ⟨g, o + i, none⟩ = false := by
  obtain ⟨qs, hq, hd, hrow, hg, hv⟩ := h.out
  have := hrow.cell (o + i) (by simp; omega)
  rw [Pl.mid_get ho hq hi] at this
  exact ⟨this, hrow.free _⟩

/-- what takeFrom leaves -/
def Taken (w w' : World) (g n : Nat) (pre rs post ds : List Nat) (t : Nat) (short : Bool) : Prop :=
  w.grownBy w' (some g) ∧ ∃ rs' c, rs'.length = n ∧ Pl.dig 1000000000 rs' ∧ Row w' g (pre ++ rs' ++ post) ∧ Pl.val 1000000000 rs' + Pl.val 1000000000 ds * t = Pl.val 1000000000 rs + c * 1000000000 ^ n ∧ short = decide (0 < c) ∧ (0 < c ↔ Pl.val 1000000000 rs < Pl.val 1000000000 ds * t)

set_option maxHeartbeats 1600000 in
theorem w_takeFrom (g o n cap : Nat) (vd : Value) (t : Nat) (pre rs post ds : List Nat) (w : World) (hrow : Row w g (pre ++ rs ++ post)) (ho : pre.length = o) (hn : rs.length = n) (hc : n ≤ cap) (hm : n ≤ 1099511627776) (hdr : Pl.dig 1000000000 rs) (hdd : Pl.dig 1000000000 ds)
    (hds : Nums .u64 w vd ds) (hoff : vd.ownBlock ≠ some g) (hml : ds.length ≤ n) (ht : t ≤ 1000000000) :
    Calls Tryd.prog 93 #[.slice (some ⟨g, o, none⟩) n cap, vd, .int .u64 (t : Int)] w fun e w' => ∃ short, e = .returned (.bool short) ∧ Taken w w' g n pre rs post ds t short := by
  obtain ⟨ao, capd, rfl, hcd, hblk, hrd⟩ := hds
  have HRD := Hid.mk hrd
  clear hrd
  generalize hld : ds.length = ld at *
  have HLD := Hid.mk hld
  clear hld
  have HN := Hid.mk hn
  have HO := Hid.mk ho
  clear hn ho
  have HS : Hid (TakeSt w w g pre rs post ds t 0 0) := ⟨⟨[], rfl, Pl.dig_nil _, by simpa using hrow, grown_refl _ _, by simp [Pl.val]⟩⟩
  go_enter Tryd.func93, Tryd.ntmps93
  go_wp2
  go_loopw [7, 12] (fun c i wr => ∃ (k cc : Nat), k ≤ n ∧ i = .int .i64 k ∧ c = .int .u64 (cc : Int) ∧ cc ≤ 1000000000 ∧ Hid (TakeSt w wr g pre rs post ds t k cc)) (fun _ i _ => n - (intOf i).toNat)
  case atStart => exact ⟨0, 0, Nat.zero_le _, rfl, rfl, by decide, HS⟩
  case round =>
    obtain ⟨k, cc, hk, rfl, rfl, hcc, HA⟩ := hrel
    by_cases hlt : k < n
    · have hkn : (k : Int) < (n : Int) := by omega
      obtain ⟨c1, f1⟩ := HA.out.cell HO.out (by rw [HN.out]; exact hlt)
      have hr := Pl.dig_getD (by decide) hdr k
      obtain ⟨x, hxx⟩ : ∃ x, x = rs.getD k 0 := ⟨_, rfl⟩
      rw [← hxx] at c1 hr
      have HX := Hid.mk hxx
      clear hxx
      by_cases hld : k < ld
      · have hkl : (k : Int) < (ld : Int) := by omega
        obtain ⟨b, off, hao, hbl, hcell⟩ := HRD.out (by omega)
        have hne : some b ≠ some g := by subst hao; simpa [Value.ownBlock] using hoff
        have cd : wr.cell? ⟨b, off + k, none⟩ = some (.int .u64 ((ds.getD k 0 : Nat) : Int)) := by
          obtain ⟨qs, hq, hd, hrow', hg, hv⟩ := HA.out.out
          rw [hg.cell_far ⟨b, off + k, none⟩ hbl hne]
          exact hcell k hld
        have hd := Pl.dig_getD (by decide) hdd k
        clear hcell hne hoff
        subst hao
        obtain ⟨y, hyy⟩ : ∃ y, y = ds.getD k 0 := ⟨_, rfl⟩
        rw [← hyy] at cd hd
        have HY := Hid.mk hyy
        clear hyy
        have hyt : y * t ≤ 999999999 * 1000000000 := Nat.mul_le_mul (by omega) ht
        have hyt2 : (y : Int) * (t : Int) ≤ 999999999000000000 := by
          have : ((y * t : Nat) : Int) ≤ 999999999000000000 := by omega
          simpa using this
        have hyt0 : 0 ≤ (y : Int) * (t : Int) := Int.mul_nonneg (by omega) (by omega)
        go_wp2
        have e : (y : Int) * (t : Int) = ((y * t : Nat) : Int) := by simp
        rw [e]
        generalize hmt : y * t = m at *
        refine ⟨⟨k + 1, 1000000000 - (1000000000000000000 + x - (cc + m)) / 1000000000, by omega, by go_num, int_eq (by omega), by omega, ?_⟩, by simp [intOf]; omega⟩
        rw [show ((1000000000000000000 : Int) + (x : Int) - ((cc : Int) + (m : Int))) % 1000000000 = (((1000000000000000000 + x - (cc + m)) % 1000000000 : Nat) : Int) by omega]
        exact HA.out.step HO.out (by rw [HN.out]; exact hlt) (by omega) (by rw [← HX.out, ← HY.out, hmt]; omega)
      · have hkl : ¬ (k : Int) < (ld : Int) := by omega
        have HD0 : Hid (ds.getD k 0 = 0) := Pl.getD_past (by rw [HLD.out]; omega)
        rcases (show cc = 0 ∨ 0 < cc by omega) with h0 | h0
        · subst h0
          have HF : Hid (Taken w wr g n pre rs post ds t false) := by
            obtain ⟨qs, hq, hd, hrow', hg, hv⟩ := HA.out.out
            have hv' := Pl.take_early hq (by rw [HN.out]; exact hk) (by rw [HLD.out]; omega) (by simpa using hv)
            exact ⟨hg, qs ++ rs.drop k, 0, by have := HN.out; simp; omega, Pl.dig_append.2 ⟨hd, Pl.dig_drop k hdr⟩, hrow', by simpa using hv', rfl, by constructor <;> intro h <;> omega⟩
          go_wp2
          go_ret
          exact Or.inl ⟨rfl, HF.out⟩
        · have hb0 : (((cc : Nat) : Int) == 0) = false := by simp; omega
          go_wp2
          go_roundw
          case measure => simp [intOf]; omega
          refine ⟨k + 1, 1000000000 - (1000000000000000000 + x - cc) / 1000000000, by omega, by go_num, int_eq (by omega), by omega, ?_⟩
          rw [show ((1000000000000000000 : Int) + (x : Int) - (cc : Int)) % 1000000000 = (((1000000000000000000 + x - cc) % 1000000000 : Nat) : Int) by omega]
          exact HA.out.step HO.out (by rw [HN.out]; exact hlt) (by omega) (by rw [← HX.out, HD0.out]; omega)
    · have HF : Hid (Taken w wr g n pre rs post ds t (decide (0 < cc))) := by
        obtain rfl : k = n := by omega
        obtain ⟨qs, hq, hd, hrow', hg, hv⟩ := HA.out.out
        have hz : rs.drop k = [] := List.drop_eq_nil_of_le (by rw [HN.out]; exact Nat.le_refl _)
        rw [hz, List.append_nil] at hrow'
        obtain ⟨h1, h2⟩ := Pl.take_end hq HN.out (by rw [HLD.out]; exact hml) hd hv
        exact ⟨hg, qs, cc, hq, hd, hrow', h1, rfl, h2⟩
      go_wp2
      go_ret
      exact ⟨_, by simp, HF.out⟩
end Go.Proofs.YtfcbeohkhljboaaDoor
