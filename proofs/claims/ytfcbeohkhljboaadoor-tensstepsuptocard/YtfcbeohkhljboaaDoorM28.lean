import Derived.Test.YtfcbeohkhljboaaDoorM26
import Derived.Test.YtfcbeohkhljboaaDoorM27
import Derived.Lib.AppendStr
import Derived.Lib.ItoaNum
namespace Go.Proofs.YtfcbeohkhljboaaDoor
open Go.RowKit
set_option linter.unusedVariables false
set_option linter.unusedSimpArgs false

theorem dec_props (u : Nat) : (Lib.decDigits u).all Pl.isDig = true ∧ Pl.dvl (Lib.decDigits u) = u ∧ (0 < u → Pl.plainB (Lib.decDigits u) = true) := by
  induction u using Nat.strongRecOn with
  | _ u ih =>
    have hch : ∀ x, x < 10 → (UInt8.ofNat (48 + x)).toNat = 48 + x := fun x hx => by
      rw [UInt8.toNat_ofNat']; omega
    by_cases h : u < 10
    · rw [Lib.decDigits_one h]
      have e := hch u h
      refine ⟨by simp [Pl.isDig, e]; omega, ?_, ?_⟩
      · rw [Pl.dvl_cons, Pl.dvl_nil, e]; simp
      · intro hp
        simp only [Pl.plainB, e]
        simp [Pl.isDig, e]; omega
    · rw [Lib.decDigits, dif_neg h]
      obtain ⟨h1, h2, h3⟩ := ih (u / 10) (by omega)
      have e := hch (u % 10) (by omega)
      have hall : (Lib.decDigits (u / 10) ++ [UInt8.ofNat (48 + u % 10)]).all Pl.isDig = true := by
        rw [List.all_append, h1]; simp [Pl.isDig, e]; omega
      refine ⟨hall, ?_, fun _ => ?_⟩
      · rw [dvl_append, h2, Pl.dvl_cons, Pl.dvl_nil, e]; simp; omega
      · have h4 := h3 (by omega)
        cases hd : Lib.decDigits (u / 10) with
        | nil => rw [hd] at h4; simp [Pl.plainB] at h4
        | cons c t =>
          rw [hd] at h4 hall
          simp only [Pl.plainB, List.cons_append, Bool.and_eq_true] at h4 hall ⊢
          exact ⟨h4.1, hall⟩

theorem Tryd.infoB : (Tryd.prog.info? 5).map (fun i => (i.zero, i.size, i.bytes)) = some (some (.int .u8 0), 1, 1) := by kernel_rfl

/-- while a group is written behind others: j digits stand -/
structure WrtSt (base : Nat) (w wr : World) (g n cap : Nat) (l : List UInt8) (x j : Nat) : Prop where
  out : ∃ t : List UInt8, t.length = j ∧ t.all Pl.isDig = true ∧ Pl.dvl t = x % 10 ^ j ∧ wr.ownsRow base 5 1 (.slice (some ⟨g, 0, none⟩) (n + 9) cap) (n + 9) (Lib.byteCells (l ++ (List.replicate (9 - j) 48 ++ t))) ∧ Below base w wr

theorem byte_set (l t : List UInt8) (m : Nat) (c : UInt8) : (Lib.byteCells (l ++ (List.replicate (m + 1) 48 ++ t))).set (l.length + m) (.int .u8 (c.toNat : Int)) = Lib.byteCells (l ++ (List.replicate m 48 ++ (c :: t))) := by
  have e : (l ++ (List.replicate (m + 1) 48 ++ t)).set (l.length + m) c = l ++ (List.replicate m 48 ++ (c :: t)) := by
    rw [List.set_append_right _ _ (by omega), Nat.add_sub_cancel_left, List.replicate_succ', List.append_assoc, List.set_append_right _ _ (by simp)]
    simp
  rw [← e]
  simp [Lib.byteCells, List.map_set]

theorem WrtSt.step {base : Nat} {w wr : World} {g n cap : Nat} {l : List UInt8} {x j : Nat} (h : WrtSt base w wr g n cap l x j) (hl : l.length = n) (hj : j < 9) (hb : base ≤ g) :
    WrtSt base w (wr.setCell ⟨g, n + (8 - j), none⟩ (.int .u8 ((48 + x / 10 ^ j % 10 : Nat) : Int))) g n cap l x (j + 1) := by
  obtain ⟨t, h1, h2, h3, h4, h5⟩ := h.out
  have hc : (UInt8.ofNat (48 + x / 10 ^ j % 10)).toNat = 48 + x / 10 ^ j % 10 := by
    have : x / 10 ^ j % 10 < 10 := Nat.mod_lt _ (by decide)
    rw [UInt8.toNat_ofNat']; omega
  refine ⟨UInt8.ofNat (48 + x / 10 ^ j % 10) :: t, by simp [h1], ?_, ?_, ?_, h5.setCell hb _⟩
  · have : x / 10 ^ j % 10 < 10 := Nat.mod_lt _ (by decide)
    simp only [List.all_cons, h2, Bool.and_true, Pl.isDig, hc]
    simp; omega
  · rw [Pl.dvl_cons, h3, h1, hc, Nat.mod_pow_succ]; simp
  · have hs := (h4.stored (n + (8 - j)) (.int .u8 ((48 + x / 10 ^ j % 10 : Nat) : Int))).1
    have e : 9 - j = (8 - j) + 1 := by omega
    rw [e, ← hc, ← hl, byte_set] at hs
    rw [← hl, show 9 - (j + 1) = 8 - j by omega]
    rw [hl] at hs ⊢
    rwa [hc] at hs

theorem WrtSt.cell {base : Nat} {w wr : World} {g n cap : Nat} {l : List UInt8} {x j : Nat} (h : WrtSt base w wr g n cap l x j) (hl : l.length = n) (hj : j < 9) : wr.cell? ⟨g, n + (8 - j), none⟩ = some (.int .u8 48) ∧ wr.frozen? ⟨g, n + (8 - j), none⟩ = false := by
  obtain ⟨t, h1, h2, h3, h4, h5⟩ := h.out
  refine ⟨?_, h4.frozenAt _⟩
  rw [h4.cellAt _ (by omega)]
  have e : 9 - j = (8 - j) + 1 := by omega
  rw [e, ← hl]
  simp only [Lib.byteCells, List.getElem?_map]
  rw [List.getElem?_append_right (by omega), Nat.add_sub_cancel_left, List.replicate_succ', List.append_assoc, List.getElem?_append_right (by simp)]
  simp

theorem zero_dvl (m : Nat) : Pl.dvl (List.replicate m 48) = 0 := by
  induction m with
  | zero => rfl
  | succ m ih => rw [List.replicate_succ, Pl.dvl_cons, ih]; rfl

/-- what writeGroup answers -/
def Wrote (base : Nat) (w w' : World) (v : Value) (n : Nat) (l : List UInt8) (x : Nat) : Prop := ∃ m : List UInt8, m.length = 9 ∧ m.all Pl.isDig = true ∧ Pl.dvl m = x ∧ w'.ownsRow base 5 1 v (n + 9) (Lib.byteCells (l ++ m)) ∧ Below base w w'

set_option maxRecDepth 100000 in
set_option maxHeartbeats 3200000 in
theorem w_writeGroup (base : Nat) (v : Value) (l : List UInt8) (n x : Nat) (w : World) (hown : w.ownsRow base 5 1 v n (Lib.byteCells l)) (hl : l.length = n) (hbw : base ≤ w.heap.size) (hn : n ≤ 1099511627776) (hx : x < 1000000000) :
    Calls Tryd.prog 78 #[v, .int .u64 (x : Int)] w fun e w' => ∃ v', e = .returned v' ∧ Wrote base w w' v' n l x := by
  obtain ⟨i0, hi0, hz0, hz1, hz2⟩ := info_parts Tryd.infoB
  have HO := Hid.mk hown
  obtain ⟨ao, cap0, hv⟩ : ∃ ao cap, v = .slice ao n cap := by
    rcases hown.2 with ⟨e, e2⟩ | ⟨g, cap, cur, e, _⟩
    · exact ⟨none, 0, by rw [e, e2]⟩
    · exact ⟨_, _, e⟩
  subst hv
  go_enter Tryd.func78, Tryd.ntmps78
  go_wp2_with (at_builtin; refine Lib.wpList_append_own_string _ rfl _ _ 75 9 rfl base 5 i0 Tryd.underlying75 Tryd.underlying9 hi0 hz0 hz1 hz2 _ _ _ rfl hown ⟨#[48, 48, 48, 48, 48, 48, 48, 48, 48]⟩ rfl (by unfold maxLen; show n + 9 ≤ _; omega) (by show n + 9 ≤ _; omega) hbw ?_)
  intro v1 w1 hown1 hgrow1 _
  have hown2 : w1.ownsRow base 5 1 v1 (n + 9) (Lib.byteCells (l ++ (List.replicate 9 48 ++ []))) := by
    have e : Lib.byteCells (l ++ (List.replicate 9 48 ++ [])) = Lib.byteCells l ++ Lib.strCells ⟨#[48, 48, 48, 48, 48, 48, 48, 48, 48]⟩ := by
      rw [Lib.byteCells_append]; rfl
    rw [e]; exact hown1
  obtain ⟨g, cap, hv1, hgb⟩ : ∃ g cap, v1 = .slice (some ⟨g, 0, none⟩) (n + 9) cap ∧ base ≤ g := by
    rcases hown2.2 with ⟨e, e2⟩ | ⟨g, cap, cur, e, hb, _⟩
    · omega
    · exact ⟨g, cap, e, hb⟩
  subst hv1
  have hb1 : Below base w w1 := (Below.refl base w).grown hgrow1 hbw (own_base hown)
  have HSt : Hid (WrtSt base w w1 g n cap l x 0) := ⟨[], rfl, rfl, by rw [Pl.dvl_nil, Nat.pow_zero, Nat.mod_one], hown2, hb1⟩
  clear hown hown1 hown2 hgrow1 hb1 HO
  go_wp2_with fail
  go_loopw [1, 5] (fun y i wr => ∃ (j yy : Nat), j ≤ 9 ∧ y = .int .u64 (yy : Int) ∧ yy < 1000000000 ∧ i = .int .i64 ((n : Int) + 8 - (j : Int)) ∧ Hid (yy = x / 10 ^ j) ∧ Hid (WrtSt base w wr g n cap l x j)) (fun y _ _ => (intOf y).toNat)
  case atStart => exact ⟨0, x, by omega, rfl, hx, int_eq (by omega), by show _ = _; rw [Nat.pow_zero, Nat.div_one], HSt⟩
  case round =>
    obtain ⟨j, yy, hj, rfl, hyy, rfl, HY, HS⟩ := hrel
    by_cases h0 : yy = 0
    · subst h0
      have HF : Hid (Wrote base w wr (.slice (some ⟨g, 0, none⟩) (n + 9) cap) n l x) := by
        obtain ⟨t, h1, h2, h3, h4, h5⟩ := HS.out.out
        refine ⟨List.replicate (9 - j) 48 ++ t, by simp [h1]; omega, ?_, ?_, h4, h5⟩
        · rw [List.all_append, h2, Bool.and_true, List.all_eq_true]
          intro c hc
          rw [(List.mem_replicate.1 hc).2]; decide
        · rw [dvl_append, zero_dvl, h3, Nat.zero_mul, Nat.zero_add]
          apply Nat.mod_eq_of_lt
          have := HY.out
          rcases Nat.lt_or_ge x (10 ^ j) with h | h
          · exact h
          · have := Nat.div_pos h (Nat.pow_pos (by decide)); omega
      go_wp2_with fail
      go_ret
      exact ⟨_, rfl, HF.out⟩
    · have hj9 : j < 9 := by
        rcases Nat.lt_or_ge j 9 with h | h
        · exact h
        · obtain rfl : j = 9 := by omega
          have h1 := HY.out
          have h2 : (10 : Nat) ^ 9 = 1000000000 := by decide
          rw [h2, Nat.div_eq_of_lt hx] at h1
          omega
      rw [show (n : Int) + 8 - (j : Int) = ((n + (8 - j) : Nat) : Int) by omega]
      have hi0' : (0 : Int) ≤ ((n + (8 - j) : Nat) : Int) := by omega
      have hi1 : ((n + (8 - j) : Nat) : Int) < (n : Int) + 9 := by omega
      obtain ⟨c1, f1⟩ := HS.out.cell hl hj9
      have HN := Hid.mk (HS.out.step hl hj9 hgb)
      obtain ⟨p, hp⟩ : ∃ p, p = n + (8 - j) := ⟨_, rfl⟩
      rw [← hp] at c1 f1 hi0' hi1 HN ⊢
      have HP := Hid.mk hp
      have hpn : p < n + 9 := by omega
      have hpm : p < 9223372036854775807 := by omega
      clear hp
      have hy0 : (0 : Int) < (yy : Int) := by omega
      go_wp2_with fail
      go_roundw
      case measure => simp [intOf]; omega
      refine ⟨j + 1, yy / 10, by omega, int_eq (by simp), by omega, int_eq (by have := HP.out; omega), ?_, ?_⟩
      · show _ = _
        rw [HY.out, Nat.pow_succ, Nat.div_div_eq_div_mul]
      · rw [show (48 : Int) + (yy : Int) % 10 = ((48 + x / 10 ^ j % 10 : Nat) : Int) by rw [← HY.out]; omega]
        exact HN
end Go.Proofs.YtfcbeohkhljboaaDoor
