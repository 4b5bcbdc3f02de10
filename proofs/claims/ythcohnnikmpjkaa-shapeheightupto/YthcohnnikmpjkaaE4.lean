import Derived.Test.YthcohnnikmpjkaaE3
import Derived.Test.YthcohnnikmpjkaaWalk2
import Derived.BigQuiet
namespace Go.Proofs.Ythcohnnikmpjkaa
open Go.RowKit
set_option linter.unusedVariables false
set_option linter.unusedSimpArgs false

theorem neg_iff (s : ByteArray) : Pl.neg s.data.toList = true ↔ ∃ h : 0 < s.size, s[0]'h = 45 := by
  unfold Pl.neg
  cases e : s.data.toList with
  | nil =>
    have : s.size = 0 := by rw [← sizeLn, e]; rfl
    simp [this]
  | cons c r =>
    have h0 : 0 < s.size := by rw [← sizeLn, e]; simp
    have hc : s[0]'h0 = c := by
      have := byteD' h0
      rw [e] at this
      exact this.symm
    constructor
    · intro h
      refine ⟨h0, ?_⟩
      rw [hc]; have h' : c.toNat = 45 := by simpa using h
      exact UInt8.toNat_inj.1 (by rw [h']; rfl)
    · rintro ⟨_, h⟩
      rw [hc] at h
      rw [h]; rfl

set_option maxRecDepth 100000 in
set_option maxHeartbeats 3200000 in
theorem w_Number (s : ByteArray) (w : World) (hs : s.size ≤ 281474976710656) :
    Calls Try.prog 68 #[.string s] w fun e w' => e = .returned (.bool (Pl.formed s.data.toList)) ∧ w' = w := by
  obtain ⟨f, hf⟩ : ∃ f, f = if Pl.neg s.data.toList then 1 else 0 := ⟨_, rfl⟩
  have HBad := Hid.mk (fun k hk h1 h2 => Pl.formed_bad s f hf k hk h1 h2)
  have HGood := Hid.mk (fun h1 h2 => Pl.formed_good s f hf h1 h2)
  have HShort := Hid.mk (fun h => Pl.formed_short s f hf h)
  have H48 : Hid (∀ b, (s.toList == [48]) = b → True) := fun _ _ => trivial
  obtain ⟨b48, hb48⟩ : ∃ b, (s.toList == [48]) = b := ⟨_, rfl⟩
  cases hneg : Pl.neg s.data.toList with
  | true =>
    obtain ⟨h0, h45⟩ := (neg_iff s).1 hneg
    rw [hneg] at hf
    have hf1 : f = 1 := hf
    subst hf1
    have hi0 : (0 : Int) < (s.size : Int) := by omega
    have hi1 : (1 : Int) ≤ (s.size : Int) := by omega
    obtain ⟨r, hr⟩ : ∃ r, s.extract 1 s.size = r := ⟨_, rfl⟩
    have hrl : r.data.toList = s.data.toList.drop 1 := by rw [← hr, Lib.extract_data]; exact List.take_of_length_le (by simp)
    have hrs : r.size = s.size - 1 := by rw [← sizeLn r, hrl, List.length_drop, sizeLn]
    have hget : ∀ i (h : i < r.size) (h' : 1 + i < s.size), r[i] = s[1 + i]'h' := by
      intro i h h'
      rw [← byteD' h, hrl, getD_dropN, byteD']
    have HG := Hid.mk hget
    have HRS := Hid.mk hrs
    have hrb : r.size ≤ 281474976710656 := by omega
    have hne1 : b48 = false := by
      rw [← hb48, beq_eq_false_iff_ne]
      intro e
      have := byteD' h0
      rw [h45] at this
      rw [Lib.toList_data] at e
      rw [e] at this
      cases this
    subst hne1
    clear hneg hf hrl hrs hget
    go_enter Try.func68, Try.ntmps68
    go_wp2_with fail
    clear hr
    go_loopw [4] (fun i wr => ∃ k : Nat, k ≤ r.size ∧ i = .int .i64 (k : Int) ∧ wr = w ∧ Hid (∀ j (h : j < r.size), j < k → Pl.isDig r[j] = true)) (fun i _ => r.size - (intOf i).toNat)
    case atStart => exact ⟨0, Nat.zero_le _, rfl, rfl, fun j h h2 => by omega⟩
    case round =>
      obtain ⟨k, hk, rfl, rfl, HQ⟩ := hrel
      by_cases hlt : k < r.size
      · have hl1 : (k : Int) < (r.size : Int) := by omega
        obtain ⟨c, hc⟩ : ∃ c, r[k]'hlt = c := ⟨_, rfl⟩
        obtain ⟨x, hx⟩ : ∃ x : Int, ((c.toNat : Nat) : Int) = x := ⟨_, rfl⟩
        have HX := Hid.mk hx
        have HC := Hid.mk hc
        have HBd : Hid (Pl.isDig c = false → Pl.formed s.data.toList = false) := by
          intro h
          have hrs := HRS.out
          exact HBad.out (1 + k) (by omega) (by omega) (by rw [← HG.out k hlt (by omega), HC.out]; exact h)
        have hx0 : 0 ≤ x := by omega
        have hx1 : x ≤ 255 := by have := c.toNat_lt; omega
        have hcs : x < 48 ∨ (¬ x < 48 ∧ 57 < x) ∨ (¬ x < 48 ∧ ¬ 57 < x) := by omega
        rcases hcs with a | ⟨a, b⟩ | ⟨a, b⟩
        · have HF := Hid.mk (HBd.out (by unfold Pl.isDig; rw [decide_eq_false (by have := HX.out; omega)]; rfl))
          go_wp2_with fail
          go_ret
          exact ⟨by rw [HF.out]; rfl, rfl⟩
        · have HF := Hid.mk (HBd.out (by unfold Pl.isDig; rw [decide_eq_false (p := c.toNat ≤ 57) (by have := HX.out; omega), Bool.and_false]))
          go_wp2_with fail
          go_ret
          exact ⟨by rw [HF.out]; rfl, rfl⟩
        · have HN : Hid (∀ j (h : j < r.size), j < k + 1 → Pl.isDig r[j] = true) := by
            intro j h h2
            rcases Nat.lt_or_ge j k with g | g
            · exact HQ.out j h g
            · obtain rfl : j = k := by omega
              rw [HC.out]; unfold Pl.isDig
              rw [decide_eq_true (by have := HX.out; omega), decide_eq_true (by have := HX.out; omega)]; rfl
          go_wp2_with fail
          go_roundw
          case rel => exact ⟨k + 1, hlt, by go_num, trivial, HN⟩
          case measure => simp [intOf]; omega
      · have hl1 : ¬ (k : Int) < (r.size : Int) := by omega
        by_cases hz : r.size = 0
        · have hz1 : ((r.size : Int) == 0) = true := by rw [hz]; rfl
          have HF : Hid (Pl.formed s.data.toList = false) := HShort.out (by have := HRS.out; omega)
          clear hz
          go_wp2_with fail
          go_ret
          exact ⟨by rw [HF.out]; rfl, rfl⟩
        · have hz1 : ((r.size : Int) == 0) = false := by rw [beq_eq_false_iff_ne]; omega
          have hr0 : 0 < r.size := by omega
          have hri : (0 : Int) < (r.size : Int) := by omega
          obtain ⟨c, hc⟩ : ∃ c, r[0]'hr0 = c := ⟨_, rfl⟩
          have HF : Hid (Pl.formed s.data.toList = (!(((c.toNat : Nat) : Int) == 48) || false)) := by
            have hrs := HRS.out
            have h := HGood.out (by omega) (fun j hj hj1 => by
              have hg := HG.out (j - 1) (by omega) (by omega)
              have hjj : 1 + (j - 1) = j := by omega
              simp only [hjj] at hg
              rw [← hg]; exact HQ.out _ (by omega) (by omega))
            rw [hb48, ← HG.out 0 hr0 (by omega), hc] at h
            exact h
          by_cases hc48 : (((c.toNat : Nat) : Int) == 48) = true
          · have HF2 : Hid (Pl.formed s.data.toList = false) := by rw [HF.out, hc48]; rfl
            clear hz HF
            go_wp2_with fail
            go_ret
            exact ⟨by rw [HF2.out]; rfl, rfl⟩
          · have hc48' : (((c.toNat : Nat) : Int) == 48) = false := by simpa using hc48
            have HF2 : Hid (Pl.formed s.data.toList = true) := by rw [HF.out, hc48']; rfl
            clear hz HF hc48
            go_wp2_with fail
            go_ret
            exact ⟨by rw [HF2.out]; rfl, rfl⟩
  | false =>
    rw [hneg] at hf
    have hf1 : f = 0 := hf
    subst hf1
    have hfst : s.size = 0 ∨ ∃ h : 0 < s.size, s[0]'h ≠ 45 := by
      rcases Nat.eq_zero_or_pos s.size with h | h
      · exact .inl h
      · refine .inr ⟨h, fun e => ?_⟩
        have := (neg_iff s).2 ⟨h, e⟩
        rw [hneg] at this; cases this
    clear hneg hf
    rcases hfst with hz | ⟨h0, h45⟩
    · have hz1 : ((s.size : Int) == 0) = true := by rw [hz]; rfl
      have hz2 : ¬ (0 : Int) < (s.size : Int) := by omega
      have HF : Hid (Pl.formed s.data.toList = false) := HShort.out hz.symm
      have HZ := Hid.mk hz
      clear hz
      go_enter Try.func68, Try.ntmps68
      go_wp2_with fail
      go_loopw [4] (fun i wr => i = .int .i64 0 ∧ wr = w) (fun i _ => 0)
      case atStart => exact ⟨rfl, rfl⟩
      case round =>
        obtain ⟨rfl, rfl⟩ := hrel
        go_wp2_with fail
        go_ret
        exact ⟨by rw [HF.out]; rfl, rfl⟩
    · have hi0 : (0 : Int) < (s.size : Int) := by omega
      have hb45 : ((((s[0]'h0).toNat : Nat) : Int) == 45) = false := by
        rw [beq_eq_false_iff_ne]; intro e; apply h45; apply UInt8.toNat_inj.1
        have : (45 : UInt8).toNat = 45 := rfl
        omega
      clear h45
      go_enter Try.func68, Try.ntmps68
      go_wp2_with fail
      go_loopw [4] (fun i wr => ∃ k : Nat, k ≤ s.size ∧ i = .int .i64 (k : Int) ∧ wr = w ∧ Hid (∀ j (h : j < s.size), j < k → Pl.isDig s[j] = true)) (fun i _ => s.size - (intOf i).toNat)
      case atStart => exact ⟨0, Nat.zero_le _, rfl, rfl, fun j h h2 => by omega⟩
      case round =>
        obtain ⟨k, hk, rfl, rfl, HQ⟩ := hrel
        by_cases hlt : k < s.size
        · have hl1 : (k : Int) < (s.size : Int) := by omega
          obtain ⟨c, hc⟩ : ∃ c, s[k]'hlt = c := ⟨_, rfl⟩
          obtain ⟨x, hx⟩ : ∃ x : Int, ((c.toNat : Nat) : Int) = x := ⟨_, rfl⟩
          have HX := Hid.mk hx
          have HC := Hid.mk hc
          have HBd : Hid (Pl.isDig c = false → Pl.formed s.data.toList = false) := fun h => HBad.out k hlt (Nat.zero_le _) (by rw [HC.out]; exact h)
          have hx0 : 0 ≤ x := by omega
          have hx1 : x ≤ 255 := by have := c.toNat_lt; omega
          have hcs : x < 48 ∨ (¬ x < 48 ∧ 57 < x) ∨ (¬ x < 48 ∧ ¬ 57 < x) := by omega
          rcases hcs with a | ⟨a, b⟩ | ⟨a, b⟩
          · have HF := Hid.mk (HBd.out (by unfold Pl.isDig; rw [decide_eq_false (by have := HX.out; omega)]; rfl))
            go_wp2_with fail
            go_ret
            exact ⟨by rw [HF.out]; rfl, rfl⟩
          · have HF := Hid.mk (HBd.out (by unfold Pl.isDig; rw [decide_eq_false (p := c.toNat ≤ 57) (by have := HX.out; omega), Bool.and_false]))
            go_wp2_with fail
            go_ret
            exact ⟨by rw [HF.out]; rfl, rfl⟩
          · have HN : Hid (∀ j (h : j < s.size), j < k + 1 → Pl.isDig s[j] = true) := by
              intro j h h2
              rcases Nat.lt_or_ge j k with g | g
              · exact HQ.out j h g
              · obtain rfl : j = k := by omega
                rw [HC.out]; unfold Pl.isDig
                rw [decide_eq_true (by have := HX.out; omega), decide_eq_true (by have := HX.out; omega)]; rfl
            go_wp2_with fail
            go_roundw
            case rel => exact ⟨k + 1, hlt, by go_num, trivial, HN⟩
            case measure => simp [intOf]; omega
        · have hl1 : ¬ (k : Int) < (s.size : Int) := by omega
          have hz1 : ((s.size : Int) == 0) = false := by rw [beq_eq_false_iff_ne]; omega
          obtain ⟨c, hc⟩ : ∃ c, s[0]'h0 = c := ⟨_, rfl⟩
          have HF : Hid (Pl.formed s.data.toList = (!(((c.toNat : Nat) : Int) == 48) || b48)) := by
            have h := HGood.out h0 (fun j hj hj1 => HQ.out j hj (by omega))
            rw [hb48, hc] at h
            exact h
          by_cases hc48 : (((c.toNat : Nat) : Int) == 48) = true
          · cases b48 with
            | true =>
              have HF2 : Hid (Pl.formed s.data.toList = true) := by rw [HF.out, hc48]; rfl
              clear HF
              go_wp2_with fail
              go_ret
              exact ⟨by rw [HF2.out]; rfl, rfl⟩
            | false =>
              have HF2 : Hid (Pl.formed s.data.toList = false) := by rw [HF.out, hc48]; rfl
              clear HF
              go_wp2_with fail
              go_ret
              exact ⟨by rw [HF2.out]; rfl, rfl⟩
          · have hc48' : (((c.toNat : Nat) : Int) == 48) = false := by simpa using hc48
            have HF2 : Hid (Pl.formed s.data.toList = true) := by rw [HF.out, hc48']; rfl
            clear HF hc48
            go_wp2_with fail
            go_ret
            exact ⟨by rw [HF2.out]; rfl, rfl⟩
end Go.Proofs.Ythcohnnikmpjkaa
