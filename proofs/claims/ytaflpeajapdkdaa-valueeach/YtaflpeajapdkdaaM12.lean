import Derived.Test.YtaflpeajapdkdaaM9
import Derived.Test.YtaflpeajapdkdaaM11
import Derived.BigQuiet
import Derived.Test.YtaflpeajapdkdaaM7
import Derived.Deep.QuietTactic
namespace Go.Proofs.Ytaflpeajapdkdaa
open Go.RowKit
set_option linter.unusedVariables false
set_option linter.unusedSimpArgs false

theorem neg_iff (s : ByteArray) : Pl.neg s.data.toList = true ↔ ∃ h : 0 < s.size, s[0]'h = 45 := by
  unfold Pl.neg
  cases e : s.data.toList with
  | nil =>
    have : s.size = 0 := by rw [← sizeLn, e]; rfl
    simp [this]
  | cons c r =>
    have h0 : 0 < s.size := by rw [← sizeLn, e]; simp
    have hc : s[0]'h0 = c := by
      have := byteD' h0
      rw [e] at this
      exact this.symm
    constructor
    · intro h
      refine ⟨h0, ?_⟩
      rw [hc]; have h' : c.toNat = 45 := by simpa using h
      exact UInt8.toNat_inj.1 (by rw [h']; rfl)
    · rintro ⟨_, h⟩
      rw [hc] at h
      rw [h]; rfl

set_option maxRecDepth 100000 in
set_option maxHeartbeats 3200000 in
theorem w_Number (s : ByteArray) (w : World) (hs : s.size ≤ 281474976710656) :
    Calls Try.prog 17 #[.string s] w fun e w' => e = .returned (.bool (Pl.formed s.data.toList)) ∧ w' = w := by
  obtain ⟨f, hf⟩ : ∃ f, f = if Pl.neg s.data.toList then 1 else 0 := ⟨_, rfl⟩
  have HBad := Hid.mk (fun k hk h1 h2 => Pl.formed_bad s f hf k hk h1 h2)
  have HGood := Hid.mk (fun h1 h2 => Pl.formed_good s f hf h1 h2)
  have HShort := Hid.mk (fun h => Pl.formed_short s f hf h)
  have H48 : Hid (∀ b, (s.toList == [48]) = b → True) := fun _ _ => trivial
  obtain ⟨b48, hb48⟩ : ∃ b, (s.toList == [48]) = b := ⟨_, rfl⟩
  cases hneg : Pl.neg s.data.toList with
  | true =>
    obtain ⟨h0, h45⟩ := (neg_iff s).1 hneg
    rw [hneg] at hf
    have hf1 : f = 1 := hf
    subst hf1
    have hi0 : (0 : Int) < (s.size : Int) := by omega
    have hi1 : (1 : Int) ≤ (s.size : Int) := by omega
    obtain ⟨r, hr⟩ : ∃ r, s.extract 1 s.size = r := ⟨_, rfl⟩
    have hrl : r.data.toList = s.data.toList.drop 1 := by rw [← hr, Lib.extract_data]; exact List.take_of_length_le (by simp)
    have hrs : r.size = s.size - 1 := by rw [← sizeLn r, hrl, List.length_drop, sizeLn]
    have hget : ∀ i (h : i < r.size) (h' : 1 + i < s.size), r[i] = s[1 + i]'h' := by
      intro i h h'
      rw [← byteD' h, hrl, getD_dropN, byteD']
    have HG := Hid.mk hget
    have HRS := Hid.mk hrs
    have hrb : r.size ≤ 281474976710656 := by omega
    have hne1 : b48 = false := by
      rw [← hb48, beq_eq_false_iff_ne]
      intro e
      have := byteD' h0
      rw [h45] at this
      rw [Lib.toList_data] at e
      rw [e] at this
      cases this
    subst hne1
    clear hneg hf hrl hrs hget
    go_enter Try.func17, Try.ntmps17
    go_wp2_with fail
    clear hr
    go_loopw [4] (fun i wr => ∃ k : Nat, k ≤ r.size ∧ i = .int .i64 (k : Int) ∧ wr = w ∧ Hid (∀ j (h : j < r.size), j < k → Pl.isDig r[j] = true)) (fun i _ => r.size - (intOf i).toNat)
    case atStart => exact ⟨0, Nat.zero_le _, rfl, rfl, fun j h h2 => by omega⟩
    case round =>
      obtain ⟨k, hk, rfl, rfl, HQ⟩ := hrel
      by_cases hlt : k < r.size
      · have hl1 : (k : Int) < (r.size : Int) := by omega
        obtain ⟨c, hc⟩ : ∃ c, r[k]'hlt = c := ⟨_, rfl⟩
        obtain ⟨x, hx⟩ : ∃ x : Int, ((c.toNat : Nat) : Int) = x := ⟨_, rfl⟩
        have HX := Hid.mk hx
        have HC := Hid.mk hc
        have HBd : Hid (Pl.isDig c = false → Pl.formed s.data.toList = false) := by
          intro h
          have hrs := HRS.out
          exact HBad.out (1 + k) (by omega) (by omega) (by rw [← HG.out k hlt (by omega), HC.out]; exact h)
        have hx0 : 0 ≤ x := by omega
        have hx1 : x ≤ 255 := by have := c.toNat_lt; omega
        have hcs : x < 48 ∨ (¬ x < 48 ∧ 57 < x) ∨ (¬ x < 48 ∧ ¬ 57 < x) := by omega
        rcases hcs with a | ⟨a, b⟩ | ⟨a, b⟩
        · have HF := Hid.mk (HBd.out (by unfold Pl.isDig; rw [decide_eq_false (by have := HX.out; omega)]; rfl))
          go_wp2_with fail
          go_ret
          exact ⟨by rw [HF.out]; rfl, rfl⟩
        · have HF := Hid.mk (HBd.out (by unfold Pl.isDig; rw [decide_eq_false (p := c.toNat ≤ 57) (by have := HX.out; omega), Bool.and_false]))
          go_wp2_with fail
          go_ret
          exact ⟨by rw [HF.out]; rfl, rfl⟩
        · have HN : Hid (∀ j (h : j < r.size), j < k + 1 → Pl.isDig r[j] = true) := by
            intro j h h2
            rcases Nat.lt_or_ge j k with g | g
            · exact HQ.out j h g
            · obtain rfl : j = k := by omega
              rw [HC.out]; unfold Pl.isDig
              rw [decide_eq_true (by have := HX.out; omega), decide_eq_true (by have := HX.out; omega)]; rfl
          go_wp2_with fail
          go_roundw
          case rel => exact ⟨k + 1, hlt, by go_num, trivial, HN⟩
          case measure => simp [intOf]; omega
      · have hl1 : ¬ (k : Int) < (r.size : Int) := by omega
        by_cases hz : r.size = 0
        · have hz1 : ((r.size : Int) == 0) = true := by rw [hz]; rfl
          have HF : Hid (Pl.formed s.data.toList = false) := HShort.out (by have := HRS.out; omega)
          clear hz
          go_wp2_with fail
          go_ret
          exact ⟨by rw [HF.out]; rfl, rfl⟩
        · have hz1 : ((r.size : Int) == 0) = false := by rw [beq_eq_false_iff_ne]; omega
          have hr0 : 0 < r.size := by omega
          have hri : (0 : Int) < (r.size : Int) := by omega
          obtain ⟨c, hc⟩ : ∃ c, r[0]'hr0 = c := ⟨_, rfl⟩
          have HF : Hid (Pl.formed s.data.toList = (!(((c.toNat : Nat) : Int) == 48) || false)) := by
            have hrs := HRS.out
            have h := HGood.out (by omega) (fun j hj hj1 => by
              have hg := HG.out (j - 1) (by omega) (by omega)
              have hjj : 1 + (j - 1) = j := by omega
              simp only [hjj] at hg
              rw [← hg]; exact HQ.out _ (by omega) (by omega))
            rw [hb48, ← HG.out 0 hr0 (by omega), hc] at h
            exact h
          by_cases hc48 : (((c.toNat : Nat) : Int) == 48) = true
          · have HF2 : Hid (Pl.formed s.data.toList = false) := by rw [HF.out, hc48]; rfl
            clear hz HF
            go_wp2_with fail
            go_ret
            exact ⟨by rw [HF2.out]; rfl, rfl⟩
          · have hc48' : (((c.toNat : Nat) : Int) == 48) = false := by simpa using hc48
            have HF2 : Hid (Pl.formed s.data.toList = true) := by rw [HF.out, hc48']; rfl
            clear hz HF hc48
            go_wp2_with fail
            go_ret
            exact ⟨by rw [HF2.out]; rfl, rfl⟩
  | false =>
    rw [hneg] at hf
    have hf1 : f = 0 := hf
    subst hf1
    have hfst : s.size = 0 ∨ ∃ h : 0 < s.size, s[0]'h ≠ 45 := by
      rcases Nat.eq_zero_or_pos s.size with h | h
      · exact .inl h
      · refine .inr ⟨h, fun e => ?_⟩
        have := (neg_iff s).2 ⟨h, e⟩
        rw [hneg] at this; cases this
    clear hneg hf
    rcases hfst with hz | ⟨h0, h45⟩
    · have hz1 : ((s.size : Int) == 0) = true := by rw [hz]; rfl
      have hz2 : ¬ (0 : Int) < (s.size : Int) := by omega
      have HF : Hid (Pl.formed s.data.toList = false) := HShort.out hz.symm
      have HZ := Hid.mk hz
      clear hz
      go_enter Try.func17, Try.ntmps17
      go_wp2_with fail
      go_loopw [4] (fun i wr => i = .int .i64 0 ∧ wr = w) (fun i _ => 0)
      case atStart => exact ⟨rfl, rfl⟩
      case round =>
        obtain ⟨rfl, rfl⟩ := hrel
        go_wp2_with fail
        go_ret
        exact ⟨by rw [HF.out]; rfl, rfl⟩
    · have hi0 : (0 : Int) < (s.size : Int) := by omega
      have hb45 : ((((s[0]'h0).toNat : Nat) : Int) == 45) = false := by
        rw [beq_eq_false_iff_ne]; intro e; apply h45; apply UInt8.toNat_inj.1
        have : (45 : UInt8).toNat = 45 := rfl
        omega
      clear h45
      go_enter Try.func17, Try.ntmps17
      go_wp2_with fail
      go_loopw [4] (fun i wr => ∃ k : Nat, k ≤ s.size ∧ i = .int .i64 (k : Int) ∧ wr = w ∧ Hid (∀ j (h : j < s.size), j < k → Pl.isDig s[j] = true)) (fun i _ => s.size - (intOf i).toNat)
      case atStart => exact ⟨0, Nat.zero_le _, rfl, rfl, fun j h h2 => by omega⟩
      case round =>
        obtain ⟨k, hk, rfl, rfl, HQ⟩ := hrel
        by_cases hlt : k < s.size
        · have hl1 : (k : Int) < (s.size : Int) := by omega
          obtain ⟨c, hc⟩ : ∃ c, s[k]'hlt = c := ⟨_, rfl⟩
          obtain ⟨x, hx⟩ : ∃ x : Int, ((c.toNat : Nat) : Int) = x := ⟨_, rfl⟩
          have HX := Hid.mk hx
          have HC := Hid.mk hc
          have HBd : Hid (Pl.isDig c = false → Pl.formed s.data.toList = false) := fun h => HBad.out k hlt (Nat.zero_le _) (by rw [HC.out]; exact h)
          have hx0 : 0 ≤ x := by omega
          have hx1 : x ≤ 255 := by have := c.toNat_lt; omega
          have hcs : x < 48 ∨ (¬ x < 48 ∧ 57 < x) ∨ (¬ x < 48 ∧ ¬ 57 < x) := by omega
          rcases hcs with a | ⟨a, b⟩ | ⟨a, b⟩
          · have HF := Hid.mk (HBd.out (by unfold Pl.isDig; rw [decide_eq_false (by have := HX.out; omega)]; rfl))
            go_wp2_with fail
            go_ret
            exact ⟨by rw [HF.out]; rfl, rfl⟩
          · have HF := Hid.mk (HBd.out (by unfold Pl.isDig; rw [decide_eq_false (p := c.toNat ≤ 57) (by have := HX.out; omega), Bool.and_false]))
            go_wp2_with fail
            go_ret
            exact ⟨by rw [HF.out]; rfl, rfl⟩
          · have HN : Hid (∀ j (h : j < s.size), j < k + 1 → Pl.isDig s[j] = true) := by
              intro j h h2
              rcases Nat.lt_or_ge j k with g | g
              · exact HQ.out j h g
              · obtain rfl : j = k := by omega
                rw [HC.out]; unfold Pl.isDig
                rw [decide_eq_true (by have := HX.out; omega), decide_eq_true (by have := HX.out; omega)]; rfl
            go_wp2_with fail
            go_roundw
            case rel => exact ⟨k + 1, hlt, by go_num, trivial, HN⟩
            case measure => simp [intOf]; omega
        · have hl1 : ¬ (k : Int) < (s.size : Int) := by omega
          have hz1 : ((s.size : Int) == 0) = false := by rw [beq_eq_false_iff_ne]; omega
          obtain ⟨c, hc⟩ : ∃ c, s[0]'h0 = c := ⟨_, rfl⟩
          have HF : Hid (Pl.formed s.data.toList = (!(((c.toNat : Nat) : Int) == 48) || b48)) := by
            have h := HGood.out h0 (fun j hj hj1 => HQ.out j hj (by omega))
            rw [hb48, hc] at h
            exact h
          by_cases hc48 : (((c.toNat : Nat) : Int) == 48) = true
          · cases b48 with
            | true =>
              have HF2 : Hid (Pl.formed s.data.toList = true) := by rw [HF.out, hc48]; rfl
              clear HF
              go_wp2_with fail
              go_ret
              exact ⟨by rw [HF2.out]; rfl, rfl⟩
            | false =>
              have HF2 : Hid (Pl.formed s.data.toList = false) := by rw [HF.out, hc48]; rfl
              clear HF
              go_wp2_with fail
              go_ret
              exact ⟨by rw [HF2.out]; rfl, rfl⟩
          · have hc48' : (((c.toNat : Nat) : Int) == 48) = false := by simpa using hc48
            have HF2 : Hid (Pl.formed s.data.toList = true) := by rw [HF.out, hc48']; rfl
            clear HF hc48
            go_wp2_with fail
            go_ret
            exact ⟨by rw [HF2.out]; rfl, rfl⟩
end Go.Proofs.Ytaflpeajapdkdaa
namespace Go.Proofs.Ytaflpeajapdkdaa
open Go.RowKit
set_option linter.unusedVariables false
set_option linter.unusedSimpArgs false

theorem InH.open {W : World} {h : Nat} {T : VT} {v : Value} (hI : InH W (h + 1) T v) : ∃ (io : Option Addr) (icap : Nat) (ko : Option Addr) (kcap : Nat),
      v = .agg #[.int .i64 T.kind, .string T.num, .string T.text, .slice io T.items.length icap, .slice ko T.keys.length kcap] ∧
      T.num.size ≤ 140737488355328 ∧ T.text.size ≤ 140737488355328 ∧ T.items.length ≤ 140737488355328 ∧ T.keys.length ≤ 140737488355328 ∧ T.items.length ≤ icap ∧ T.keys.length ≤ kcap ∧
      (∀ k ∈ T.keys, k.size ≤ 140737488355328) ∧ KIn W ko T.keys ∧ IIn W h io T.items := by
  obtain ⟨io, icap, ko, kcap, e, a1, a2, a3, a4, a5, a6, a7, hk, hi⟩ := hI
  exact ⟨io, icap, ko, kcap, e, a1, a2, a3, a4, a5, a6, a7, hk, ⟨hi⟩⟩

/-- what Parts may answer -/
def PtR (most : Int) (w w' : World) (e : Ending) : Prop := ∃ p : Int, e = .returned (.int .i64 p) ∧ 0 ≤ p ∧ p ≤ most + 140737488355329 ∧ Below w.heap.size w w'

set_option maxRecDepth 100000 in
set_option maxHeartbeats 3200000 in
theorem w_Parts : ∀ (h : Nat) (T : VT) (v : Value) (w : World) (most : Int), InH w h T v → 0 ≤ most → most ≤ 10000 → Calls Try.prog 16 #[v, .int .i64 most] w fun e w' => PtR most w w' e := by
  intro h
  induction h with
  | zero => intro T v w most hI; exact hI.elim
  | succ h ih =>
    intro T v w most hI h0 h1
    obtain ⟨io, icap, ko, kcap, rfl, a1, a2, a3, a4, a5, a6, a7, hk, hi⟩ := hI.open
    have HX := Hid.mk (vbx_new w (.int .i64 T.kind) (.string T.num) (.string T.text) (.slice io T.items.length icap) (.slice ko T.keys.length kcap))
    have HI := Hid.mk (hi.keep HX.out.below)
    have HIh := Hid.mk ih
    generalize T.kind = kd at *
    generalize T.num = nm at *
    generalize T.text = tx at *
    obtain ⟨ts, hts⟩ : ∃ ts, T.items = ts := ⟨_, rfl⟩
    rw [hts] at HI HX a3 a5 ⊢
    obtain ⟨N, hN⟩ : ∃ N, ts.length = N := ⟨_, rfl⟩
    have HNN := Hid.mk hN
    rw [hN] at HX HI a3 a5 ⊢
    obtain ⟨K, hK⟩ : ∃ K, T.keys.length = K := ⟨_, rfl⟩
    rw [hK] at HX HI a4 a6 ⊢
    clear hi hk hI ih a7 hts hN hK
    obtain ⟨W0, hW0⟩ : ∃ W0, W0 = w.alloc (.cells #[.int .i64 kd, .string nm, .string tx, .slice io N icap, .slice ko K kcap] 25) := ⟨_, rfl⟩
    go_enter Try.func16, Try.ntmps16
    go_wp2_with fail
    rw [← hW0] at HX HI ⊢
    clear hW0
    go_loopw [5, 6] (fun nn i wr => ∃ (n : Int) (k : Nat), 0 ≤ n ∧ n ≤ most + 140737488355329 ∧ k ≤ N ∧ nn = .int .i64 n ∧ i = .int .i64 (k : Int) ∧ Hid (Below W0.heap.size W0 wr)) (fun _ i _ => N - (intOf i).toNat)
    case atStart => exact ⟨1 + (K : Int), 0, by omega, by omega, Nat.zero_le _, rfl, rfl, Below.refl _ _⟩
    case round =>
      obtain ⟨n, k, hn0, hn1, hk, rfl, rfl, HB⟩ := hrel
      have HXw := Hid.mk (HX.out.keep HB.out)
      have g3 := HXw.out.c3
      have g4 := HXw.out.c4
      by_cases hlt : k < N
      · have hl1 : (k : Int) < (N : Int) := by omega
        by_cases hm : n ≤ most
        · obtain ⟨b, off, hio, hbl, hrow⟩ := (HI.out.keep HB.out).row (by rw [HNN.out]; omega)
          subst hio
          obtain ⟨v0, v1, v2, v3, v4, ⟨c0, c1, c2, c3, c4⟩, ht⟩ := hrow k (by rw [HNN.out]; exact hlt)
          have HC := Hid.mk (HIh.out _ _ wr (most - n) ht (by omega) (by omega))
          unfold PtR at HC
          clear ht hrow hbl
          go_wp2_with fail
          refine HC.out.mono ?_
          rintro e w2 ⟨p, rfl, hp0, hp1, hb2⟩
          have HB2 := Hid.mk (below_more HB.out hb2)
          clear hb2 c0 c1 c2 c3 c4 HC g3 g4
          go_wp2_with fail
          go_roundw
          case rel => exact ⟨n + p, k + 1, by omega, by omega, hlt, by go_num, by go_num, HB2⟩
          case measure => simp [intOf]; omega
        · have hm1 : ¬ n ≤ most := hm
          go_wp2_with fail
          go_ret
          exact ⟨n, rfl, hn0, hn1, HXw.out.below⟩
      · have hl1 : ¬ (k : Int) < (N : Int) := by omega
        go_wp2_with fail
        go_ret
        exact ⟨n, rfl, hn0, hn1, HXw.out.below⟩

set_option maxRecDepth 100000 in
set_option maxHeartbeats 800000 in
theorem w_small (h : Nat) (T : VT) (v : Value) (w : World) (hI : InH w h T v) : Calls Try.prog 5 #[v] w fun e w' => ∃ b : Bool, e = .returned (.bool b) ∧ Below w.heap.size w w' := by
  cases h with
  | zero => exact hI.elim
  | succ h =>
    have hP := fun u hu => w_Parts (h + 1) T v u 10000 (hI.keep hu) (by omega) (by omega)
    obtain ⟨io, icap, ko, kcap, rfl, a1, a2, a3, a4, a5, a6, a7, hk, hi⟩ := hI.open
    have HX := Hid.mk (vbx_new w (.int .i64 T.kind) (.string T.num) (.string T.text) (.slice io T.items.length icap) (.slice ko T.keys.length kcap))
    have HC := Hid.mk (hP _ HX.out.below)
    unfold PtR at HC
    clear hP hi hk hI a7
    go_enter Try.func5, Try.ntmps5
    go_wp2_with fail
    refine HC.out.mono ?_
    rintro e w2 ⟨p, rfl, hp0, hp1, hb2⟩
    have HB2 := Hid.mk (HX.out.keep hb2).below
    clear hb2 HC
    go_wp2_with fail
    go_ret
    exact ⟨_, rfl, HB2.out⟩

/-- the keys up to k: UTF-8; each above the one ahead -/
def oK (keys : List ByteArray) (k : Nat) : Bool := (List.range k).all fun i => okB (keys.getD i .empty).data.toList
def rA (keys : List ByteArray) (i : Nat) : Bool := Op.bytesLess (keys.getD (i - 1) .empty).toList (keys.getD i .empty).toList
def rK (keys : List ByteArray) (k : Nat) : Bool := (List.range k).all fun i => i == 0 || rA keys i
theorem oK_up (keys : List ByteArray) (k : Nat) : oK keys (k + 1) = (oK keys k && okB (keys.getD k .empty).data.toList) := by simp [oK, List.range_succ]
theorem rK_up (keys : List ByteArray) (k : Nat) : rK keys (k + 1) = (rK keys k && (k == 0 || rA keys k)) := by simp [rK, List.range_succ]
theorem all_false_of {f : Nat → Bool} {k N : Nat} (h : k < N) (hf : f k = false) : (List.range N).all f = false := by
  rw [List.all_eq_false]; exact ⟨k, List.mem_range.2 h, by simp [hf]⟩
theorem oK_no {keys : List ByteArray} {k N : Nat} (h : k < N) (hf : okB (keys.getD k .empty).data.toList = false) : oK keys N = false := all_false_of h hf
theorem rK_no {keys : List ByteArray} {k N : Nat} (h : k < N) (h0 : k ≠ 0) (hf : rA keys k = false) : rK keys N = false := all_false_of (f := fun i => i == 0 || rA keys i) h (by simp [hf, h0])
theorem key_size {keys : List ByteArray} (h : ∀ k ∈ keys, k.size ≤ 140737488355328) {i : Nat} (hi : i < keys.length) : (keys.getD i .empty).size ≤ 140737488355328 := by
  apply h
  rw [List.getD_eq_getElem?_getD, List.getElem?_eq_getElem hi]; exact List.getElem_mem hi

set_option maxRecDepth 100000 in
set_option maxHeartbeats 3200000 in
theorem w_allValid (ko : Option Addr) (K kcap : Nat) (keys : List ByteArray) (w : World) (hk : KIn w ko keys) (hK : keys.length = K) (hcap : K ≤ kcap) (hK2 : K ≤ 140737488355328) (hs : ∀ k ∈ keys, k.size ≤ 140737488355328) :
    Calls Try.prog 32 #[.slice ko K kcap] w fun e w' => e = .returned (.bool (oK keys K)) ∧ Below w.heap.size w w' := by
  have HK := Hid.mk hk
  have HKK := Hid.mk hK
  have HSz := Hid.mk (fun i (hi : i < keys.length) => key_size hs hi)
  clear hk hK hs
  go_enter Try.func32, Try.ntmps32
  go_wp2_with fail
  go_loopw [7] (fun i wr => ∃ k : Nat, k ≤ K ∧ i = .int .i64 (k : Int) ∧ Hid (Below w.heap.size w wr) ∧ Hid (oK keys k = true)) (fun i _ => K - (intOf i).toNat)
  case atStart => exact ⟨0, Nat.zero_le _, rfl, Below.refl _ _, rfl⟩
  case round =>
    obtain ⟨k, hk, rfl, HB, HQ⟩ := hrel
    by_cases hlt : k < K
    · have hl1 : (k : Int) < (K : Int) := by omega
      have hkl : k < keys.length := by rw [HKK.out]; exact hlt
      obtain ⟨b, off, hko, hbl, hrow⟩ := (HK.out.keep HB.out).row (by omega)
      subst hko
      have c0 := hrow k hkl
      have hsz := HSz.out k hkl
      have HUp := Hid.mk (oK_up keys k)
      have HNo := Hid.mk (fun h => oK_no (keys := keys) hlt h)
      generalize keys.getD k ByteArray.empty = s at c0 hsz HUp HNo
      have HV := Hid.mk (w_Valid s wr (by omega))
      clear hrow hbl hkl
      cases hok : okB s.data.toList with
      | true =>
        rw [hok] at HV HUp
        have HN : Hid (oK keys (k + 1) = true) := by rw [HUp.out, HQ.out]; rfl
        clear hok
        go_wp2_with fail
        refine HV.out.mono ?_
        rintro e w2 ⟨rfl, hb2⟩
        have HB2 := Hid.mk (HB.out.trans (hb2.mono HB.out.size))
        clear hb2
        go_wp2_with fail
        go_roundw
        case rel => exact ⟨k + 1, hlt, by go_num, HB2, HN⟩
        case measure => simp [intOf]; omega
      | false =>
        have HF := Hid.mk (HNo.out hok)
        rw [hok] at HV
        clear hok
        go_wp2_with fail
        refine HV.out.mono ?_
        rintro e w2 ⟨rfl, hb2⟩
        have HB2 := Hid.mk (HB.out.trans (hb2.mono HB.out.size))
        clear hb2
        go_wp2_with fail
        go_ret
        exact ⟨by rw [HF.out]; rfl, HB2.out⟩
    · have hl1 : ¬ (k : Int) < (K : Int) := by omega
      have HF : Hid (oK keys K = true) := by
        have e : k = K := by omega
        rw [← e]; exact HQ
      go_wp2_with fail
      go_ret
      exact ⟨by rw [HF.out]; rfl, HB.out⟩

set_option maxRecDepth 100000 in
set_option maxHeartbeats 3200000 in
theorem w_rising (ko : Option Addr) (K kcap : Nat) (keys : List ByteArray) (w : World) (hk : KIn w ko keys) (hK : keys.length = K) (hcap : K ≤ kcap) (hK2 : K ≤ 140737488355328) :
    Calls Try.prog 31 #[.slice ko K kcap] w fun e w' => e = .returned (.bool (rK keys K)) ∧ Below w.heap.size w w' := by
  have HK := Hid.mk hk
  have HKK := Hid.mk hK
  clear hk hK
  go_enter Try.func31, Try.ntmps31
  go_wp2_with fail
  go_loopw [3] (fun i wr => ∃ j : Nat, (j + 1 ≤ K ∨ K = 0 ∧ j = 0) ∧ i = .int .i64 ((j : Int) + 1) ∧ Hid (Below w.heap.size w wr) ∧ Hid (rK keys (j + 1) = true)) (fun i _ => K - (intOf i).toNat)
  case atStart => exact ⟨0, by omega, rfl, Below.refl _ _, rfl⟩
  case round =>
    obtain ⟨j, hk, rfl, HB, HQ⟩ := hrel
    by_cases hlt : j + 1 < K
    · have hl1 : (j : Int) + 1 < (K : Int) := by omega
      have hl2 : (j : Int) < (K : Int) := by omega
      have hj0 : (j : Int) + 1 - 1 = (j : Int) := by omega
      have z0 : (0 : Int) ≤ (j : Int) := by omega
      have z1 : (0 : Int) ≤ (j : Int) + 1 := by omega
      have wj : IntKind.i64.wrap (j : Int) = (j : Int) := by rw [IntKind.wrap_i64]; omega
      have hjw : IntKind.i64.wrap ((j : Int) + 1 - 1) = (j : Int) := by rw [IntKind.wrap_i64]; omega
      obtain ⟨b, off, hko, hbl, hrow⟩ := (HK.out.keep HB.out).row (by rw [HKK.out]; omega)
      subst hko
      have c0 := hrow j (by rw [HKK.out]; omega)
      have c1 := hrow (j + 1) (by rw [HKK.out]; omega)
      have HUp := Hid.mk (rK_up keys (j + 1))
      have HNo := Hid.mk (fun h => rK_no (keys := keys) (k := j + 1) hlt (by omega) h)
      unfold rA at HUp HNo
      rw [Nat.add_sub_cancel] at HUp HNo
      generalize keys.getD j ByteArray.empty = s at c0 HUp HNo
      generalize keys.getD (j + 1) ByteArray.empty = t at c1 HUp HNo
      clear hrow hbl
      cases hlss : Op.bytesLess s.toList t.toList with
      | true =>
        rw [hlss] at HUp
        have HN : Hid (rK keys (j + 1 + 1) = true) := by show _ = _; rw [HUp.out, HQ.out]; simp
        go_wp2_with fail
        go_quiet (fail)
        have HB2 : Hid (Below w.heap.size w (wr.drewN nq)) := ⟨HB.out.os, HB.out.tape, HB.out.output, HB.out.size, HB.out.block⟩
        go_wp2_with fail
        go_roundw
        case rel => exact ⟨j + 1, by omega, by go_num, HB2, HN⟩
        case measure => simp [intOf]; omega
      | false =>
        have HF := Hid.mk (HNo.out hlss)
        go_wp2_with fail
        go_quiet (fail)
        have HB2 : Hid (Below w.heap.size w (wr.drewN nq)) := ⟨HB.out.os, HB.out.tape, HB.out.output, HB.out.size, HB.out.block⟩
        go_wp2_with fail
        go_ret
        exact ⟨by rw [HF.out]; rfl, HB2.out⟩
    · have hl1 : ¬ (j : Int) + 1 < (K : Int) := by omega
      have HF : Hid (rK keys K = true) := by
        rcases hk with h | ⟨h, _⟩
        · have e : j + 1 = K := by omega
          rw [← e]; exact HQ
        · rw [h]; rfl
      go_wp2_with fail
      go_ret
      exact ⟨by rw [HF.out]; rfl, HB.out⟩
end Go.Proofs.Ytaflpeajapdkdaa
namespace Go.Proofs.Ytaflpeajapdkdaa
open Go.RowKit
set_option linter.unusedVariables false
set_option linter.unusedSimpArgs false

set_option maxRecDepth 100000 in
set_option maxHeartbeats 3200000 in
theorem w_Rise (ko : Option Addr) (K kcap : Nat) (keys : List ByteArray) (w : World) (hk : KIn w ko keys) (hK : keys.length = K) (hcap : K ≤ kcap) (hK2 : K ≤ 140737488355328) (hs : ∀ k ∈ keys, k.size ≤ 140737488355328) :
    Calls Try.prog 19 #[.slice ko K kcap] w fun e w' => e = .returned (.bool (rK keys K && oK keys K)) ∧ Below w.heap.size w w' := by
  have HK := Hid.mk hk
  have HKK := Hid.mk hK
  have HSz := Hid.mk (fun i (hi : i < keys.length) => key_size hs hi)
  clear hk hK hs
  go_enter Try.func19, Try.ntmps19
  go_wp2_with fail
  go_loopw [3] (fun i wr => ∃ k : Nat, k ≤ K ∧ i = .int .i64 (k : Int) ∧ Hid (Below w.heap.size w wr) ∧ Hid (oK keys k = true ∧ rK keys k = true)) (fun i _ => K - (intOf i).toNat)
  case atStart => exact ⟨0, Nat.zero_le _, rfl, Below.refl _ _, rfl, rfl⟩
  case round =>
    obtain ⟨k, hk, rfl, HB, HQ⟩ := hrel
    by_cases hlt : k < K
    · have hl1 : (k : Int) < (K : Int) := by omega
      have hkl : k < keys.length := by rw [HKK.out]; exact hlt
      obtain ⟨b, off, hko, hbl, hrow⟩ := (HK.out.keep HB.out).row (by omega)
      subst hko
      have c1 := hrow k hkl
      have hsz := HSz.out k hkl
      have HUp := Hid.mk (oK_up keys k)
      have HUr := Hid.mk (rK_up keys k)
      have HNo := Hid.mk (fun h => oK_no (keys := keys) hlt h)
      have HU := Hid.mk (fun u => w_UTF (keys.getD k ByteArray.empty) u (by omega))
      cases hok : okB (keys.getD k ByteArray.empty).data.toList with
      | false =>
        have HF : Hid ((rK keys K && oK keys K) = false) := by show _ = _; rw [HNo.out hok, Bool.and_false]
        rw [hok] at HU
        generalize keys.getD k ByteArray.empty = t at c1 HU
        clear hok hrow hbl hkl hsz HUp HUr
        go_wp2_with fail
        refine (HU.out _).mono ?_
        rintro e w2 ⟨rfl, hw⟩
        obtain rfl := hw.symm
        go_wp2_with fail
        go_ret
        exact ⟨by rw [HF.out]; rfl, HB.out⟩
      | true =>
        rw [hok] at HU
        have HOn : Hid (oK keys (k + 1) = true) := by show _ = _; rw [HUp.out, HQ.out.1, hok]; rfl
        rcases Nat.eq_zero_or_pos k with h0 | h0
        · subst h0
          have hl0 : (0 : Int) < (K : Int) := by omega
          have HN : Hid (oK keys (0 + 1) = true ∧ rK keys (0 + 1) = true) := ⟨HOn.out, by rw [HUr.out, HQ.out.2]; rfl⟩
          generalize keys.getD 0 ByteArray.empty = t at c1 HU
          rw [Nat.add_zero] at c1
          clear hok hrow hbl hkl hsz HUp HUr hl1
          go_wp2_with fail
          refine (HU.out _).mono ?_
          rintro e w2 ⟨rfl, hw⟩
          obtain rfl := hw.symm
          go_wp2_with fail
          go_quiet (fail)
          have HB2 : Hid (Below w.heap.size w (wr.drewN nq)) := ⟨HB.out.os, HB.out.tape, HB.out.output, HB.out.size, HB.out.block⟩
          go_wp2_with fail
          go_roundw
          case rel => exact ⟨0 + 1, hlt, by go_num, HB2, HN⟩
          case measure => simp [intOf]; omega
        · obtain ⟨j, hj⟩ : ∃ j, k = j + 1 := ⟨k - 1, by omega⟩
          subst hj
          have c0 := hrow j (by omega)
          have HRn := Hid.mk (fun h => rK_no (keys := keys) (k := j + 1) hlt (by omega) h)
          have HRe : Hid (rA keys (j + 1) = Op.bytesLess (keys.getD j ByteArray.empty).toList (keys.getD (j + 1) ByteArray.empty).toList) := by show _ = _; unfold rA; rw [Nat.add_sub_cancel]
          have hgt : (0 : Int) < (j : Int) + 1 := by omega
          have hcast : (((j + 1 : Nat)) : Int) = (j : Int) + 1 := by omega
          have hl2 : (j : Int) < (K : Int) := by omega
          have hl3 : (j : Int) + 1 < (K : Int) := by omega
          have z0 : (0 : Int) ≤ (j : Int) := by omega
          have z1 : (0 : Int) ≤ (j : Int) + 1 := by omega
          have wj : IntKind.i64.wrap (j : Int) = (j : Int) := by rw [IntKind.wrap_i64]; omega
          have hj0 : (j : Int) + 1 - 1 = (j : Int) := by omega
          have hjw : IntKind.i64.wrap ((j : Int) + 1 - 1) = (j : Int) := by rw [IntKind.wrap_i64]; omega
          cases hlss : Op.bytesLess (keys.getD j ByteArray.empty).toList (keys.getD (j + 1) ByteArray.empty).toList with
          | true =>
            have HN : Hid (oK keys (j + 1 + 1) = true ∧ rK keys (j + 1 + 1) = true) := ⟨HOn.out, by rw [HUr.out, HQ.out.2, HRe.out, hlss]; simp⟩
            generalize keys.getD j ByteArray.empty = s at c0 hlss
            generalize keys.getD (j + 1) ByteArray.empty = t at c1 HU hlss
            clear hok hrow hbl hkl hsz HUp HUr h0 HRe
            go_wp2_with fail
            refine (HU.out _).mono ?_
            rintro e w2 ⟨rfl, hw⟩
            obtain rfl := hw.symm
            go_wp2_with fail
            go_quiet (fail)
            have HB2 : Hid (Below w.heap.size w (wr.drewN nq)) := ⟨HB.out.os, HB.out.tape, HB.out.output, HB.out.size, HB.out.block⟩
            go_wp2_with fail
            go_roundw
            case rel => exact ⟨j + 1 + 1, hlt, by go_num, HB2, HN⟩
            case measure => simp [intOf]; omega
          | false =>
            have HF : Hid ((rK keys K && oK keys K) = false) := by show _ = _; rw [HRn.out (by rw [HRe.out]; exact hlss), Bool.false_and]
            generalize keys.getD j ByteArray.empty = s at c0 hlss
            generalize keys.getD (j + 1) ByteArray.empty = t at c1 HU hlss
            clear hok hrow hbl hkl hsz HUp HUr h0 HRe
            go_wp2_with fail
            refine (HU.out _).mono ?_
            rintro e w2 ⟨rfl, hw⟩
            obtain rfl := hw.symm
            go_wp2_with fail
            go_quiet (fail)
            have HB2 : Hid (Below w.heap.size w (wr.drewN nq)) := ⟨HB.out.os, HB.out.tape, HB.out.output, HB.out.size, HB.out.block⟩
            go_wp2_with fail
            go_ret
            exact ⟨by rw [HF.out]; rfl, HB2.out⟩
    · have hl1 : ¬ (k : Int) < (K : Int) := by omega
      have HF : Hid ((rK keys K && oK keys K) = true) := by
        have e : k = K := by omega
        rw [← e, HQ.out.1, HQ.out.2]; rfl
      go_wp2_with fail
      go_ret
      exact ⟨by rw [HF.out]; rfl, HB.out⟩

/-- nothing but a kind -/
def bareB (nm tx : ByteArray) (N K : Nat) : Bool := nm.toList.isEmpty && tx.toList.isEmpty && decide (N = 0) && decide (K = 0)

set_option maxRecDepth 100000 in
set_option maxHeartbeats 1600000 in
theorem w_bare (kd : Int) (nm tx : ByteArray) (io : Option Addr) (N icap : Nat) (ko : Option Addr) (K kcap : Nat) (w : World) :
    Calls Try.prog 33 #[.agg #[.int .i64 kd, .string nm, .string tx, .slice io N icap, .slice ko K kcap]] w fun e w' => e = .returned (.bool (bareB nm tx N K)) ∧ Below w.heap.size w w' := by
  have HX := Hid.mk (vbx_new w (.int .i64 kd) (.string nm) (.string tx) (.slice io N icap) (.slice ko K kcap))
  unfold bareB
  cases h1 : nm.toList.isEmpty with
  | false =>
    go_enter Try.func33, Try.ntmps33
    go_wp2_with fail
    go_ret
    exact ⟨rfl, HX.out.below⟩
  | true =>
    cases h2 : tx.toList.isEmpty with
    | false =>
      go_enter Try.func33, Try.ntmps33
      go_wp2_with fail
      go_ret
      exact ⟨rfl, HX.out.below⟩
    | true =>
      by_cases h3 : N = 0
      · have h31 : ((N : Int) == 0) = true := by rw [beq_iff_eq]; omega
        have HD : Hid (decide (N = 0) = true) := decide_eq_true h3
        by_cases h4 : K = 0
        · have h41 : ((K : Int) == 0) = true := by rw [beq_iff_eq]; omega
          have HD2 : Hid (decide (K = 0) = true) := decide_eq_true h4
          clear h3 h4
          go_enter Try.func33, Try.ntmps33
          go_wp2_with fail
          go_ret
          exact ⟨by rw [HD.out, HD2.out]; rfl, HX.out.below⟩
        · have h41 : ((K : Int) == 0) = false := by rw [beq_eq_false_iff_ne]; omega
          have HD2 : Hid (decide (K = 0) = false) := decide_eq_false h4
          clear h3 h4
          go_enter Try.func33, Try.ntmps33
          go_wp2_with fail
          go_ret
          exact ⟨by rw [HD.out, HD2.out]; rfl, HX.out.below⟩
      · have h31 : ((N : Int) == 0) = false := by rw [beq_eq_false_iff_ne]; omega
        have HD : Hid (decide (N = 0) = false) := decide_eq_false h3
        clear h3
        go_enter Try.func33, Try.ntmps33
        go_wp2_with fail
        go_ret
        exact ⟨by rw [HD.out]; rfl, HX.out.below⟩

theorem emp_e : ByteArray.empty.toList.isEmpty = true := by rw [Lib.toList_data]; rfl

/-- which values are well shaped -/
def formV (k : Int) (nm tx : ByteArray) (N K : Nat) (A RO : Bool) : Bool :=
  if k = 0 ∨ k = 1 ∨ k = 2 then bareB nm tx N K
  else if k = 3 then Pl.formed nm.data.toList && bareB .empty tx N K
  else if k = 4 then okB tx.data.toList && bareB nm .empty N K
  else if k = 5 then A && bareB nm tx 0 K
  else if k = 6 then decide (K = N) && RO && A && bareB nm tx 0 0
  else false
def formN : Nat → VT → Bool
  | 0, _ => false
  | h + 1, T => formV T.kind T.num T.text T.items.length T.keys.length (T.items.all (formN h)) (rK T.keys T.keys.length && oK T.keys T.keys.length)
end Go.Proofs.Ytaflpeajapdkdaa
