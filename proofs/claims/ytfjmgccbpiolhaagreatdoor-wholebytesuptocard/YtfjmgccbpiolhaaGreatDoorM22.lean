import Derived.Test.YtfjmgccbpiolhaaGreatDoorM21
import Derived.Laws.EntriesVeiled
import Derived.Deep.RegionHeld3
import Derived.Test.YtfjmgccbpiolhaaGreatDoorM16
import Derived.Deep.QuietTactic
namespace Go.Proofs.YtfjmgccbpiolhaaGreatDoor
open Go.RowKit
set_option linter.unusedVariables false
set_option linter.unusedSimpArgs false
theorem VB2.drew {w u : World} {a b c d e b' c' d' e' : Value} (h : VB2 w u a b c d e b' c' d' e') : VB2 w u.drew a b c d e b' c' d' e' := ⟨h.one.drew, h.two.drew⟩
structure VCm (w w2 u : World) (k : Nat) (f a b c d e b' c' d' e' : Value) : Prop where
  v : VB2 w u a b c d e b' c' d' e'
  way : u.cell? ⟨w2.heap.size, k, none⟩ = some f
  lt : w2.heap.size < u.heap.size
theorem VCm.keep {w w2 u u' : World} {k : Nat} {f a b c d e b' c' d' e' : Value} (h : VCm w w2 u k f a b c d e b' c' d' e') (hb : Below u.heap.size u u') : VCm w w2 u' k f a b c d e b' c' d' e' :=
  ⟨h.v.keep hb, (hb.cell (p := ⟨_, _, _⟩) h.lt).trans h.way, Nat.lt_of_lt_of_le h.lt hb.size⟩
theorem VCm.drew {w w2 u : World} {k : Nat} {f a b c d e b' c' d' e' : Value} (h : VCm w w2 u k f a b c d e b' c' d' e') : VCm w w2 u.drew k f a b c d e b' c' d' e' := ⟨h.v.drew, h.way, h.lt⟩
end Go.Proofs.YtfjmgccbpiolhaaGreatDoor
namespace Go.Proofs.YtfjmgccbpiolhaaGreatDoor
open Go.RowKit
set_option linter.unusedVariables false
set_option linter.unusedSimpArgs false

theorem w_rTexts (a b : ByteArray) (w : World) :
    Calls Tryz.prog 101 #[.string a, .string b] w fun e w' => e = .returned (.int .i64 (keyC a b)) ∧ w' = w := by
  cases h1 : Op.bytesLess a.toList b.toList with
  | true =>
    have HX : Hid (keyC a b = -1) := by show _ = _; simp [keyC, Pl.cmpS, h1]
    go_enter Tryz.func101, Tryz.ntmps101
    go_wp2_with fail
    go_ret
    exact ⟨by rw [HX.out]; rfl, rfl⟩
  | false =>
    cases h2 : (a.toList == b.toList) with
    | false =>
      have HX : Hid (keyC a b = 1) := by show _ = _; simp [keyC, Pl.cmpS, h1, h2]
      go_enter Tryz.func101, Tryz.ntmps101
      go_wp2_with fail
      go_ret
      exact ⟨by rw [HX.out]; rfl, rfl⟩
    | true =>
      have HX : Hid (keyC a b = 0) := by show _ = _; simp [keyC, Pl.cmpS, h1, h2]
      go_enter Tryz.func101, Tryz.ntmps101
      go_wp2_with fail
      go_ret
      exact ⟨by rw [HX.out]; rfl, rfl⟩

theorem w_rLens (a b : Int) (w : World) :
    Calls Tryz.prog 128 #[.int .i64 a, .int .i64 b] w fun e w' => e = .returned (.int .i64 (Pl.cmpI a b)) ∧ w' = w := by
  by_cases h1 : a < b
  · have HX : Hid (Pl.cmpI a b = -1) := by show _ = _; simp [Pl.cmpI, h1]
    go_enter Tryz.func128, Tryz.ntmps128
    go_wp2_with fail
    go_ret
    exact ⟨by rw [HX.out]; rfl, rfl⟩
  · by_cases h2 : b < a
    · have HX : Hid (Pl.cmpI a b = 1) := by show _ = _; simp [Pl.cmpI, h1, h2]
      go_enter Tryz.func128, Tryz.ntmps128
      go_wp2_with fail
      go_ret
      exact ⟨by rw [HX.out]; rfl, rfl⟩
    · have HX : Hid (Pl.cmpI a b = 0) := by show _ = _; simp [Pl.cmpI, h1, h2]
      go_enter Tryz.func128, Tryz.ntmps128
      go_wp2_with fail
      go_ret
      exact ⟨by rw [HX.out]; rfl, rfl⟩

theorem cmpS_key (a b : ByteArray) : Pl.cmpS a.data.toList b.data.toList = keyC a b := by unfold keyC; rw [Lib.toList_data, Lib.toList_data]
theorem first45 (s : ByteArray) (h : 0 < s.size) : (((s[0].toNat : Nat) : Int) == 45) = Pl.neg s.data.toList := by
  rw [Pl.neg_of s h]
  by_cases e : s[0].toNat = 45
  · simp [e]
  · rw [decide_eq_false e, beq_eq_false_iff_ne]; omega

set_option maxRecDepth 100000 in
set_option maxHeartbeats 1600000 in
theorem w_Numbers_pos (a b : ByteArray) (w : World) (ha : 0 < a.size) (hb : 0 < b.size) (na : Pl.neg a.data.toList = false) (nb : Pl.neg b.data.toList = false) (sa : a.size ≤ 140737488355328) (sb : b.size ≤ 140737488355328) :
    Calls Tryz.prog 100 #[.string a, .string b] w fun e w' => e = .returned (.int .i64 (Pl.cmpT a.data.toList b.data.toList)) ∧ w' = w := by
  have h1 := first45 a ha
  have h2 := first45 b hb
  rw [na] at h1
  rw [nb] at h2
  have i1 : (0 : Int) < (a.size : Int) := by omega
  have i2 : (0 : Int) < (b.size : Int) := by omega
  have la : a.data.toList.length = a.size := by rw [Array.length_toList]; rfl
  have lb : b.data.toList.length = b.size := by rw [Array.length_toList]; rfl
  by_cases hl : a.size < b.size
  · have HX : Hid (Pl.cmpT a.data.toList b.data.toList = -1) := by show _ = _; unfold Pl.cmpT; rw [if_pos (by rw [la, lb]; exact hl)]
    have g1 : ((a.size : Int) != (b.size : Int)) = true := by simp; omega
    have g2 : (a.size : Int) < (b.size : Int) := by omega
    clear na nb la lb hl
    go_enter Tryz.func100, Tryz.ntmps100
    go_wp2_with fail
    go_ret
    exact ⟨by rw [HX.out]; rfl, rfl⟩
  · by_cases hg : b.size < a.size
    · have HX : Hid (Pl.cmpT a.data.toList b.data.toList = 1) := by show _ = _; unfold Pl.cmpT; rw [if_neg (by rw [la, lb]; exact hl), if_pos (by rw [la, lb]; exact hg)]
      have g1 : ((a.size : Int) != (b.size : Int)) = true := by simp; omega
      have g2 : ¬ (a.size : Int) < (b.size : Int) := by omega
      clear na nb la lb hl hg
      go_enter Tryz.func100, Tryz.ntmps100
      go_wp2_with fail
      go_ret
      exact ⟨by rw [HX.out]; rfl, rfl⟩
    · have HX : Hid (Pl.cmpT a.data.toList b.data.toList = keyC a b) := by show _ = _; unfold Pl.cmpT; rw [if_neg (by rw [la, lb]; exact hl), if_neg (by rw [la, lb]; exact hg)]; exact cmpS_key a b
      have g1 : ((a.size : Int) != (b.size : Int)) = false := by simp; omega
      have HT := Hid.mk (fun u => w_rTexts a b u)
      generalize keyC a b = c at HX HT
      clear na nb la lb hl hg
      go_enter Tryz.func100, Tryz.ntmps100
      go_wp2_with fail
      refine (HT.out _).mono ?_
      rintro e w1 ⟨rfl, hw⟩
      obtain rfl := hw.symm
      go_wp2_with fail
      go_ret
      exact ⟨by rw [HX.out]; rfl, rfl⟩

set_option maxRecDepth 100000 in
set_option maxHeartbeats 1600000 in
theorem w_Numbers (a b : ByteArray) (w : World) (fa : Pl.formed a.data.toList = true) (fb : Pl.formed b.data.toList = true) (sa : a.size ≤ 140737488355328) (sb : b.size ≤ 140737488355328) :
    Calls Tryz.prog 100 #[.string a, .string b] w fun e w' => e = .returned (.int .i64 (numC a b)) ∧ Below w.heap.size w w' := by
  have pos : ∀ s : ByteArray, Pl.formed s.data.toList = true → 0 < s.size := fun s hf => by
    rcases Nat.eq_zero_or_pos s.size with h0 | h0
    · have : s.data.toList = [] := List.eq_nil_of_length_eq_zero (by rw [Array.length_toList]; exact h0)
      rw [this] at hf; cases hf
    · exact h0
  have ha := pos a fa
  have hb := pos b fb
  have hN : numC a b = if Pl.neg a.data.toList then (if Pl.neg b.data.toList then Pl.cmpT (Pl.body b.data.toList) (Pl.body a.data.toList) else -1) else if Pl.neg b.data.toList then 1 else Pl.cmpT (Pl.body a.data.toList) (Pl.body b.data.toList) := by
    unfold numC Pl.cmpN; rw [fa, fb]; rfl
  have h1 := first45 a ha
  have h2 := first45 b hb
  have i1 : (0 : Int) < (a.size : Int) := by omega
  have i2 : (0 : Int) < (b.size : Int) := by omega
  cases na : Pl.neg a.data.toList with
  | false =>
    cases nb : Pl.neg b.data.toList with
    | false =>
      rw [na, nb] at hN
      have ba : Pl.body a.data.toList = a.data.toList := by unfold Pl.body; rw [na]; rfl
      have bb : Pl.body b.data.toList = b.data.toList := by unfold Pl.body; rw [nb]; rfl
      rw [hN, ba, bb]
      exact (w_Numbers_pos a b w ha hb na nb sa sb).mono fun e w' ⟨he, hw⟩ => ⟨he, by rw [hw]; exact Below.refl _ _⟩
    | true =>
      rw [na] at h1
      rw [nb] at h2
      have HX : Hid (numC a b = 1) := by show _ = _; rw [hN, na, nb]; rfl
      clear na nb hN fa fb
      go_enter Tryz.func100, Tryz.ntmps100
      go_wp2_with fail
      go_ret
      exact ⟨by rw [HX.out]; rfl, Below.refl _ _⟩
  | true =>
    cases nb : Pl.neg b.data.toList with
    | false =>
      rw [na] at h1
      rw [nb] at h2
      have HX : Hid (numC a b = -1) := by show _ = _; rw [hN, na, nb]; rfl
      clear na nb hN fa fb
      go_enter Tryz.func100, Tryz.ntmps100
      go_wp2_with fail
      go_ret
      exact ⟨by rw [HX.out]; rfl, Below.refl _ _⟩
    | true =>
      have ta : (a.extract 1 a.size).data.toList = Pl.body a.data.toList := by rw [Pl.extract_tail]; unfold Pl.body; rw [na]; rfl
      have tb : (b.extract 1 b.size).data.toList = Pl.body b.data.toList := by rw [Pl.extract_tail]; unfold Pl.body; rw [nb]; rfl
      have szE : ∀ s : ByteArray, (s.extract 1 s.size).size = s.size - 1 := fun s => Pl.size_tail s _ (Pl.extract_tail s)
      have plain : ∀ s : ByteArray, Pl.formed s.data.toList = true → Pl.neg s.data.toList = true → Pl.neg (Pl.body s.data.toList) = false ∧ 0 < (Pl.body s.data.toList).length := fun s hf hn => by
        have hp := Pl.formed_neg hf hn
        cases hl : Pl.body s.data.toList with
        | nil => rw [hl] at hp; cases hp
        | cons c r =>
          rw [hl] at hp
          refine ⟨?_, by simp⟩
          unfold Pl.plainB at hp
          simp only [Bool.and_eq_true, List.all_cons] at hp
          have := (Pl.isDig_iff c).1 hp.2.1
          unfold Pl.neg
          exact decide_eq_false (by omega)
      obtain ⟨pa, qa⟩ := plain a fa na
      obtain ⟨pb, qb⟩ := plain b fb nb
      rw [← ta] at pa qa
      rw [← tb] at pb qb
      rw [Array.length_toList] at qa qb
      have HX : Hid (numC a b = Pl.cmpT (b.extract 1 b.size).data.toList (a.extract 1 a.size).data.toList) := by show _ = _; rw [hN, na, nb, ta, tb]; rfl
      have HC := Hid.mk (fun u => w_Numbers_pos (b.extract 1 b.size) (a.extract 1 a.size) u qb qa pb pa (by rw [szE]; omega) (by rw [szE]; omega))
      rw [na] at h1
      rw [nb] at h2
      generalize Pl.cmpT (b.extract 1 b.size).data.toList (a.extract 1 a.size).data.toList = c at HX HC
      have e1 : (1 : Int) ≤ (a.size : Int) := by omega
      have e2 : (1 : Int) ≤ (b.size : Int) := by omega
      clear na nb hN fa fb ta tb szE plain pa pb qa qb pos
      go_enter Tryz.func100, Tryz.ntmps100
      go_wp2_with fail
      go_quiet ((go_at_call 100; exact Calls.quiet_of_same (HC.out _)))
      have HB2 : Hid (Below w.heap.size w (w.drewN nq)) := below_drewN (Below.refl _ _) _
      go_wp2_with fail
      go_ret
      exact ⟨by rw [HX.out]; rfl, HB2.out⟩

set_option maxRecDepth 100000 in
set_option maxHeartbeats 3200000 in
theorem w_rkeys (ao : Option Addr) (M acap : Nat) (xs : List ByteArray) (bo : Option Addr) (N bcap : Nat) (ys : List ByteArray) (w : World) (ha : KIn w ao xs) (hb : KIn w bo ys) (hM : xs.length = M) (hN : ys.length = N) (hac : M ≤ acap) (hbc : N ≤ bcap) (hM2 : M ≤ 140737488355328) (hN2 : N ≤ 140737488355328) :
    Calls Tryz.prog 102 #[.slice ao M acap, .slice bo N bcap] w fun e w' => e = .returned (.int .i64 (listC keyC xs ys)) ∧ Below w.heap.size w w' := by
  have HA := Hid.mk ha
  have HB := Hid.mk hb
  have HM := Hid.mk hM
  have HN := Hid.mk hN
  clear ha hb hM hN
  go_enter Tryz.func102, Tryz.ntmps102
  go_wp2_with fail
  go_loopw [5] (fun i wr => ∃ k : Nat, k ≤ M ∧ k ≤ N ∧ i = .int .i64 (k : Int) ∧ Hid (Below w.heap.size w wr) ∧ Hid (listC keyC xs ys = listC keyC (xs.drop k) (ys.drop k))) (fun i _ => M - (intOf i).toNat)
  case atStart => exact ⟨0, Nat.zero_le _, Nat.zero_le _, rfl, Below.refl _ _, rfl⟩
  case round =>
    obtain ⟨k, hk, hk2, rfl, HBw, HQ⟩ := hrel
    by_cases hlt : k < M
    · have hl1 : (k : Int) < (M : Int) := by omega
      by_cases hlt2 : k < N
      · have hl2 : (k : Int) < (N : Int) := by omega
        have hka : k < xs.length := by rw [HM.out]; exact hlt
        have hkb : k < ys.length := by rw [HN.out]; exact hlt2
        obtain ⟨b, off, hko, hbl, hrow⟩ := (HA.out.keep HBw.out).row (by omega)
        subst hko
        obtain ⟨b2, off2, hko2, hbl2, hrow2⟩ := (HB.out.keep HBw.out).row (by omega)
        subst hko2
        have HS := Hid.mk (listC_step (c := keyC) hka hkb)
        have c0 := hrow k hka
        have c1 := hrow2 k hkb
        rw [getD_key hka] at c0
        rw [getD_key hkb] at c1
        have HC := Hid.mk (fun u => w_rTexts xs[k] ys[k] u)
        generalize xs[k] = x at *
        generalize ys[k] = y at *
        generalize keyC x y = c at *
        clear hrow hrow2 hbl hbl2 hka hkb
        go_wp2_with fail
        go_quiet ((go_at_call 101; exact Calls.quiet_of_same (HC.out _)))
        have HB2 := Hid.mk (HBw.out.trans (below_drewN (Below.refl w.heap.size wr) nq))
        clear c0 c1
        by_cases h0 : c = 0
        · have HN2 : Hid (listC keyC xs ys = listC keyC (xs.drop (k + 1)) (ys.drop (k + 1))) := by show _ = _; rw [HQ.out, HS.out, if_pos h0]
          subst h0
          clear HS
          go_wp2_with fail
          go_roundw
          case rel => exact ⟨k + 1, hlt, hlt2, by go_num, HB2, HN2⟩
          case measure => simp [intOf]; omega
        · have HN2 : Hid (listC keyC xs ys = c) := by show _ = _; rw [HQ.out, HS.out, if_neg h0]
          have h0' : (c != 0) = true := by simpa using h0
          clear h0 HS
          go_wp2_with fail
          go_ret
          exact ⟨by rw [HN2.out]; rfl, HB2.out⟩
      · have hl2 : ¬ (k : Int) < (N : Int) := by omega
        have HF : Hid (listC keyC xs ys = Pl.cmpI (M : Int) (N : Int)) := by
          show _ = _
          rw [HQ.out, listC_more (by rw [HM.out]; exact hlt) (by rw [HN.out]; omega)]
          unfold Pl.cmpI; rw [if_neg (by omega), if_pos (by omega)]
        have HT := Hid.mk (fun u => w_rLens (M : Int) (N : Int) u)
        generalize Pl.cmpI (M : Int) (N : Int) = c at HF HT
        go_wp2_with fail
        refine (HT.out _).mono ?_
        rintro e w1 ⟨rfl, hw⟩
        obtain rfl := hw.symm
        go_wp2_with fail
        go_ret
        exact ⟨by rw [HF.out]; rfl, HBw.out⟩
    · have hl1 : ¬ (k : Int) < (M : Int) := by omega
      have HF : Hid (listC keyC xs ys = Pl.cmpI (M : Int) (N : Int)) := by
        show _ = _
        rw [HQ.out]
        by_cases hlt2 : M < N
        · rw [listC_less (by rw [HM.out]; omega) (by rw [HN.out]; omega)]
          unfold Pl.cmpI; rw [if_pos (by omega)]
        · rw [listC_even (by rw [HM.out]; omega) (by rw [HN.out]; omega)]
          unfold Pl.cmpI; rw [if_neg (by omega), if_neg (by omega)]
      have HT := Hid.mk (fun u => w_rLens (M : Int) (N : Int) u)
      generalize Pl.cmpI (M : Int) (N : Int) = c at HF HT
      go_wp2_with fail
      refine (HT.out _).mono ?_
      rintro e w1 ⟨rfl, hw⟩
      obtain rfl := hw.symm
      go_wp2_with fail
      go_ret
      exact ⟨by rw [HF.out]; rfl, HBw.out⟩

def RcOk (h : Nat) : Prop := ∀ (A B : VT) (va vb : Value) (w : World), InH w h A va → InH w h B vb → formN h A = true → formN h B = true → Calls Tryz.prog 53 #[va, vb] w fun e w' => e = .returned (.int .i64 (cmpH h A B)) ∧ Below w.heap.size w w'

set_option maxRecDepth 100000 in
set_option maxHeartbeats 3200000 in
theorem w_rlists (h : Nat) (ih : RcOk h) (ao : Option Addr) (M acap : Nat) (xs : List VT) (bo : Option Addr) (N bcap : Nat) (ys : List VT) (w : World) (ha : IIn w h ao xs) (hb : IIn w h bo ys) (hM : xs.length = M) (hN : ys.length = N) (hac : M ≤ acap) (hbc : N ≤ bcap) (hM2 : M ≤ 140737488355328) (hN2 : N ≤ 140737488355328) (hfx : ∀ x ∈ xs, formN h x = true) (hfy : ∀ y ∈ ys, formN h y = true) :
    Calls Tryz.prog 103 #[.slice ao M acap, .slice bo N bcap] w fun e w' => e = .returned (.int .i64 (listC (cmpH h) xs ys)) ∧ Below w.heap.size w w' := by
  have HA := Hid.mk ha
  have HB := Hid.mk hb
  have HM := Hid.mk hM
  have HN := Hid.mk hN
  have HIh := Hid.mk ih
  have HFx := Hid.mk hfx
  have HFy := Hid.mk hfy
  clear ha hb hM hN ih hfx hfy
  go_enter Tryz.func103, Tryz.ntmps103
  go_wp2_with fail
  go_loopw [5] (fun i wr => ∃ k : Nat, k ≤ M ∧ k ≤ N ∧ i = .int .i64 (k : Int) ∧ Hid (Below w.heap.size w wr) ∧ Hid (listC (cmpH h) xs ys = listC (cmpH h) (xs.drop k) (ys.drop k))) (fun i _ => M - (intOf i).toNat)
  case atStart => exact ⟨0, Nat.zero_le _, Nat.zero_le _, rfl, Below.refl _ _, rfl⟩
  case round =>
    obtain ⟨k, hk, hk2, rfl, HBw, HQ⟩ := hrel
    by_cases hlt : k < M
    · have hl1 : (k : Int) < (M : Int) := by omega
      by_cases hlt2 : k < N
      · have hl2 : (k : Int) < (N : Int) := by omega
        have hka : k < xs.length := by rw [HM.out]; exact hlt
        have hkb : k < ys.length := by rw [HN.out]; exact hlt2
        obtain ⟨b, off, hko, hbl, hrow⟩ := (HA.out.keep HBw.out).row (by omega)
        subst hko
        obtain ⟨b2, off2, hko2, hbl2, hrow2⟩ := (HB.out.keep HBw.out).row (by omega)
        subst hko2
        have HS := Hid.mk (listC_step (c := (cmpH h)) hka hkb)
        obtain ⟨v0, v1, v2, v3, v4, ⟨c0, c1, c2, c3, c4⟩, hv⟩ := hrow k hka
        obtain ⟨u0, u1, u2, u3, u4, ⟨d0, d1, d2, d3, d4⟩, hu⟩ := hrow2 k hkb
        have HC : Hid (∀ u, Below wr.heap.size wr u → Calls Tryz.prog 53 #[.agg #[v0, v1, v2, v3, v4], .agg #[u0, u1, u2, u3, u4]] u fun e w' => e = .returned (.int .i64 (cmpH h xs[k] ys[k])) ∧ Hid (Below wr.heap.size wr w')) := fun u hu2 => (HIh.out _ _ _ _ u (hv.keep hu2) (hu.keep hu2) (HFx.out _ (List.getElem_mem hka)) (HFy.out _ (List.getElem_mem hkb))).mono fun e w' ⟨he, hb⟩ => ⟨he, hu2.trans (hb.mono hu2.size)⟩
        have HL : Hid (Below wr.heap.size wr wr) := Below.refl _ _
        have HSS : Hid (∀ u, Below wr.heap.size wr u → u.cell? ⟨b, off + k * 5, none⟩ = some v0 ∧ u.cell? ⟨b, off + k * 5 + 1, none⟩ = some v1 ∧ u.cell? ⟨b, off + k * 5 + 2, none⟩ = some v2 ∧ u.cell? ⟨b, off + k * 5 + 3, none⟩ = some v3 ∧ u.cell? ⟨b, off + k * 5 + 4, none⟩ = some v4 ∧ u.cell? ⟨b2, off2 + k * 5, none⟩ = some u0 ∧ u.cell? ⟨b2, off2 + k * 5 + 1, none⟩ = some u1 ∧ u.cell? ⟨b2, off2 + k * 5 + 2, none⟩ = some u2 ∧ u.cell? ⟨b2, off2 + k * 5 + 3, none⟩ = some u3 ∧ u.cell? ⟨b2, off2 + k * 5 + 4, none⟩ = some u4) := fun u hu => ⟨(hu.cell (p := ⟨_, _, _⟩) hbl).trans c0, (hu.cell (p := ⟨_, _, _⟩) hbl).trans c1, (hu.cell (p := ⟨_, _, _⟩) hbl).trans c2, (hu.cell (p := ⟨_, _, _⟩) hbl).trans c3, (hu.cell (p := ⟨_, _, _⟩) hbl).trans c4, (hu.cell (p := ⟨_, _, _⟩) hbl2).trans d0, (hu.cell (p := ⟨_, _, _⟩) hbl2).trans d1, (hu.cell (p := ⟨_, _, _⟩) hbl2).trans d2, (hu.cell (p := ⟨_, _, _⟩) hbl2).trans d3, (hu.cell (p := ⟨_, _, _⟩) hbl2).trans d4⟩
        generalize cmpH h xs[k] ys[k] = c at *
        clear hrow hrow2 hbl hbl2 hv hu hka hkb
        go_wp2_with fail
        go_region_held3 (fun u => u.cell? ⟨b, off + k * 5, none⟩ = some v0 ∧ u.cell? ⟨b, off + k * 5 + 1, none⟩ = some v1 ∧ u.cell? ⟨b, off + k * 5 + 2, none⟩ = some v2 ∧ u.cell? ⟨b, off + k * 5 + 3, none⟩ = some v3 ∧ u.cell? ⟨b, off + k * 5 + 4, none⟩ = some v4 ∧ u.cell? ⟨b2, off2 + k * 5, none⟩ = some u0 ∧ u.cell? ⟨b2, off2 + k * 5 + 1, none⟩ = some u1 ∧ u.cell? ⟨b2, off2 + k * 5 + 2, none⟩ = some u2 ∧ u.cell? ⟨b2, off2 + k * 5 + 3, none⟩ = some u3 ∧ u.cell? ⟨b2, off2 + k * 5 + 4, none⟩ = some u4) (first | exact HSS.out _ HL.out | exact HSS.out _ HL.out.drew) (first | (go_at_call 53; refine (HC.out _ (by first | exact HL.out | exact HL.out.drew)).mono ?_; rintro e w4 ⟨rfl, HL⟩))
        all_goals have HB2 := Hid.mk (HBw.out.trans (HL.out.mono HBw.out.size))
        all_goals clear c0 c1 c2 c3 c4 d0 d1 d2 d3 d4
        by_cases h0 : c = 0
        · have HN2 : Hid (listC (cmpH h) xs ys = listC (cmpH h) (xs.drop (k + 1)) (ys.drop (k + 1))) := by show _ = _; rw [HQ.out, HS.out, if_pos h0]
          subst h0
          clear HS
          go_wp2_with fail
          go_roundw
          case rel => exact ⟨k + 1, hlt, hlt2, by go_num, HB2, HN2⟩
          case measure => simp [intOf]; omega
        · have HN2 : Hid (listC (cmpH h) xs ys = c) := by show _ = _; rw [HQ.out, HS.out, if_neg h0]
          have h0' : (c != 0) = true := by simpa using h0
          clear h0 HS
          go_wp2_with fail
          go_ret
          exact ⟨by rw [HN2.out]; rfl, HB2.out⟩
      · have hl2 : ¬ (k : Int) < (N : Int) := by omega
        have HF : Hid (listC (cmpH h) xs ys = Pl.cmpI (M : Int) (N : Int)) := by
          show _ = _
          rw [HQ.out, listC_more (by rw [HM.out]; exact hlt) (by rw [HN.out]; omega)]
          unfold Pl.cmpI; rw [if_neg (by omega), if_pos (by omega)]
        have HT := Hid.mk (fun u => w_rLens (M : Int) (N : Int) u)
        generalize Pl.cmpI (M : Int) (N : Int) = c at HF HT
        go_wp2_with fail
        refine (HT.out _).mono ?_
        rintro e w1 ⟨rfl, hw⟩
        obtain rfl := hw.symm
        go_wp2_with fail
        go_ret
        exact ⟨by rw [HF.out]; rfl, HBw.out⟩
    · have hl1 : ¬ (k : Int) < (M : Int) := by omega
      have HF : Hid (listC (cmpH h) xs ys = Pl.cmpI (M : Int) (N : Int)) := by
        show _ = _
        rw [HQ.out]
        by_cases hlt2 : M < N
        · rw [listC_less (by rw [HM.out]; omega) (by rw [HN.out]; omega)]
          unfold Pl.cmpI; rw [if_pos (by omega)]
        · rw [listC_even (by rw [HM.out]; omega) (by rw [HN.out]; omega)]
          unfold Pl.cmpI; rw [if_neg (by omega), if_neg (by omega)]
      have HT := Hid.mk (fun u => w_rLens (M : Int) (N : Int) u)
      generalize Pl.cmpI (M : Int) (N : Int) = c at HF HT
      go_wp2_with fail
      refine (HT.out _).mono ?_
      rintro e w1 ⟨rfl, hw⟩
      obtain rfl := hw.symm
      go_wp2_with fail
      go_ret
      exact ⟨by rw [HF.out]; rfl, HBw.out⟩
end Go.Proofs.YtfjmgccbpiolhaaGreatDoor
namespace Go.Proofs.YtfjmgccbpiolhaaGreatDoor
open Go.RowKit
set_option linter.unusedVariables false
set_option linter.unusedSimpArgs false

theorem cmpV_eq (k : Int) (nc tc kc ic : Int) : cmpV k k nc tc kc ic = if k = 3 then nc else if k = 4 then tc else if k = 5 then ic else if k = 6 then (if kc = 0 then ic else kc) else 0 := by
  unfold cmpV; rw [if_neg (by omega), if_neg (by omega)]
end Go.Proofs.YtfjmgccbpiolhaaGreatDoor
namespace Go.Proofs.YtfjmgccbpiolhaaGreatDoor
open Go.RowKit
set_option linter.unusedVariables false
set_option linter.unusedSimpArgs false

structure RB2 (w u : World) (a b c d e a' b' c' d' e' : Value) : Prop where
  one : VBx w u a b c d e
  two : VBx (w.alloc (.cells #[a, b, c, d, e] 49)) u a' b' c' d' e'
theorem RB2.keep {w u u' : World} {a b c d e a' b' c' d' e' : Value} (h : RB2 w u a b c d e a' b' c' d' e') (hb : Below u.heap.size u u') : RB2 w u' a b c d e a' b' c' d' e' := ⟨h.one.keep hb, h.two.keep hb⟩
theorem rb2_new (w : World) (a b c d e a' b' c' d' e' : Value) : RB2 w ((w.alloc (.cells #[a, b, c, d, e] 49)).alloc (.cells #[a', b', c', d', e'] 49)) a b c d e a' b' c' d' e' :=
  ⟨(vbx_new w a b c d e).keep (below1 _ _), vbx_new _ a' b' c' d' e'⟩
theorem RB2.d0 {w u : World} {a b c d e a' b' c' d' e' : Value} (h : RB2 w u a b c d e a' b' c' d' e') : u.cell? ⟨w.heap.size + 1, 0, none⟩ = some a' := by have := h.two.c0; rwa [World.size_alloc] at this
theorem RB2.d1 {w u : World} {a b c d e a' b' c' d' e' : Value} (h : RB2 w u a b c d e a' b' c' d' e') : u.cell? ⟨w.heap.size + 1, 1, none⟩ = some b' := by have := h.two.c1; rwa [World.size_alloc] at this
theorem RB2.d2 {w u : World} {a b c d e a' b' c' d' e' : Value} (h : RB2 w u a b c d e a' b' c' d' e') : u.cell? ⟨w.heap.size + 1, 2, none⟩ = some c' := by have := h.two.c2; rwa [World.size_alloc] at this
theorem RB2.d3 {w u : World} {a b c d e a' b' c' d' e' : Value} (h : RB2 w u a b c d e a' b' c' d' e') : u.cell? ⟨w.heap.size + 1, 3, none⟩ = some d' := by have := h.two.c3; rwa [World.size_alloc] at this
theorem RB2.d4 {w u : World} {a b c d e a' b' c' d' e' : Value} (h : RB2 w u a b c d e a' b' c' d' e') : u.cell? ⟨w.heap.size + 1, 4, none⟩ = some e' := by have := h.two.c4; rwa [World.size_alloc] at this

set_option maxRecDepth 100000 in
set_option maxHeartbeats 3200000 in
theorem rcmp_step (w : World) (ka kb : Int) (an at_ : ByteArray) (aio : Option Addr) (aN aic : Nat) (ako : Option Addr) (aK akc : Nat) (bn bt : ByteArray) (bio : Option Addr) (bN bic : Nat) (bko : Option Addr) (bK bkc : Nat) (nc tc kc ic : Int)
    (HN : Hid (ka = 3 → kb = 3 → ∀ u, Calls Tryz.prog 100 #[.string an, .string bn] u fun e w' => e = .returned (.int .i64 nc) ∧ Below u.heap.size u w'))
    (HT : Hid (∀ u, Calls Tryz.prog 101 #[.string at_, .string bt] u fun e w' => e = .returned (.int .i64 tc) ∧ w' = u))
    (HK : Hid (∀ u, Below w.heap.size w u → Calls Tryz.prog 102 #[.slice ako aK akc, .slice bko bK bkc] u fun e w' => e = .returned (.int .i64 kc) ∧ Below u.heap.size u w'))
    (HI : Hid (∀ u, Below w.heap.size w u → Calls Tryz.prog 103 #[.slice aio aN aic, .slice bio bN bic] u fun e w' => e = .returned (.int .i64 ic) ∧ Below u.heap.size u w'))
    (hic : ka ≠ 5 → ka ≠ 6 → ka = kb → ic = 0) :
    Calls Tryz.prog 53 #[.agg #[.int .i64 ka, .string an, .string at_, .slice aio aN aic, .slice ako aK akc], .agg #[.int .i64 kb, .string bn, .string bt, .slice bio bN bic, .slice bko bK bkc]] w fun e w' => e = .returned (.int .i64 (cmpV ka kb nc tc kc ic)) ∧ Below w.heap.size w w' := by
  have HX := Hid.mk (rb2_new w (.int .i64 ka) (.string an) (.string at_) (.slice aio aN aic) (.slice ako aK akc) (.int .i64 kb) (.string bn) (.string bt) (.slice bio bN bic) (.slice bko bK bkc))
  by_cases h1 : ka < kb
  · have HF : Hid (cmpV ka kb nc tc kc ic = -1) := by show _ = _; unfold cmpV; rw [if_pos h1]
    clear hic
    go_enter Tryz.func53, Tryz.ntmps53
    go_wp2_with fail
    go_ret
    exact ⟨by rw [HF.out]; rfl, HX.out.one.below⟩
  · by_cases h2 : kb < ka
    · have HF : Hid (cmpV ka kb nc tc kc ic = 1) := by show _ = _; unfold cmpV; rw [if_neg h1, if_pos h2]
      clear hic
      go_enter Tryz.func53, Tryz.ntmps53
      go_wp2_with fail
      go_ret
      exact ⟨by rw [HF.out]; rfl, HX.out.one.below⟩
    · obtain rfl : ka = kb := by omega
      have HV : Hid (cmpV ka ka nc tc kc ic = if ka = 3 then nc else if ka = 4 then tc else if ka = 5 then ic else if ka = 6 then (if kc = 0 then ic else kc) else 0) := cmpV_eq _ _ _ _ _
      clear h1 h2
      by_cases k3 : ka = 3
      · subst k3
        have HF : Hid (cmpV 3 3 nc tc kc ic = nc) := by show _ = _; rw [HV.out]; rfl
        have HN' := Hid.mk (HN.out rfl rfl)
        clear hic HV
        go_enter Tryz.func53, Tryz.ntmps53
        go_wp2_with fail
        refine (HN'.out _).mono ?_
        rintro e w1 ⟨rfl, hb1⟩
        have HX1 := Hid.mk (HX.out.keep hb1)
        clear hb1
        go_wp2_with fail
        go_ret
        exact ⟨by rw [HF.out]; rfl, HX1.out.one.below⟩
      · by_cases k4 : ka = 4
        · subst k4
          have HF : Hid (cmpV 4 4 nc tc kc ic = tc) := by show _ = _; rw [HV.out]; rfl
          clear hic HV k3
          go_enter Tryz.func53, Tryz.ntmps53
          go_wp2_with fail
          refine (HT.out _).mono ?_
          rintro e w1 ⟨rfl, hw⟩
          obtain rfl := hw.symm
          go_wp2_with fail
          go_ret
          exact ⟨by rw [HF.out]; rfl, HX.out.one.below⟩
        · by_cases k6 : ka = 6
          · subst k6
            have HV6 : Hid (cmpV 6 6 nc tc kc ic = if kc = 0 then ic else kc) := by show _ = _; rw [HV.out]; rfl
            clear hic HV k3 k4
            by_cases h0 : kc = 0
            · have HF : Hid (cmpV 6 6 nc tc kc ic = ic) := by show _ = _; rw [HV6.out, if_pos h0]
              subst h0
              go_enter Tryz.func53, Tryz.ntmps53
              go_wp2_with fail
              refine (HK.out _ HX.out.one.below).mono ?_
              rintro e w1 ⟨rfl, hb1⟩
              have HX1 := Hid.mk (HX.out.keep hb1)
              have p3 := HX1.out.one.c3
              have q3 := HX1.out.d3
              clear hb1 HX
              go_wp2_with fail
              refine (HI.out _ HX1.out.one.below).mono ?_
              rintro e w2 ⟨rfl, hb2⟩
              have HX2 := Hid.mk (HX1.out.keep hb2)
              clear hb2 p3 q3
              go_wp2_with fail
              go_ret
              exact ⟨by rw [HF.out]; rfl, HX2.out.one.below⟩
            · have HF : Hid (cmpV 6 6 nc tc kc ic = kc) := by show _ = _; rw [HV6.out, if_neg h0]
              have h0' : (kc != 0) = true := by simpa using h0
              clear h0
              go_enter Tryz.func53, Tryz.ntmps53
              go_wp2_with fail
              refine (HK.out _ HX.out.one.below).mono ?_
              rintro e w1 ⟨rfl, hb1⟩
              have HX1 := Hid.mk (HX.out.keep hb1)
              clear hb1 HX
              go_wp2_with fail
              go_ret
              exact ⟨by rw [HF.out]; rfl, HX1.out.one.below⟩
          · have HF : Hid (cmpV ka ka nc tc kc ic = ic) := by
              show _ = _
              rw [HV.out, if_neg k3, if_neg k4]
              by_cases k5 : ka = 5
              · rw [if_pos k5]
              · rw [if_neg k5, if_neg k6]; exact (hic k5 k6 rfl).symm
            have b3 : (ka == 3) = false := by rw [beq_eq_false_iff_ne]; exact k3
            have b4 : (ka == 4) = false := by rw [beq_eq_false_iff_ne]; exact k4
            have b6 : (ka == 6) = false := by rw [beq_eq_false_iff_ne]; exact k6
            clear hic HV k3 k4 k6
            go_enter Tryz.func53, Tryz.ntmps53
            go_wp2_with fail
            refine (HI.out _ HX.out.one.below).mono ?_
            rintro e w2 ⟨rfl, hb2⟩
            have HX2 := Hid.mk (HX.out.keep hb2)
            clear hb2
            go_wp2_with fail
            go_ret
            exact ⟨by rw [HF.out]; rfl, HX2.out.one.below⟩

theorem form_all {h : Nat} {T : VT} (hf : formN (h + 1) T = true) : ∀ x ∈ T.items, formN h x = true := by
  rcases form_open hf with (rfl | rfl | rfl) | ⟨n, rfl, _⟩ | ⟨n, rfl, _⟩ | ⟨i, rfl, hi⟩ | ⟨i, ks, rfl, _, _, _, hi⟩
  · intro x hx; cases hx
  · intro x hx; cases hx
  · intro x hx; cases hx
  · intro x hx; cases hx
  · intro x hx; cases hx
  · exact hi
  · exact hi
theorem w_rCmp : ∀ h, RcOk h
  | 0 => fun A B va vb w hA _ _ _ => hA.elim
  | h + 1 => fun A B va vb w hA hB fA fB => by
    obtain ⟨io, icap, ko, kcap, rfl, a1, a2, a3, a4, a5, a6, a7, hk, hi⟩ := hA.open
    obtain ⟨jo, jcap, lo, lcap, rfl, b1, b2, b3, b4, b5, b6, b7, hl, hj⟩ := hB.open
    show Calls Tryz.prog 53 _ w fun e w' => e = .returned (.int .i64 (cmpV A.kind B.kind (numC A.num B.num) (keyC A.text B.text) (listC keyC A.keys B.keys) (listC (cmpH h) A.items B.items))) ∧ Below w.heap.size w w'
    have fn : ∀ {T : VT}, formN (h + 1) T = true → T.kind = 3 → Pl.formed T.num.data.toList = true := fun {T} hf h3 => by
      rcases form_open hf with (rfl | rfl | rfl) | ⟨n, rfl, hn⟩ | ⟨n, rfl, _⟩ | ⟨i, rfl, hi⟩ | ⟨i, ks, rfl, _, _, _, hi⟩
      · simp [VT.kind] at h3
      · simp [VT.kind] at h3
      · simp [VT.kind] at h3
      · exact hn
      · simp [VT.kind] at h3
      · simp [VT.kind] at h3
      · simp [VT.kind] at h3
    have fl : ∀ {T : VT}, formN (h + 1) T = true → T.kind ≠ 5 → T.kind ≠ 6 → T.items = [] := fun {T} hf h5 h6 => by
      rcases form_open hf with (rfl | rfl | rfl) | ⟨n, rfl, hn⟩ | ⟨n, rfl, _⟩ | ⟨i, rfl, hi⟩ | ⟨i, ks, rfl, _, _, _, hi⟩
      · rfl
      · rfl
      · rfl
      · rfl
      · rfl
      · simp [VT.kind] at h5
      · simp [VT.kind] at h6
    exact rcmp_step w A.kind B.kind _ _ _ _ _ _ _ _ _ _ _ _ _ _ _ _ _ _ _ _
      (fun h3 h3' u => w_Numbers A.num B.num u (fn fA h3) (fn fB h3') a1 b1) (fun u => w_rTexts A.text B.text u)
      (fun u hu => w_rkeys ko _ kcap A.keys lo _ lcap B.keys u (hk.keep hu) (hl.keep hu) rfl rfl a6 b6 a4 b4)
      (fun u hu => w_rlists h (w_rCmp h) io _ icap A.items jo _ jcap B.items u (hi.keep hu) (hj.keep hu) rfl rfl a5 b5 a3 b3 (form_all fA) (form_all fB))
      (fun h5 h6 he => by rw [fl fA h5 h6, fl fB (by omega) (by omega)]; rfl)
end Go.Proofs.YtfjmgccbpiolhaaGreatDoor
