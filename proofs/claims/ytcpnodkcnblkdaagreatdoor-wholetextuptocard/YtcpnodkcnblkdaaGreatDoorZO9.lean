import Derived.Test.YtcpnodkcnblkdaaGreatDoorZO7
import Derived.Test.YtcpnodkcnblkdaaGreatDoorM16
import Derived.Deep.QuietTactic
import Derived.Test.YtcpnodkcnblkdaaGreatDoorX0
namespace Go.Proofs.YtcpnodkcnblkdaaGreatDoor
open Go.RowKit
set_option linter.unusedVariables false
set_option linter.unusedSimpArgs false

theorem w_rTexts (a b : ByteArray) (w : World) :
    Calls Tryz.prog 45 #[.string a, .string b] w fun e w' => e = .returned (.int .i64 (keyC a b)) ∧ w' = w := by
  cases h1 : Op.bytesLess a.toList b.toList with
  | true =>
    have HX : Hid (keyC a b = -1) := by show _ = _; simp [keyC, Pl.cmpS, h1]
    go_enter Tryz.func45, Tryz.ntmps45
    go_wp2_with fail
    go_ret
    exact ⟨by rw [HX.out]; rfl, rfl⟩
  | false =>
    cases h2 : (a.toList == b.toList) with
    | false =>
      have HX : Hid (keyC a b = 1) := by show _ = _; simp [keyC, Pl.cmpS, h1, h2]
      go_enter Tryz.func45, Tryz.ntmps45
      go_wp2_with fail
      go_ret
      exact ⟨by rw [HX.out]; rfl, rfl⟩
    | true =>
      have HX : Hid (keyC a b = 0) := by show _ = _; simp [keyC, Pl.cmpS, h1, h2]
      go_enter Tryz.func45, Tryz.ntmps45
      go_wp2_with fail
      go_ret
      exact ⟨by rw [HX.out]; rfl, rfl⟩

theorem w_rLens (a b : Int) (w : World) :
    Calls Tryz.prog 62 #[.int .i64 a, .int .i64 b] w fun e w' => e = .returned (.int .i64 (Pl.cmpI a b)) ∧ w' = w := by
  by_cases h1 : a < b
  · have HX : Hid (Pl.cmpI a b = -1) := by show _ = _; simp [Pl.cmpI, h1]
    go_enter Tryz.func62, Tryz.ntmps62
    go_wp2_with fail
    go_ret
    exact ⟨by rw [HX.out]; rfl, rfl⟩
  · by_cases h2 : b < a
    · have HX : Hid (Pl.cmpI a b = 1) := by show _ = _; simp [Pl.cmpI, h1, h2]
      go_enter Tryz.func62, Tryz.ntmps62
      go_wp2_with fail
      go_ret
      exact ⟨by rw [HX.out]; rfl, rfl⟩
    · have HX : Hid (Pl.cmpI a b = 0) := by show _ = _; simp [Pl.cmpI, h1, h2]
      go_enter Tryz.func62, Tryz.ntmps62
      go_wp2_with fail
      go_ret
      exact ⟨by rw [HX.out]; rfl, rfl⟩

theorem cmpS_key (a b : ByteArray) : Pl.cmpS a.data.toList b.data.toList = keyC a b := by unfold keyC; rw [Lib.toList_data, Lib.toList_data]
theorem first45 (s : ByteArray) (h : 0 < s.size) : (((s[0].toNat : Nat) : Int) == 45) = Pl.neg s.data.toList := by
  rw [Pl.neg_of s h]
  by_cases e : s[0].toNat = 45
  · simp [e]
  · rw [decide_eq_false e, beq_eq_false_iff_ne]; omega

set_option maxRecDepth 100000 in
set_option maxHeartbeats 1600000 in
theorem w_Numbers_pos (a b : ByteArray) (w : World) (ha : 0 < a.size) (hb : 0 < b.size) (na : Pl.neg a.data.toList = false) (nb : Pl.neg b.data.toList = false) (sa : a.size ≤ 140737488355328) (sb : b.size ≤ 140737488355328) :
    Calls Tryz.prog 44 #[.string a, .string b] w fun e w' => e = .returned (.int .i64 (Pl.cmpT a.data.toList b.data.toList)) ∧ w' = w := by
  have h1 := first45 a ha
  have h2 := first45 b hb
  rw [na] at h1
  rw [nb] at h2
  have i1 : (0 : Int) < (a.size : Int) := by omega
  have i2 : (0 : Int) < (b.size : Int) := by omega
  have la : a.data.toList.length = a.size := by rw [Array.length_toList]; rfl
  have lb : b.data.toList.length = b.size := by rw [Array.length_toList]; rfl
  by_cases hl : a.size < b.size
  · have HX : Hid (Pl.cmpT a.data.toList b.data.toList = -1) := by show _ = _; unfold Pl.cmpT; rw [if_pos (by rw [la, lb]; exact hl)]
    have g1 : ((a.size : Int) != (b.size : Int)) = true := by simp; omega
    have g2 : (a.size : Int) < (b.size : Int) := by omega
    clear na nb la lb hl
    go_enter Tryz.func44, Tryz.ntmps44
    go_wp2_with fail
    go_ret
    exact ⟨by rw [HX.out]; rfl, rfl⟩
  · by_cases hg : b.size < a.size
    · have HX : Hid (Pl.cmpT a.data.toList b.data.toList = 1) := by show _ = _; unfold Pl.cmpT; rw [if_neg (by rw [la, lb]; exact hl), if_pos (by rw [la, lb]; exact hg)]
      have g1 : ((a.size : Int) != (b.size : Int)) = true := by simp; omega
      have g2 : ¬ (a.size : Int) < (b.size : Int) := by omega
      clear na nb la lb hl hg
      go_enter Tryz.func44, Tryz.ntmps44
      go_wp2_with fail
      go_ret
      exact ⟨by rw [HX.out]; rfl, rfl⟩
    · have HX : Hid (Pl.cmpT a.data.toList b.data.toList = keyC a b) := by show _ = _; unfold Pl.cmpT; rw [if_neg (by rw [la, lb]; exact hl), if_neg (by rw [la, lb]; exact hg)]; exact cmpS_key a b
      have g1 : ((a.size : Int) != (b.size : Int)) = false := by simp; omega
      have HT := Hid.mk (fun u => w_rTexts a b u)
      generalize keyC a b = c at HX HT
      clear na nb la lb hl hg
      go_enter Tryz.func44, Tryz.ntmps44
      go_wp2_with fail
      refine (HT.out _).mono ?_
      rintro e w1 ⟨rfl, hw⟩
      obtain rfl := hw.symm
      go_wp2_with fail
      go_ret
      exact ⟨by rw [HX.out]; rfl, rfl⟩

set_option maxRecDepth 100000 in
set_option maxHeartbeats 1600000 in
theorem w_Numbers (a b : ByteArray) (w : World) (fa : Pl.formed a.data.toList = true) (fb : Pl.formed b.data.toList = true) (sa : a.size ≤ 140737488355328) (sb : b.size ≤ 140737488355328) :
    Calls Tryz.prog 44 #[.string a, .string b] w fun e w' => e = .returned (.int .i64 (numC a b)) ∧ Below w.heap.size w w' := by
  have pos : ∀ s : ByteArray, Pl.formed s.data.toList = true → 0 < s.size := fun s hf => by
    rcases Nat.eq_zero_or_pos s.size with h0 | h0
    · have : s.data.toList = [] := List.eq_nil_of_length_eq_zero (by rw [Array.length_toList]; exact h0)
      rw [this] at hf; cases hf
    · exact h0
  have ha := pos a fa
  have hb := pos b fb
  have hN : numC a b = if Pl.neg a.data.toList then (if Pl.neg b.data.toList then Pl.cmpT (Pl.body b.data.toList) (Pl.body a.data.toList) else -1) else if Pl.neg b.data.toList then 1 else Pl.cmpT (Pl.body a.data.toList) (Pl.body b.data.toList) := by
    unfold numC Pl.cmpN; rw [fa, fb]; rfl
  have h1 := first45 a ha
  have h2 := first45 b hb
  have i1 : (0 : Int) < (a.size : Int) := by omega
  have i2 : (0 : Int) < (b.size : Int) := by omega
  cases na : Pl.neg a.data.toList with
  | false =>
    cases nb : Pl.neg b.data.toList with
    | false =>
      rw [na, nb] at hN
      have ba : Pl.body a.data.toList = a.data.toList := by unfold Pl.body; rw [na]; rfl
      have bb : Pl.body b.data.toList = b.data.toList := by unfold Pl.body; rw [nb]; rfl
      rw [hN, ba, bb]
      exact (w_Numbers_pos a b w ha hb na nb sa sb).mono fun e w' ⟨he, hw⟩ => ⟨he, by rw [hw]; exact Below.refl _ _⟩
    | true =>
      rw [na] at h1
      rw [nb] at h2
      have HX : Hid (numC a b = 1) := by show _ = _; rw [hN, na, nb]; rfl
      clear na nb hN fa fb
      go_enter Tryz.func44, Tryz.ntmps44
      go_wp2_with fail
      go_ret
      exact ⟨by rw [HX.out]; rfl, Below.refl _ _⟩
  | true =>
    cases nb : Pl.neg b.data.toList with
    | false =>
      rw [na] at h1
      rw [nb] at h2
      have HX : Hid (numC a b = -1) := by show _ = _; rw [hN, na, nb]; rfl
      clear na nb hN fa fb
      go_enter Tryz.func44, Tryz.ntmps44
      go_wp2_with fail
      go_ret
      exact ⟨by rw [HX.out]; rfl, Below.refl _ _⟩
    | true =>
      have ta : (a.extract 1 a.size).data.toList = Pl.body a.data.toList := by rw [Pl.extract_tail]; unfold Pl.body; rw [na]; rfl
      have tb : (b.extract 1 b.size).data.toList = Pl.body b.data.toList := by rw [Pl.extract_tail]; unfold Pl.body; rw [nb]; rfl
      have szE : ∀ s : ByteArray, (s.extract 1 s.size).size = s.size - 1 := fun s => Pl.size_tail s _ (Pl.extract_tail s)
      have plain : ∀ s : ByteArray, Pl.formed s.data.toList = true → Pl.neg s.data.toList = true → Pl.neg (Pl.body s.data.toList) = false ∧ 0 < (Pl.body s.data.toList).length := fun s hf hn => by
        have hp := Pl.formed_neg hf hn
        cases hl : Pl.body s.data.toList with
        | nil => rw [hl] at hp; cases hp
        | cons c r =>
          rw [hl] at hp
          refine ⟨?_, by simp⟩
          unfold Pl.plainB at hp
          simp only [Bool.and_eq_true, List.all_cons] at hp
          have := (Pl.isDig_iff c).1 hp.2.1
          unfold Pl.neg
          exact decide_eq_false (by omega)
      obtain ⟨pa, qa⟩ := plain a fa na
      obtain ⟨pb, qb⟩ := plain b fb nb
      rw [← ta] at pa qa
      rw [← tb] at pb qb
      rw [Array.length_toList] at qa qb
      have HX : Hid (numC a b = Pl.cmpT (b.extract 1 b.size).data.toList (a.extract 1 a.size).data.toList) := by show _ = _; rw [hN, na, nb, ta, tb]; rfl
      have HC := Hid.mk (fun u => w_Numbers_pos (b.extract 1 b.size) (a.extract 1 a.size) u qb qa pb pa (by rw [szE]; omega) (by rw [szE]; omega))
      rw [na] at h1
      rw [nb] at h2
      generalize Pl.cmpT (b.extract 1 b.size).data.toList (a.extract 1 a.size).data.toList = c at HX HC
      have e1 : (1 : Int) ≤ (a.size : Int) := by omega
      have e2 : (1 : Int) ≤ (b.size : Int) := by omega
      clear na nb hN fa fb ta tb szE plain pa pb qa qb pos
      go_enter Tryz.func44, Tryz.ntmps44
      go_wp2_with fail
      go_quiet ((go_at_call 44; exact Calls.quiet_of_same (HC.out _)))
      have HB2 : Hid (Below w.heap.size w (w.drewN nq)) := below_drewN (Below.refl _ _) _
      go_wp2_with fail
      go_ret
      exact ⟨by rw [HX.out]; rfl, HB2.out⟩

set_option maxRecDepth 100000 in
set_option maxHeartbeats 3200000 in
theorem w_rkeys (ao : Option Addr) (M acap : Nat) (xs : List ByteArray) (bo : Option Addr) (N bcap : Nat) (ys : List ByteArray) (w : World) (ha : KIn w ao xs) (hb : KIn w bo ys) (hM : xs.length = M) (hN : ys.length = N) (hac : M ≤ acap) (hbc : N ≤ bcap) (hM2 : M ≤ 140737488355328) (hN2 : N ≤ 140737488355328) :
    Calls Tryz.prog 46 #[.slice ao M acap, .slice bo N bcap] w fun e w' => e = .returned (.int .i64 (listC keyC xs ys)) ∧ Below w.heap.size w w' := by
  have HA := Hid.mk ha
  have HB := Hid.mk hb
  have HM := Hid.mk hM
  have HN := Hid.mk hN
  clear ha hb hM hN
  go_enter Tryz.func46, Tryz.ntmps46
  go_wp2_with fail
  go_loopw [5] (fun i wr => ∃ k : Nat, k ≤ M ∧ k ≤ N ∧ i = .int .i64 (k : Int) ∧ Hid (Below w.heap.size w wr) ∧ Hid (listC keyC xs ys = listC keyC (xs.drop k) (ys.drop k))) (fun i _ => M - (intOf i).toNat)
  case atStart => exact ⟨0, Nat.zero_le _, Nat.zero_le _, rfl, Below.refl _ _, rfl⟩
  case round =>
    obtain ⟨k, hk, hk2, rfl, HBw, HQ⟩ := hrel
    by_cases hlt : k < M
    · have hl1 : (k : Int) < (M : Int) := by omega
      by_cases hlt2 : k < N
      · have hl2 : (k : Int) < (N : Int) := by omega
        have hka : k < xs.length := by rw [HM.out]; exact hlt
        have hkb : k < ys.length := by rw [HN.out]; exact hlt2
        obtain ⟨b, off, hko, hbl, hrow⟩ := (HA.out.keep HBw.out).row (by omega)
        subst hko
        obtain ⟨b2, off2, hko2, hbl2, hrow2⟩ := (HB.out.keep HBw.out).row (by omega)
        subst hko2
        have HS := Hid.mk (listC_step (c := keyC) hka hkb)
        have c0 := hrow k hka
        have c1 := hrow2 k hkb
        rw [getD_key hka] at c0
        rw [getD_key hkb] at c1
        have HC := Hid.mk (fun u => w_rTexts xs[k] ys[k] u)
        generalize xs[k] = x at *
        generalize ys[k] = y at *
        generalize keyC x y = c at *
        clear hrow hrow2 hbl hbl2 hka hkb
        go_wp2_with fail
        go_quiet ((go_at_call 45; exact Calls.quiet_of_same (HC.out _)))
        have HB2 := Hid.mk (HBw.out.trans (below_drewN (Below.refl w.heap.size wr) nq))
        clear c0 c1
        by_cases h0 : c = 0
        · have HN2 : Hid (listC keyC xs ys = listC keyC (xs.drop (k + 1)) (ys.drop (k + 1))) := by show _ = _; rw [HQ.out, HS.out, if_pos h0]
          subst h0
          clear HS
          go_wp2_with fail
          go_roundw
          case rel => exact ⟨k + 1, hlt, hlt2, by go_num, HB2, HN2⟩
          case measure => simp [intOf]; omega
        · have HN2 : Hid (listC keyC xs ys = c) := by show _ = _; rw [HQ.out, HS.out, if_neg h0]
          have h0' : (c != 0) = true := by simpa using h0
          clear h0 HS
          go_wp2_with fail
          go_ret
          exact ⟨by rw [HN2.out]; rfl, HB2.out⟩
      · have hl2 : ¬ (k : Int) < (N : Int) := by omega
        have HF : Hid (listC keyC xs ys = Pl.cmpI (M : Int) (N : Int)) := by
          show _ = _
          rw [HQ.out, listC_more (by rw [HM.out]; exact hlt) (by rw [HN.out]; omega)]
          unfold Pl.cmpI; rw [if_neg (by omega), if_pos (by omega)]
        have HT := Hid.mk (fun u => w_rLens (M : Int) (N : Int) u)
        generalize Pl.cmpI (M : Int) (N : Int) = c at HF HT
        go_wp2_with fail
        refine (HT.out _).mono ?_
        rintro e w1 ⟨rfl, hw⟩
        obtain rfl := hw.symm
        go_wp2_with fail
        go_ret
        exact ⟨by rw [HF.out]; rfl, HBw.out⟩
    · have hl1 : ¬ (k : Int) < (M : Int) := by omega
      have HF : Hid (listC keyC xs ys = Pl.cmpI (M : Int) (N : Int)) := by
        show _ = _
        rw [HQ.out]
        by_cases hlt2 : M < N
        · rw [listC_less (by rw [HM.out]; omega) (by rw [HN.out]; omega)]
          unfold Pl.cmpI; rw [if_pos (by omega)]
        · rw [listC_even (by rw [HM.out]; omega) (by rw [HN.out]; omega)]
          unfold Pl.cmpI; rw [if_neg (by omega), if_neg (by omega)]
      have HT := Hid.mk (fun u => w_rLens (M : Int) (N : Int) u)
      generalize Pl.cmpI (M : Int) (N : Int) = c at HF HT
      go_wp2_with fail
      refine (HT.out _).mono ?_
      rintro e w1 ⟨rfl, hw⟩
      obtain rfl := hw.symm
      go_wp2_with fail
      go_ret
      exact ⟨by rw [HF.out]; rfl, HBw.out⟩

def RcOk (h : Nat) : Prop := ∀ (A B : VT) (va vb : Value) (w : World), InH w h A va → InH w h B vb → formN h A = true → formN h B = true → Calls Tryz.prog 28 #[va, vb] w fun e w' => e = .returned (.int .i64 (cmpH h A B)) ∧ Below w.heap.size w w'

set_option maxRecDepth 100000 in
set_option maxHeartbeats 3200000 in
theorem w_rlists (h : Nat) (ih : RcOk h) (ao : Option Addr) (M acap : Nat) (xs : List VT) (bo : Option Addr) (N bcap : Nat) (ys : List VT) (w : World) (ha : IIn w h ao xs) (hb : IIn w h bo ys) (hM : xs.length = M) (hN : ys.length = N) (hac : M ≤ acap) (hbc : N ≤ bcap) (hM2 : M ≤ 140737488355328) (hN2 : N ≤ 140737488355328) (hfx : ∀ x ∈ xs, formN h x = true) (hfy : ∀ y ∈ ys, formN h y = true) :
    Calls Tryz.prog 47 #[.slice ao M acap, .slice bo N bcap] w fun e w' => e = .returned (.int .i64 (listC (cmpH h) xs ys)) ∧ Below w.heap.size w w' := by
  have HA := Hid.mk ha
  have HB := Hid.mk hb
  have HM := Hid.mk hM
  have HN := Hid.mk hN
  have HIh := Hid.mk ih
  have HFx := Hid.mk hfx
  have HFy := Hid.mk hfy
  clear ha hb hM hN ih hfx hfy
  go_enter Tryz.func47, Tryz.ntmps47
  go_wp2_with fail
  go_loopw [5] (fun i wr => ∃ k : Nat, k ≤ M ∧ k ≤ N ∧ i = .int .i64 (k : Int) ∧ Hid (Below w.heap.size w wr) ∧ Hid (listC (cmpH h) xs ys = listC (cmpH h) (xs.drop k) (ys.drop k))) (fun i _ => M - (intOf i).toNat)
  case atStart => exact ⟨0, Nat.zero_le _, Nat.zero_le _, rfl, Below.refl _ _, rfl⟩
  case round =>
    obtain ⟨k, hk, hk2, rfl, HBw, HQ⟩ := hrel
    by_cases hlt : k < M
    · have hl1 : (k : Int) < (M : Int) := by omega
      by_cases hlt2 : k < N
      · have hl2 : (k : Int) < (N : Int) := by omega
        have hka : k < xs.length := by rw [HM.out]; exact hlt
        have hkb : k < ys.length := by rw [HN.out]; exact hlt2
        obtain ⟨b, off, hko, hbl, hrow⟩ := (HA.out.keep HBw.out).row (by omega)
        subst hko
        obtain ⟨b2, off2, hko2, hbl2, hrow2⟩ := (HB.out.keep HBw.out).row (by omega)
        subst hko2
        have HS := Hid.mk (listC_step (c := (cmpH h)) hka hkb)
        obtain ⟨v0, v1, v2, v3, v4, ⟨c0, c1, c2, c3, c4⟩, hv⟩ := hrow k hka
        obtain ⟨u0, u1, u2, u3, u4, ⟨d0, d1, d2, d3, d4⟩, hu⟩ := hrow2 k hkb
        have HC : Hid (∀ u, Below wr.heap.size wr u → Calls Tryz.prog 28 #[.agg #[v0, v1, v2, v3, v4], .agg #[u0, u1, u2, u3, u4]] u fun e w' => e = .returned (.int .i64 (cmpH h xs[k] ys[k])) ∧ Hid (Below wr.heap.size wr w')) := fun u hu2 => (HIh.out _ _ _ _ u (hv.keep hu2) (hu.keep hu2) (HFx.out _ (List.getElem_mem hka)) (HFy.out _ (List.getElem_mem hkb))).mono fun e w' ⟨he, hb⟩ => ⟨he, hu2.trans (hb.mono hu2.size)⟩
        have HL : Hid (Below wr.heap.size wr wr) := Below.refl _ _
        have HSS : Hid (∀ u, Below wr.heap.size wr u → u.cell? ⟨b, off + k * 5, none⟩ = some v0 ∧ u.cell? ⟨b, off + k * 5 + 1, none⟩ = some v1 ∧ u.cell? ⟨b, off + k * 5 + 2, none⟩ = some v2 ∧ u.cell? ⟨b, off + k * 5 + 3, none⟩ = some v3 ∧ u.cell? ⟨b, off + k * 5 + 4, none⟩ = some v4 ∧ u.cell? ⟨b2, off2 + k * 5, none⟩ = some u0 ∧ u.cell? ⟨b2, off2 + k * 5 + 1, none⟩ = some u1 ∧ u.cell? ⟨b2, off2 + k * 5 + 2, none⟩ = some u2 ∧ u.cell? ⟨b2, off2 + k * 5 + 3, none⟩ = some u3 ∧ u.cell? ⟨b2, off2 + k * 5 + 4, none⟩ = some u4) := fun u hu => ⟨(hu.cell (p := ⟨_, _, _⟩) hbl).trans c0, (hu.cell (p := ⟨_, _, _⟩) hbl).trans c1, (hu.cell (p := ⟨_, _, _⟩) hbl).trans c2, (hu.cell (p := ⟨_, _, _⟩) hbl).trans c3, (hu.cell (p := ⟨_, _, _⟩) hbl).trans c4, (hu.cell (p := ⟨_, _, _⟩) hbl2).trans d0, (hu.cell (p := ⟨_, _, _⟩) hbl2).trans d1, (hu.cell (p := ⟨_, _, _⟩) hbl2).trans d2, (hu.cell (p := ⟨_, _, _⟩) hbl2).trans d3, (hu.cell (p := ⟨_, _, _⟩) hbl2).trans d4⟩
        generalize cmpH h xs[k] ys[k] = c at *
        clear hrow hrow2 hbl hbl2 hv hu hka hkb
        go_wp2_with fail
        go_region_held3 (fun u => u.cell? ⟨b, off + k * 5, none⟩ = some v0 ∧ u.cell? ⟨b, off + k * 5 + 1, none⟩ = some v1 ∧ u.cell? ⟨b, off + k * 5 + 2, none⟩ = some v2 ∧ u.cell? ⟨b, off + k * 5 + 3, none⟩ = some v3 ∧ u.cell? ⟨b, off + k * 5 + 4, none⟩ = some v4 ∧ u.cell? ⟨b2, off2 + k * 5, none⟩ = some u0 ∧ u.cell? ⟨b2, off2 + k * 5 + 1, none⟩ = some u1 ∧ u.cell? ⟨b2, off2 + k * 5 + 2, none⟩ = some u2 ∧ u.cell? ⟨b2, off2 + k * 5 + 3, none⟩ = some u3 ∧ u.cell? ⟨b2, off2 + k * 5 + 4, none⟩ = some u4) (first | exact HSS.out _ HL.out | exact HSS.out _ HL.out.drew) (first | (go_at_call 28; refine (HC.out _ (by first | exact HL.out | exact HL.out.drew)).mono ?_; rintro e w4 ⟨rfl, HL⟩))
        all_goals have HB2 := Hid.mk (HBw.out.trans (HL.out.mono HBw.out.size))
        all_goals clear c0 c1 c2 c3 c4 d0 d1 d2 d3 d4
        by_cases h0 : c = 0
        · have HN2 : Hid (listC (cmpH h) xs ys = listC (cmpH h) (xs.drop (k + 1)) (ys.drop (k + 1))) := by show _ = _; rw [HQ.out, HS.out, if_pos h0]
          subst h0
          clear HS
          go_wp2_with fail
          go_roundw
          case rel => exact ⟨k + 1, hlt, hlt2, by go_num, HB2, HN2⟩
          case measure => simp [intOf]; omega
        · have HN2 : Hid (listC (cmpH h) xs ys = c) := by show _ = _; rw [HQ.out, HS.out, if_neg h0]
          have h0' : (c != 0) = true := by simpa using h0
          clear h0 HS
          go_wp2_with fail
          go_ret
          exact ⟨by rw [HN2.out]; rfl, HB2.out⟩
      · have hl2 : ¬ (k : Int) < (N : Int) := by omega
        have HF : Hid (listC (cmpH h) xs ys = Pl.cmpI (M : Int) (N : Int)) := by
          show _ = _
          rw [HQ.out, listC_more (by rw [HM.out]; exact hlt) (by rw [HN.out]; omega)]
          unfold Pl.cmpI; rw [if_neg (by omega), if_pos (by omega)]
        have HT := Hid.mk (fun u => w_rLens (M : Int) (N : Int) u)
        generalize Pl.cmpI (M : Int) (N : Int) = c at HF HT
        go_wp2_with fail
        refine (HT.out _).mono ?_
        rintro e w1 ⟨rfl, hw⟩
        obtain rfl := hw.symm
        go_wp2_with fail
        go_ret
        exact ⟨by rw [HF.out]; rfl, HBw.out⟩
    · have hl1 : ¬ (k : Int) < (M : Int) := by omega
      have HF : Hid (listC (cmpH h) xs ys = Pl.cmpI (M : Int) (N : Int)) := by
        show _ = _
        rw [HQ.out]
        by_cases hlt2 : M < N
        · rw [listC_less (by rw [HM.out]; omega) (by rw [HN.out]; omega)]
          unfold Pl.cmpI; rw [if_pos (by omega)]
        · rw [listC_even (by rw [HM.out]; omega) (by rw [HN.out]; omega)]
          unfold Pl.cmpI; rw [if_neg (by omega), if_neg (by omega)]
      have HT := Hid.mk (fun u => w_rLens (M : Int) (N : Int) u)
      generalize Pl.cmpI (M : Int) (N : Int) = c at HF HT
      go_wp2_with fail
      refine (HT.out _).mono ?_
      rintro e w1 ⟨rfl, hw⟩
      obtain rfl := hw.symm
      go_wp2_with fail
      go_ret
      exact ⟨by rw [HF.out]; rfl, HBw.out⟩
end Go.Proofs.YtcpnodkcnblkdaaGreatDoor
