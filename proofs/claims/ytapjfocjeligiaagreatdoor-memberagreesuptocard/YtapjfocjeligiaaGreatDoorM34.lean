import Derived.Test.YtapjfocjeligiaaGreatDoorM31
import Derived.Test.YtapjfocjeligiaaGreatDoorM22
import Derived.Deep.Cut
namespace Go.Proofs.YtapjfocjeligiaaGreatDoor
open Go.RowKit Go.Shelf Go.Sort
set_option linter.unusedVariables false
set_option linter.unusedSimpArgs false
attribute [local go_sem] Oper.semAt_some

theorem w_LessS (a b : ByteArray) (w : World) : Calls Tryz.prog 89 #[.string a, .string b] w fun e w' => e = .returned (.bool (Op.bytesLess a.toList b.toList)) ∧ w' = w := by
  obtain ⟨r, hr⟩ : ∃ r, Op.bytesLess a.toList b.toList = r := ⟨_, rfl⟩
  rw [hr]
  cases r with
  | true =>
    go_enter Tryz.func89, Tryz.ntmps89
    go_wp2
    all_goals (go_ret; exact ⟨rfl, rfl⟩)
  | false =>
    go_enter Tryz.func89, Tryz.ntmps89
    go_wp2
    all_goals (go_ret; exact ⟨rfl, rfl⟩)
theorem w_isNaNS (a : ByteArray) (w : World) : Calls Tryz.prog 90 #[.string a] w fun e w' => e = .returned (.bool false) ∧ w' = w := by
  go_enter Tryz.func90, Tryz.ntmps90
  go_wp2
  all_goals (go_ret; exact ⟨by first | rfl | simp, rfl⟩)
/-- where a text stands, or would stand, in a row that rises -/
theorem search_at {ks : List ByteArray} (hr : rK ks ks.length = true) (s : ByteArray) : ∃ m, m ≤ ks.length ∧ (∀ k, (hk : k < ks.length) → k < m → Op.bytesLess ks[k].toList s.toList = true) ∧ (∀ k, (hk : k < ks.length) → m ≤ k → Op.bytesLess ks[k].toList s.toList = false) ∧ hasK ks s = match ks[m]? with | some x => x.toList == s.toList | none => false := by
  obtain ⟨m, hm⟩ : ∃ m, ks.findIdx (fun x => !Op.bytesLess x.toList s.toList) = m := ⟨_, rfl⟩
  have h0 : m ≤ ks.length := by rw [← hm]; exact List.findIdx_le_length
  have h1 : ∀ k, (hk : k < ks.length) → k < m → Op.bytesLess ks[k].toList s.toList = true := fun k hk hkm => by
    have := List.not_of_lt_findIdx (xs := ks) (p := fun x => !Op.bytesLess x.toList s.toList) (i := k) (by rw [hm]; exact hkm)
    simpa using this
  have h2 : ∀ k, (hk : k < ks.length) → m ≤ k → Op.bytesLess ks[k].toList s.toList = false := fun k hk hkm => by
    have hml : m < ks.length := by omega
    have hm2 : Op.bytesLess ks[m].toList s.toList = false := by
      have := List.findIdx_getElem (xs := ks) (p := fun x => !Op.bytesLess x.toList s.toList) (w := by rw [hm]; exact hml)
      simp only [hm] at this
      simpa using this
    by_cases e : m = k
    · subst e; exact hm2
    · have h3 := rise_ltB hr k hk m (by omega)
      cases e2 : Op.bytesLess ks[k].toList s.toList with
      | false => rfl
      | true =>
        rw [bl_ltB, decide_eq_true_eq] at e2
        rw [bl_ltB, decide_eq_false_iff_not] at hm2
        exact absurd (List.lt_trans h3 e2) hm2
  refine ⟨m, h0, h1, h2, ?_⟩
  by_cases hml : m < ks.length
  · rw [List.getElem?_eq_getElem hml]
    show hasK ks s = (ks[m].toList == s.toList)
    rw [Bool.eq_iff_iff]
    constructor
    · intro h
      obtain ⟨x, hx, e⟩ := List.any_eq_true.1 h
      obtain ⟨k, hk, rfl⟩ := List.getElem_of_mem hx
      have e' : ks[k] = s := (eqS_iff _ _).1 e
      have k1 : ¬ k < m := fun hkm => by
        have := h1 k hk hkm
        rw [e', bl_ltB, decide_eq_true_eq] at this
        exact List.lt_irrefl _ this
      by_cases k2 : m = k
      · subst k2; exact e
      · have h3 := rise_ltB hr k hk m (by omega)
        have h4 := h2 m hml (Nat.le_refl _)
        rw [bl_ltB, decide_eq_false_iff_not, ← e'] at h4
        exact absurd h3 h4
    · intro h
      exact List.any_eq_true.2 ⟨_, List.getElem_mem hml, h⟩
  · rw [List.getElem?_eq_none (by omega)]
    show hasK ks s = false
    cases e : hasK ks s with
    | false => rfl
    | true =>
      obtain ⟨x, hx, e⟩ := List.any_eq_true.1 e
      obtain ⟨k, hk, rfl⟩ := List.getElem_of_mem hx
      have e' : ks[k] = s := (eqS_iff _ _).1 e
      have := h1 k hk (by omega)
      rw [e', bl_ltB, decide_eq_true_eq] at this
      exact absurd this (List.lt_irrefl _)

theorem bin_at {ks : List ByteArray} {s : ByteArray} {m : Nat} (hf : hasK ks s = match ks[m]? with | some x => x.toList == s.toList | none => false) : hasK ks s = true → ∃ hm : m < ks.length, ks[m] = s := by
  intro h
  rw [hf] at h
  by_cases hm : m < ks.length
  · rw [List.getElem?_eq_getElem hm] at h
    refine ⟨hm, (eqS_iff _ _).1 ?_⟩
    exact h
  · rw [List.getElem?_eq_none (by omega)] at h
    cases h
set_option maxRecDepth 100000 in
set_option maxHeartbeats 3200000 in
theorem w_BinX (ks : List ByteArray) (s : ByteArray) (hr : rK ks ks.length = true) : ∃ m : Nat, (hasK ks s = true → ∃ hm : m < ks.length, ks[m] = s) ∧ ∀ (ko : Option Addr) (N kc : Nat) (w : World), KIn w ko ks → ks.length = N → N ≤ kc → N ≤ 140737488355328 →
    Calls Tryz.prog 61 #[.slice ko N kc, .string s] w fun e w' => e = .returned (.tuple #[.int .i64 (m : Int), .bool (hasK ks s)]) ∧ w' = w := by
  obtain ⟨m, hm, h1, h2, hf⟩ := search_at hr s
  refine ⟨m, bin_at hf, fun ko N kc w hk hN hc hN2 => ?_⟩
  have HI := Hid.mk hk
  have HNN := Hid.mk hN
  have H1 := Hid.mk h1
  have H2 := Hid.mk h2
  have HF := Hid.mk hf
  generalize hasK ks s = R at HF ⊢
  rw [hN] at hm
  clear hk hN h1 h2 hf hr
  go_enter Tryz.func61, Tryz.ntmps61
  go_wp2_with fail
  go_loopw [7, 8] (fun i j wr => ∃ p q : Nat, p ≤ m ∧ m ≤ q ∧ q ≤ N ∧ i = .int .i64 (p : Int) ∧ j = .int .i64 (q : Int) ∧ Hid (wr = w)) (fun i j _ => (intOf j).toNat - (intOf i).toNat)
  case atStart => exact ⟨0, N, Nat.zero_le _, hm, Nat.le_refl _, rfl, rfl, rfl⟩
  case round =>
    obtain ⟨p, q, hp, hq, hqN, rfl, rfl, HW⟩ := hrel
    obtain rfl := HW.out
    by_cases hlt : p < q
    · have hl1 : (p : Int) < (q : Int) := by omega
      go_upto_region 5 with fail
      obtain ⟨k, hk⟩ : ∃ k : Nat, ((p : Int) + (q : Int)) / 2 = (k : Int) := ⟨((p : Int) + (q : Int)).toNat / 2, by omega⟩
      have hkq : k < q := by omega
      have hpk : p ≤ k := by omega
      rw [hk]
      clear hk
      have hkl : k < ks.length := by rw [HNN.out]; omega
      obtain ⟨b, off, hko, hbl, hrow⟩ := HI.out.row (by omega)
      subst hko
      have c0 := hrow k hkl
      rw [List.getD_eq_getElem?_getD, List.getElem?_eq_getElem hkl, Option.getD_some] at c0
      have hi1 : (k : Int) < (N : Int) := by omega
      have hi4 : (0 : Int) ≤ (k : Int) := by omega
      have HC := Hid.mk (w_LessS ks[k] s wr)
      clear hrow
      by_cases hkm : k < m
      · rw [H1.out k hkl hkm] at HC
        generalize ks[k] = x at c0 HC
        clear hkl
        go_wp2_with fail
        refine HC.out.mono ?_
        rintro e w2 ⟨rfl, rfl⟩
        go_wp2_with fail
        go_roundw
        case rel => exact ⟨k + 1, q, hkm, hq, hqN, by go_num, rfl, (by first | trivial | exact rfl)⟩
        case measure => simp [intOf]; omega
      · rw [H2.out k hkl (by omega)] at HC
        generalize ks[k] = x at c0 HC
        clear hkl
        go_wp2_with fail
        refine HC.out.mono ?_
        rintro e w2 ⟨rfl, rfl⟩
        go_wp2_with fail
        go_roundw
        case rel => exact ⟨p, k, hp, by omega, by omega, rfl, by go_num, (by first | trivial | exact rfl)⟩
        case measure => simp [intOf]; omega
    · have hl1 : ¬ (p : Int) < (q : Int) := by omega
      obtain rfl : p = m := by omega
      by_cases hpN : p < N
      · have hp1 : (p : Int) < (N : Int) := by omega
        have hp4 : (0 : Int) ≤ (p : Int) := by omega
        have hpl : p < ks.length := by rw [HNN.out]; exact hpN
        obtain ⟨b, off, hko, hbl, hrow⟩ := HI.out.row (by omega)
        subst hko
        have c0 := hrow p hpl
        rw [List.getD_eq_getElem?_getD, List.getElem?_eq_getElem hpl, Option.getD_some] at c0
        have hR : R = (ks[p].toList == s.toList) := by rw [HF.out, List.getElem?_eq_getElem hpl]
        have HC := Hid.mk (fun u => w_isNaNS ks[p] u)
        generalize ks[p] = x at c0 hR HC
        clear hrow hpl
        cases hx : (x.toList == s.toList) with
        | true =>
          rw [hx] at hR
          go_wp2_with fail
          go_ret2
          exact ⟨by first | rfl | (rw [hR]; rfl), rfl⟩
        | false =>
          rw [hx] at hR
          go_wp2_with fail
          refine (HC.out _).mono ?_
          rintro e w2 ⟨rfl, rfl⟩
          go_wp2_with fail
          go_ret2
          exact ⟨by first | rfl | (rw [hR]; rfl), rfl⟩
      · have hp1 : ¬ (p : Int) < (N : Int) := by omega
        have hR : R = false := by rw [HF.out, List.getElem?_eq_none (by rw [HNN.out]; omega)]
        go_wp2_with fail
        go_ret2
        exact ⟨by first | rfl | (rw [hR]; rfl), rfl⟩
theorem w_BinS (ko : Option Addr) (N kc : Nat) (ks : List ByteArray) (s : ByteArray) (w : World) (hk : KIn w ko ks) (hN : ks.length = N) (hc : N ≤ kc) (hN2 : N ≤ 140737488355328) (hr : rK ks ks.length = true) :
    Calls Tryz.prog 61 #[.slice ko N kc, .string s] w fun e w' => (∃ m : Int, e = .returned (.tuple #[.int .i64 m, .bool (hasK ks s)])) ∧ w' = w := by
  obtain ⟨m, _, hm⟩ := w_BinX ks s hr
  exact (hm ko N kc w hk hN hc hN2).mono fun e w' ⟨h1, h2⟩ => ⟨⟨_, h1⟩, h2⟩
end Go.Proofs.YtapjfocjeligiaaGreatDoor
