import Derived.Test.YtdjoelhiahpmlaaGreatM20
import Derived.Test.YtdjoelhiahpmlaaGreatM15
import Derived.Test.YtdjoelhiahpmlaaGreatM21
import Derived.Deep.RegionHeld3
namespace Go.Proofs.YtdjoelhiahpmlaaGreat
open Go.RowKit
set_option linter.unusedVariables false
set_option linter.unusedSimpArgs false

theorem listC_step {α : Type} {c : α → α → Int} {xs ys : List α} {k : Nat} (h1 : k < xs.length) (h2 : k < ys.length) :
    listC c (xs.drop k) (ys.drop k) = if c xs[k] ys[k] = 0 then listC c (xs.drop (k + 1)) (ys.drop (k + 1)) else c xs[k] ys[k] := by
  rw [List.drop_eq_getElem_cons h1, List.drop_eq_getElem_cons h2]; rfl
theorem listC_more {α : Type} {c : α → α → Int} {xs ys : List α} {k : Nat} (h1 : k < xs.length) (h2 : ys.length ≤ k) : listC c (xs.drop k) (ys.drop k) = 1 := by
  rw [List.drop_eq_getElem_cons h1, List.drop_eq_nil_of_le h2]; rfl
theorem listC_less {α : Type} {c : α → α → Int} {xs ys : List α} {k : Nat} (h1 : xs.length ≤ k) (h2 : k < ys.length) : listC c (xs.drop k) (ys.drop k) = -1 := by
  rw [List.drop_eq_getElem_cons h2, List.drop_eq_nil_of_le h1]; rfl
theorem listC_even {α : Type} {c : α → α → Int} {xs ys : List α} {k : Nat} (h1 : xs.length ≤ k) (h2 : ys.length ≤ k) : listC c (xs.drop k) (ys.drop k) = 0 := by
  rw [List.drop_eq_nil_of_le h1, List.drop_eq_nil_of_le h2]; rfl
theorem below2 (w : World) (o1 o2 : Obj) : Below w.heap.size w ((w.alloc o1).alloc o2) := ((Below.refl _ _).alloc (Nat.le_refl _) _).alloc (by simp) _
theorem getD_key {l : List ByteArray} {k : Nat} (h : k < l.length) : l.getD k ByteArray.empty = l[k] := by simp [List.getD, h]

set_option maxRecDepth 100000 in
set_option maxHeartbeats 3200000 in
theorem w_slCompare (ao : Option Addr) (M acap : Nat) (xs : List ByteArray) (bo : Option Addr) (N bcap : Nat) (ys : List ByteArray) (w : World) (ha : KIn w ao xs) (hb : KIn w bo ys) (hM : xs.length = M) (hN : ys.length = N) (hac : M ≤ acap) (hbc : N ≤ bcap) (hM2 : M ≤ 140737488355328) (hN2 : N ≤ 140737488355328) :
    Calls Tryz.prog 93 #[.slice ao M acap, .slice bo N bcap] w fun e w' => e = .returned (.int .i64 (listC keyC xs ys)) ∧ w' = w := by
  have HA := Hid.mk ha
  have HB := Hid.mk hb
  have HM := Hid.mk hM
  have HN := Hid.mk hN
  clear ha hb hM hN
  go_enter Tryz.func93, Tryz.ntmps93
  go_wp2_with fail
  go_loopw [11] (fun i wr => ∃ k : Nat, k ≤ M ∧ k ≤ N ∧ i = .int .i64 (k : Int) ∧ wr = w ∧ Hid (listC keyC xs ys = listC keyC (xs.drop k) (ys.drop k))) (fun i _ => M - (intOf i).toNat)
  case atStart => exact ⟨0, Nat.zero_le _, Nat.zero_le _, rfl, rfl, rfl⟩
  case round =>
    obtain ⟨k, hk, hk2, rfl, rfl, HQ⟩ := hrel
    by_cases hlt : k < M
    · have hl1 : (k : Int) < (M : Int) := by omega
      have hka : k < xs.length := by rw [HM.out]; exact hlt
      obtain ⟨b, off, hko, hbl, hrow⟩ := HA.out.row (by omega)
      subst hko
      have c0 := hrow k hka
      rw [getD_key hka] at c0
      by_cases hlt2 : k < N
      · have hl2 : ¬ (N : Int) ≤ (k : Int) := by omega
        have hl3 : (k : Int) < (N : Int) := by omega
        have hkb : k < ys.length := by rw [HN.out]; exact hlt2
        obtain ⟨b2, off2, hko2, hbl2, hrow2⟩ := HB.out.row (by omega)
        subst hko2
        have c1 := hrow2 k hkb
        rw [getD_key hkb] at c1
        have HS := Hid.mk (listC_step (c := keyC) hka hkb)
        have HC := Hid.mk (fun u => w_CompareString xs[k] ys[k] u)
        have hkc : Pl.cmpS xs[k].toList ys[k].toList = keyC xs[k] ys[k] := rfl
        rw [hkc] at HC
        generalize xs[k] = x at *
        generalize ys[k] = y at *
        clear hrow hrow2 hbl hbl2 hka hkb hkc
        by_cases h0 : keyC x y = 0
        · have HN2 : Hid (listC keyC xs ys = listC keyC (xs.drop (k + 1)) (ys.drop (k + 1))) := by show _ = _; rw [HQ.out, HS.out, if_pos h0]
          rw [h0] at HC
          clear h0 HS
          go_wp2_with fail
          refine (HC.out _).mono ?_
          rintro e w2 ⟨rfl, hw⟩
          obtain rfl := hw.symm
          go_wp2_with fail
          go_roundw
          case rel => exact ⟨k + 1, hlt, hlt2, by go_num, by first | trivial | rfl, HN2⟩
          case measure => simp [intOf]; omega
        · have HN2 : Hid (listC keyC xs ys = keyC x y) := by show _ = _; rw [HQ.out, HS.out, if_neg h0]
          have h0' : (keyC x y != 0) = true := by simpa using h0
          generalize keyC x y = c at *
          clear h0 HS
          go_wp2_with fail
          refine (HC.out _).mono ?_
          rintro e w2 ⟨rfl, hw⟩
          obtain rfl := hw.symm
          go_wp2_with fail
          go_ret
          exact ⟨by rw [HN2.out]; rfl, rfl⟩
      · have hl2 : (N : Int) ≤ (k : Int) := by omega
        have HF : Hid (listC keyC xs ys = 1) := by show _ = _; rw [HQ.out]; exact listC_more hka (by rw [HN.out]; omega)
        generalize xs[k] = x at c0
        clear hrow hbl hka
        go_wp2_with fail
        go_ret
        exact ⟨by rw [HF.out]; rfl, rfl⟩
    · have hl1 : ¬ (k : Int) < (M : Int) := by omega
      by_cases hlt2 : M < N
      · have hl2 : (M : Int) < (N : Int) := by omega
        have HF : Hid (listC keyC xs ys = -1) := by show _ = _; rw [HQ.out]; exact listC_less (by rw [HM.out]; omega) (by rw [HN.out]; omega)
        go_wp2_with fail
        go_ret
        exact ⟨by rw [HF.out]; rfl, rfl⟩
      · have hl2 : ¬ (M : Int) < (N : Int) := by omega
        have HF : Hid (listC keyC xs ys = 0) := by show _ = _; rw [HQ.out]; exact listC_even (by rw [HM.out]; omega) (by rw [HN.out]; omega)
        go_wp2_with fail
        go_ret
        exact ⟨by rw [HF.out]; rfl, rfl⟩
end Go.Proofs.YtdjoelhiahpmlaaGreat
