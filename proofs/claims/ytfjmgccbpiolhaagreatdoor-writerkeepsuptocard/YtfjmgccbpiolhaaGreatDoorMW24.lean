import Derived.Test.YtfjmgccbpiolhaaGreatDoorMW23
import Derived.Test.YtfjmgccbpiolhaaGreatDoorMW3
namespace Go.Proofs.YtfjmgccbpiolhaaGreatDoor
open Go.RowKit
set_option linter.unusedVariables false
set_option linter.unusedSimpArgs false
attribute [local go_sem] Oper.semAt_some

set_option maxRecDepth 100000 in
set_option maxHeartbeats 3200000 in
theorem w_keptS (B n : Nat) (v : Value) (xs : List Value) (w : World) (hown : w.ownsRow (B + 1) 47 1 v n xs) (hm : ∀ x ∈ xs, MkR w B 0 x) (hn : n ≤ 4398046511104) :
    Calls Tryz.prog 30 #[v] w fun e w' => e = .returned (.bool true) ∧ Below w.heap.size w w' := by
  rcases hown.2 with ⟨rfl, rfl⟩ | ⟨g, cap, cur, rfl, e1, e2, e3, e4, e5, e6⟩
  · exact (w_keptStrings0 w).mono fun e w' ⟨h1, h2⟩ => ⟨h1, by rw [h2]; exact Below.refl _ _⟩
  · have hlen : xs.length = n := by have := hown.1; omega
    have hgl : g < w.heap.size := (Array.getElem?_eq_some_iff.1 e2).1
    have hcell : ∀ k, (hk : k < xs.length) → w.cell? ⟨g, k, none⟩ = some xs[k] := fun k hk => by
      have h1 : w.cell? ⟨g, k, none⟩ = cur[k]? := cell_of_row _ _ _ _ _ _ e2
      have h2 : xs[k]? = some xs[k] := List.getElem?_eq_getElem hk
      rw [h1]
      rw [← h2]
      conv => rhs; rw [← e6]
      rw [List.getElem?_take, if_pos (by omega), Array.getElem?_toList]
    have HCL := Hid.mk hcell
    have HM := Hid.mk hm
    have HLN := Hid.mk hlen
    clear hown e1 e2 e4 e5 e6 hcell hm hlen
    go_enter Tryz.func30, Tryz.ntmps30
    go_wp2_with fail
    go_loopw [3] (fun i wr => ∃ k : Nat, k ≤ n ∧ i = .int .i64 (k : Int) ∧ Hid (Below w.heap.size w wr)) (fun i _ => n - (intOf i).toNat)
    case atStart => exact ⟨0, Nat.zero_le _, rfl, Below.refl _ _⟩
    case round =>
      obtain ⟨k, hk, rfl, HB⟩ := hrel
      by_cases hlt : k < n
      · have hl1 : (k : Int) < (n : Int) := by omega
        have hl0 : (0 : Int) ≤ (k : Int) := by omega
        have hkl : k < xs.length := by rw [HLN.out]; exact hlt
        have c0 := (HB.out.cell (p := ⟨g, k, none⟩) hgl).trans (HCL.out k hkl)
        obtain ⟨q, nn, cp, cu, hx, f1, f2, f3, f4, f5, f6⟩ := HM.out _ (List.getElem_mem hkl)
        rw [hx] at c0
        obtain ⟨P, rfl⟩ : ∃ P, nn = P + 16 := ⟨nn - 16, by omega⟩
        have hql : q < w.heap.size := (Array.getElem?_eq_some_iff.1 f5).1
        have HMK : Hid (∀ i, i < 16 → w.cell? ⟨q, P + i, none⟩ = some (.string (wbL i))) := fun i hi => by
          have h1 : w.cell? ⟨q, P + i, none⟩ = cu[P + i]? := cell_of_row _ _ _ _ _ _ f5
          rw [h1]
          have h2 := f6 i hi 0 (.string (wbL i)) rfl
          have e : (P + 16 - 16 + i) * lnZ 0 + 0 = P + i := by show (P + 16 - 16 + i) * 1 + 0 = _; omega
          rw [e] at h2
          exact h2
        clear hx f5 f6 hkl f1
        go_wp2_with fail
        go_loopw [5] (fun i wr => ∃ m : Nat, m ≤ 16 ∧ i = .int .i64 (m : Int) ∧ Hid (Below w.heap.size w wr)) (fun i _ => 16 - (intOf i).toNat)
        case atStart => exact ⟨0, Nat.zero_le _, rfl, HB⟩
        case round =>
          clear HB c0
          obtain ⟨m, hm, rfl, HB⟩ := hrel
          by_cases hlt2 : m < 16
          · have hm1 : (m : Int) < 16 := by omega
            have hm0 : (0 : Int) ≤ (m : Int) := by omega
            have HC := Hid.mk (fun u => w_lmarkS m u (by omega))
            have HK := Hid.mk (HMK.out m hlt2)
            generalize wbL m = key at HC HK
            go_wp2_with fail
            refine (HC.out _).mono ?_
            rintro e w4 ⟨rfl, hb4⟩
            have HB4 : Hid (Below w.heap.size w w4) := HB.out.trans (hb4.mono HB.out.size)
            have d0 := (HB4.out.cell (p := ⟨q, P + m, none⟩) hql).trans HK.out
            have i1 : (0 : Int) ≤ (P : Int) + (m : Int) := by omega
            have i2 : (P : Int) + (m : Int) < (P : Int) + 16 := by omega
            have i3 : (P : Int) ≤ 1099511627776 := by omega
            have i4 : ((P : Int) + (m : Int)).toNat = P + m := by omega
            clear hb4 HC HK
            go_wp2_with fail
            go_roundw
            case rel => exact ⟨m + 1, by omega, by go_num, HB4⟩
            case measure => simp [intOf]; omega
          · have hm1 : ¬ (m : Int) < 16 := by omega
            go_wp2_with fail
            go_roundw
            case rel => exact ⟨k + 1, by omega, by go_num, HB⟩
            case measure => simp [intOf]; omega
      · have hl1 : ¬ (k : Int) < (n : Int) := by omega
        go_wp2_with fail
        go_ret
        exact ⟨rfl, HB.out⟩
end Go.Proofs.YtfjmgccbpiolhaaGreatDoor
