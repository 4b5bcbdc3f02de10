import Derived.Test.YtkoednenjnnjoaaDoorZW25
import Derived.Test.YtkoednenjnnjoaaDoorM17
namespace Go.Proofs.YtkoednenjnnjoaaDoor
open Go.RowKit
set_option linter.unusedVariables false
set_option linter.unusedSimpArgs false

theorem dropW (s : ByteArray) (k : Nat) (h : k < s.size) : s.data.toList.drop k = s[k]'h :: s.data.toList.drop (k + 1) := by
  rw [List.drop_eq_getElem_cons (by rw [Array.length_toList]; exact h)]
  simp
  rfl

set_option maxRecDepth 100000 in
set_option maxHeartbeats 3200000 in
theorem w_rBare (s : ByteArray) (w : World) (hs : s.size ≤ 70368744177664) :
    Calls Tryd.prog 20 #[.string s] w fun e w' => e = .returned (.string ⟨(bareF false s.data.toList).toArray⟩) ∧ Below w.heap.size w w' := by
  obtain ⟨i0, hi0, hz0, hz1, hz2⟩ := info_parts Tryd.infoB
  have HS : Hid (RqSt w (w.alloc (.cells #[] 5)) (.slice (some ⟨w.heap.size, 0, none⟩) 0 0) 0 []) := ⟨rfl, ⟨rfl, .inr ⟨w.heap.size, 0, _, rfl, Nat.le_refl _, heap_alloc_new w _, Nat.le_refl _, by decide, rfl, rfl⟩⟩, (Below.refl _ _).alloc (Nat.le_refl _) _⟩
  go_enter Tryd.func20, Tryd.ntmps20
  go_wp2_with fail
  go_loopw [3, 4, 5] (fun b ins i wr => ∃ (k n : Nat) (q : Bool) (so : Option Addr) (sc : Nat) (l : List UInt8), k ≤ s.size ∧ n ≤ k ∧ b = .slice so n sc ∧ ins = .bool q ∧ i = .int .i64 (k : Int) ∧ Hid (l ++ bareF q (s.data.toList.drop k) = bareF false s.data.toList) ∧ Hid (RqSt w wr (.slice so n sc) n l)) (fun _ _ i _ => s.size - (intOf i).toNat)
  case atStart => exact ⟨0, 0, false, _, 0, [], Nat.zero_le _, Nat.le_refl _, rfl, rfl, rfl, by show _ = _; simp, HS⟩
  case round =>
    obtain ⟨k, n, q, so, sc, l, hk, hn6, rfl, rfl, rfl, HE, HQ⟩ := hrel
    by_cases hlt : k < s.size
    · have hk1 : (k : Int) < (s.size : Int) := by omega
      have hix : (0 : Int) ≤ (k : Int) ∧ (k : Int) < (s.size : Int) := by omega
      have HD := Hid.mk (dropW s k hlt)
      obtain ⟨c, hc⟩ : ∃ c, c = s[k]'hlt := ⟨_, rfl⟩
      rw [← hc] at HD
      have hci : s[k]'hlt = c := hc.symm
      clear hc
      have hcl : c.toNat < 256 := c.toNat_lt
      cases q with
      | true =>
        by_cases e92 : c.toNat = 92
        · have hcc : c = 92 := UInt8.toNat_inj.1 (by rw [e92]; rfl)
          have q92 : ((c.toNat : Int) == 92) = true := by rw [beq_iff_eq]; omega
          by_cases hnx : k + 1 < s.size
          · have hn1 : (k : Int) + 1 < (s.size : Int) := by omega
            have hix2 : (0 : Int) ≤ (k : Int) + 1 ∧ (k : Int) + 1 < (s.size : Int) := by omega
            have HD2 := Hid.mk (dropW s (k + 1) hnx)
            obtain ⟨d, hd⟩ : ∃ d, d = s[k + 1]'hnx := ⟨_, rfl⟩
            rw [← hd] at HD2
            have hdi : s[k + 1]'hnx = d := hd.symm
            clear hd
            have HP : Hid ((l ++ [92, d]) ++ bareF true (s.data.toList.drop (k + 2)) = bareF false s.data.toList) := by
              have e := HE.out
              rw [HD.out, HD2.out, hcc, bareF_esc] at e
              show _ = _
              rw [← e]; simp
            clear hcc
            have hcast : ((k : Int) + 1).toNat = k + 1 := by omega
            have hown0 := HQ.out.own
            have hBw := HQ.out.below.size
            go_wp2_with (at_builtin; refine wpList_append_own _ rfl _ _ 46 rfl w.heap.size 5 i0 (.int .u8 0) 1 1 Tryd.underlying46 hi0 hz0 hz1 hz2 rfl (by decide) _ _ _ rfl (hown0.alloc _) ⟨wr.heap.size, 0, none⟩ 2 2 [.int .u8 92, .int .u8 (d.toNat : Int)] rfl rfl (by intro j u hj; match j, hj with | 0, hj => simp at hj; subst hj; simp [Addr.add] | 1, hj => simp at hj; subst hj; simp [Addr.add] <;> rfl) (by intro u hu; simp only [List.mem_cons, List.not_mem_nil, or_false] at hu; rcases hu with rfl | rfl <;> rfl) (by unfold maxLen; omega) (by omega) (by simp; omega) ?_)
            intro v1 w1 hown1 hgrow1 hnn
            obtain ⟨so1, sc1, hv1⟩ := own_shape hown1
            have HQ2 : Hid (RqSt w w1 v1 (n + 2) (l ++ [92, d])) := HQ.out.app (m := 2) rfl hown1 hgrow1
            subst hv1
            clear hown1 hgrow1 hnn hown0 hBw
            go_wp2_with fail
            go_roundw
            case rel => exact ⟨k + 2, _, true, _, _, l ++ [92, d], by omega, by omega, rfl, by first | rfl | simp, by go_num, HP, HQ2⟩
            case measure => simp [intOf]; omega
          · have hn1 : ¬ (k : Int) + 1 < (s.size : Int) := by omega
            have HP : Hid ((l ++ [c]) ++ bareF true (s.data.toList.drop (k + 1)) = bareF false s.data.toList) := by
              have e := HE.out
              have e2 : s.data.toList.drop (k + 1) = [] := List.drop_eq_nil_of_le (by rw [Array.length_toList]; show s.size ≤ _; omega)
              rw [HD.out, e2] at e
              show _ = _
              rw [← e, e2, hcc]; simp [bareF]
            have q34 : ((c.toNat : Int) == 34) = false := by rw [beq_eq_false_iff_ne]; omega
            have HC := Hid.mk e92
            clear hcc e92
            have hown0 := HQ.out.own
            have hBw := HQ.out.below.size
            go_wp2_with (at_builtin; refine wpList_append_own _ rfl _ _ 46 rfl w.heap.size 5 i0 (.int .u8 0) 1 1 Tryd.underlying46 hi0 hz0 hz1 hz2 rfl (by decide) _ _ _ rfl (hown0.alloc _) ⟨wr.heap.size, 0, none⟩ 1 1 [.int .u8 (c.toNat : Int)] rfl rfl (by intro j u hj; match j, hj with | 0, hj => simp at hj; subst hj; simp [Addr.add]) (by intro u hu; simp only [List.mem_cons, List.not_mem_nil, or_false] at hu; rcases hu with rfl <;> rfl) (by unfold maxLen; omega) (by omega) (by simp; omega) ?_)
            intro v1 w1 hown1 hgrow1 hnn
            obtain ⟨so1, sc1, hv1⟩ := own_shape hown1
            have HQ2 : Hid (RqSt w w1 v1 (n + 1) (l ++ [c])) := HQ.out.app (m := 1) rfl hown1 hgrow1
            subst hv1
            clear hown1 hgrow1 hnn hown0 hBw
            go_wp2_with fail
            go_roundw
            case rel => exact ⟨k + 1, _, true, _, _, l ++ [c], by omega, by omega, rfl, by first | rfl | simp, by go_num, HP, HQ2⟩
            case measure => simp [intOf]; omega
        · have q92 : ((c.toNat : Int) == 92) = false := by rw [beq_eq_false_iff_ne]; omega
          have hne92 : c ≠ 92 := fun e => e92 (by rw [e]; rfl)
          by_cases e34 : c.toNat = 34
          · have hcc : c = 34 := UInt8.toNat_inj.1 (by rw [e34]; rfl)
            have q34 : ((c.toNat : Int) == 34) = true := by rw [beq_iff_eq]; omega
            have q10 : ((c.toNat : Int) != 10) = true := by rw [bne_iff_ne]; omega
            have q32 : ((c.toNat : Int) != 32) = true := by rw [bne_iff_ne]; omega
            have HP : Hid ((l ++ [34]) ++ bareF false (s.data.toList.drop (k + 1)) = bareF false s.data.toList) := by
              have e := HE.out
              rw [HD.out, hcc, bareF_close] at e
              show _ = _
              rw [← e]; simp
            clear hcc
            have hown0 := HQ.out.own
            have hBw := HQ.out.below.size
            go_wp2_with (at_builtin; refine wpList_append_own _ rfl _ _ 46 rfl w.heap.size 5 i0 (.int .u8 0) 1 1 Tryd.underlying46 hi0 hz0 hz1 hz2 rfl (by decide) _ _ _ rfl (hown0.alloc _) ⟨wr.heap.size, 0, none⟩ 1 1 [.int .u8 34] rfl rfl (by intro j u hj; match j, hj with | 0, hj => simp at hj; subst hj; simp [Addr.add]) (by intro u hu; simp only [List.mem_cons, List.not_mem_nil, or_false] at hu; rcases hu with rfl <;> rfl) (by unfold maxLen; omega) (by omega) (by simp; omega) ?_)
            intro v1 w1 hown1 hgrow1 hnn
            obtain ⟨so1, sc1, hv1⟩ := own_shape hown1
            have HQ2 : Hid (RqSt w w1 v1 (n + 1) (l ++ [34])) := HQ.out.app (m := 1) rfl hown1 hgrow1
            subst hv1
            clear hown1 hgrow1 hnn hown0 hBw
            go_wp2_with fail
            go_roundw
            case rel => exact ⟨k + 1, _, false, _, _, l ++ [34], by omega, by omega, rfl, by first | rfl | simp, by go_num, HP, HQ2⟩
            case measure => simp [intOf]; omega
          · have q34 : ((c.toNat : Int) == 34) = false := by rw [beq_eq_false_iff_ne]; omega
            have hne34 : c ≠ 34 := fun e => e34 (by rw [e]; rfl)
            have HP : Hid ((l ++ [c]) ++ bareF true (s.data.toList.drop (k + 1)) = bareF false s.data.toList) := by
              have e := HE.out
              rw [HD.out, bareF_in c _ hne92 hne34] at e
              show _ = _
              rw [← e]; simp
            have hown0 := HQ.out.own
            have hBw := HQ.out.below.size
            go_wp2_with (at_builtin; refine wpList_append_own _ rfl _ _ 46 rfl w.heap.size 5 i0 (.int .u8 0) 1 1 Tryd.underlying46 hi0 hz0 hz1 hz2 rfl (by decide) _ _ _ rfl (hown0.alloc _) ⟨wr.heap.size, 0, none⟩ 1 1 [.int .u8 (c.toNat : Int)] rfl rfl (by intro j u hj; match j, hj with | 0, hj => simp at hj; subst hj; simp [Addr.add]) (by intro u hu; simp only [List.mem_cons, List.not_mem_nil, or_false] at hu; rcases hu with rfl <;> rfl) (by unfold maxLen; omega) (by omega) (by simp; omega) ?_)
            intro v1 w1 hown1 hgrow1 hnn
            obtain ⟨so1, sc1, hv1⟩ := own_shape hown1
            have HQ2 : Hid (RqSt w w1 v1 (n + 1) (l ++ [c])) := HQ.out.app (m := 1) rfl hown1 hgrow1
            subst hv1
            clear hown1 hgrow1 hnn hown0 hBw
            go_wp2_with fail
            go_roundw
            case rel => exact ⟨k + 1, _, true, _, _, l ++ [c], by omega, by omega, rfl, by first | rfl | simp, by go_num, HP, HQ2⟩
            case measure => simp [intOf]; omega
      | false =>
        by_cases e34 : c.toNat = 34
        · have hcc : c = 34 := UInt8.toNat_inj.1 (by rw [e34]; rfl)
          have q34 : ((c.toNat : Int) == 34) = true := by rw [beq_iff_eq]; omega
          have HP : Hid ((l ++ [34]) ++ bareF true (s.data.toList.drop (k + 1)) = bareF false s.data.toList) := by
            have e := HE.out
            rw [HD.out, hcc, bareF_open] at e
            show _ = _
            rw [← e]; simp
          clear hcc
          have hown0 := HQ.out.own
          have hBw := HQ.out.below.size
          go_wp2_with (at_builtin; refine wpList_append_own _ rfl _ _ 46 rfl w.heap.size 5 i0 (.int .u8 0) 1 1 Tryd.underlying46 hi0 hz0 hz1 hz2 rfl (by decide) _ _ _ rfl (hown0.alloc _) ⟨wr.heap.size, 0, none⟩ 1 1 [.int .u8 34] rfl rfl (by intro j u hj; match j, hj with | 0, hj => simp at hj; subst hj; simp [Addr.add]) (by intro u hu; simp only [List.mem_cons, List.not_mem_nil, or_false] at hu; rcases hu with rfl <;> rfl) (by unfold maxLen; omega) (by omega) (by simp; omega) ?_)
          intro v1 w1 hown1 hgrow1 hnn
          obtain ⟨so1, sc1, hv1⟩ := own_shape hown1
          have HQ2 : Hid (RqSt w w1 v1 (n + 1) (l ++ [34])) := HQ.out.app (m := 1) rfl hown1 hgrow1
          subst hv1
          clear hown1 hgrow1 hnn hown0 hBw
          go_wp2_with fail
          go_roundw
          case rel => exact ⟨k + 1, _, true, _, _, l ++ [34], by omega, by omega, rfl, by first | rfl | simp, by go_num, HP, HQ2⟩
          case measure => simp [intOf]; omega
        · have q34 : ((c.toNat : Int) == 34) = false := by rw [beq_eq_false_iff_ne]; omega
          have hne34 : c ≠ 34 := fun e => e34 (by rw [e]; rfl)
          by_cases e10 : c.toNat = 10
          · have hcc : c = 10 := UInt8.toNat_inj.1 (by rw [e10]; rfl)
            have q10 : ((c.toNat : Int) != 10) = false := by rw [bne_eq_false_iff_eq]; omega
            have HP : Hid (l ++ bareF false (s.data.toList.drop (k + 1)) = bareF false s.data.toList) := by
              have e := HE.out
              rw [HD.out, hcc, bareF_nl] at e
              exact e
            clear hcc
            go_wp2_with fail
            go_roundw
            case rel => exact ⟨k + 1, _, false, _, _, l, by omega, by omega, rfl, by first | rfl | simp, by go_num, HP, HQ⟩
            case measure => simp [intOf]; omega
          · have q10 : ((c.toNat : Int) != 10) = true := by rw [bne_iff_ne]; omega
            have hne10 : c ≠ 10 := fun e => e10 (by rw [e]; rfl)
            by_cases e32 : c.toNat = 32
            · have hcc : c = 32 := UInt8.toNat_inj.1 (by rw [e32]; rfl)
              have q32 : ((c.toNat : Int) != 32) = false := by rw [bne_eq_false_iff_eq]; omega
              have HP : Hid (l ++ bareF false (s.data.toList.drop (k + 1)) = bareF false s.data.toList) := by
                have e := HE.out
                rw [HD.out, hcc, bareF_sp] at e
                exact e
              clear hcc
              go_wp2_with fail
              go_roundw
              case rel => exact ⟨k + 1, _, false, _, _, l, by omega, by omega, rfl, by first | rfl | simp, by go_num, HP, HQ⟩
              case measure => simp [intOf]; omega
            · have q32 : ((c.toNat : Int) != 32) = true := by rw [bne_iff_ne]; omega
              have hne32 : c ≠ 32 := fun e => e32 (by rw [e]; rfl)
              have HP : Hid ((l ++ [c]) ++ bareF false (s.data.toList.drop (k + 1)) = bareF false s.data.toList) := by
                have e := HE.out
                rw [HD.out, bareF_out c _ hne34 hne10 hne32] at e
                show _ = _
                rw [← e]; simp
              have hown0 := HQ.out.own
              have hBw := HQ.out.below.size
              go_wp2_with (at_builtin; refine wpList_append_own _ rfl _ _ 46 rfl w.heap.size 5 i0 (.int .u8 0) 1 1 Tryd.underlying46 hi0 hz0 hz1 hz2 rfl (by decide) _ _ _ rfl (hown0.alloc _) ⟨wr.heap.size, 0, none⟩ 1 1 [.int .u8 (c.toNat : Int)] rfl rfl (by intro j u hj; match j, hj with | 0, hj => simp at hj; subst hj; simp [Addr.add]) (by intro u hu; simp only [List.mem_cons, List.not_mem_nil, or_false] at hu; rcases hu with rfl <;> rfl) (by unfold maxLen; omega) (by omega) (by simp; omega) ?_)
              intro v1 w1 hown1 hgrow1 hnn
              obtain ⟨so1, sc1, hv1⟩ := own_shape hown1
              have HQ2 : Hid (RqSt w w1 v1 (n + 1) (l ++ [c])) := HQ.out.app (m := 1) rfl hown1 hgrow1
              subst hv1
              clear hown1 hgrow1 hnn hown0 hBw
              go_wp2_with fail
              go_roundw
              case rel => exact ⟨k + 1, _, false, _, _, l ++ [c], by omega, by omega, rfl, by first | rfl | simp, by go_num, HP, HQ2⟩
              case measure => simp [intOf]; omega
    · have hk1 : ¬ (k : Int) < (s.size : Int) := by omega
      have HEE : Hid ((ByteArray.mk l.toArray) = ⟨(bareF false s.data.toList).toArray⟩) := by
        have e := HE.out
        rw [List.drop_eq_nil_of_le (by rw [Array.length_toList]; show s.size ≤ k; omega)] at e
        have e2 : bareF q [] = [] := by cases q <;> rfl
        rw [e2, List.append_nil] at e
        show _ = _
        rw [e]
      have hcv := cw_own HQ.out.len HQ.out.own
      go_wp2_with fail
      go_ret
      exact ⟨by rw [HEE.out]; rfl, HQ.out.below⟩
end Go.Proofs.YtkoednenjnnjoaaDoor
