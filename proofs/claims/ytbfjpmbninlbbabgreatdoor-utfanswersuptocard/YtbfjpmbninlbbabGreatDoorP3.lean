import Derived.Test.YtbfjpmbninlbbabGreatDoorP2
import Derived.Test.YtbfjpmbninlbbabGreatDoorV19
namespace Go.Proofs.YtbfjpmbninlbbabGreatDoor
open Go.RowKit
set_option linter.unusedVariables false
set_option linter.unusedSimpArgs false

/-- the pieces of a text -/
def pc (s : ByteArray) (k : Nat) : ByteArray := s.extract (off s.data.toList k) (off s.data.toList (k + 1))
def pcl (s : ByteArray) (k : Nat) : List ByteArray := (List.range k).map (pc s)
theorem pcl_up (s : ByteArray) (k : Nat) : pcl s (k + 1) = pcl s k ++ [pc s k] := by unfold pcl; rw [List.range_succ, List.map_append]; rfl
theorem pcl_len (s : ByteArray) (k : Nat) : (pcl s k).length = k := by simp [pcl]
theorem jp_pcl (s : ByteArray) (k : Nat) : jp [] (pcl s k) = s.data.toList.take (off s.data.toList k) := by
  induction k with
  | zero => simp [pcl, jp, off]
  | succ k ih =>
    rw [pcl_up, jp_snoc, ih, List.append_nil, pc, ext_list]
    have := List.take_append_drop (off s.data.toList k) (s.data.toList.take (off s.data.toList (k + 1)))
    rw [List.take_take, Nat.min_eq_left (off_mono _ (Nat.le_succ k))] at this
    exact this
theorem jl_all (ts : List ByteArray) : jl [] ts ts.length = jp [] ts := by
  rcases Nat.eq_zero_or_pos ts.length with h | h
  · rw [List.length_eq_zero_iff.1 h]; rfl
  · obtain ⟨k, hk⟩ : ∃ k, ts.length = k + 1 := ⟨ts.length - 1, by omega⟩
    have := jl_part [] ts k (by omega)
    rw [List.append_nil, ← hk, List.take_length] at this
    exact this
theorem pcl_join (s : ByteArray) : jl [] (pcl s (runes s.data.toList).length) (runes s.data.toList).length = s.data.toList := by
  have h := jl_all (pcl s (runes s.data.toList).length)
  rw [pcl_len] at h
  rw [h, jp_pcl, off_end _ _ (Nat.le_refl _), List.take_length]

/-- while the pieces are cut -/
structure PiSt (B k0 : Nat) (w wr : World) (v : Value) (n : Nat) (s : ByteArray) (pos bg j : Nat) : Prop where
  iter : wr.heap[k0]? = some (.stringIter s pos)
  own : wr.ownsRow B 9 1 v n (svals (pcl s (j - 1)))
  len : n = j - 1
  at_ : pos = off s.data.toList j
  bgAt : bg = off s.data.toList (j - 1)
  few : j ≤ (runes s.data.toList).length
  below : Below B w wr

set_option maxRecDepth 100000 in
set_option maxHeartbeats 3200000 in
theorem w_pieces (s : ByteArray) (w : World) (hs0 : 0 < s.size) (hs : s.size ≤ 1048576) :
    Calls Tryz.prog 47 #[.string s] w fun e w' => ∃ v, e = .returned v ∧ Hid (w'.ownsRow w.heap.size 9 1 v (runes s.data.toList).length (svals (pcl s (runes s.data.toList).length))) ∧ Below w.heap.size w w' := by
  obtain ⟨i0, hi0, hz0, hz1, hz2⟩ := info_parts Tryz.infoS
  have hrl := runes_len_le s.data.toList
  rw [size_len] at hrl
  have HRL := Hid.mk hrl
  clear hrl
  have HS : Hid (PiSt w.heap.size w.heap.size w (w.iter s 0) (.slice none 0 0) 0 s 0 0 0) :=
    ⟨World.iter_heap w s 0, World.ownsRow_nil _ _ _ _, rfl, rfl, rfl, Nat.zero_le _, (Below.refl _ w).alloc (Nat.le_refl _) _⟩
  go_enter Tryz.func47, Tryz.ntmps47
  go_wp2_with fail
  obtain ⟨k0, hk0⟩ : ∃ k0, k0 = w.heap.size := ⟨_, rfl⟩
  have HS' : Hid (PiSt w.heap.size k0 w (w.iter s 0) (.slice none 0 0) 0 s 0 0 0) := by rw [hk0]; exact HS
  rw [← hk0]
  have HWK : Hid (w.heap.size ≤ k0) := by show _ ≤ _; omega
  have HWK2 := Hid.mk hk0
  clear hk0 HS
  go_loopw [3, 4, 5] (fun l b _ wr => ∃ (j pos bg n : Nat) (ao : Option Addr) (cap : Nat), pos ≤ s.size ∧ bg ≤ pos ∧ n ≤ s.size ∧ l = .slice ao n cap ∧ b = .int .i64 (bg : Int) ∧ Hid (PiSt w.heap.size k0 w wr (.slice ao n cap) n s pos bg j)) (fun _ _ _ wr => s.size - wr.iterPos k0)
  case atStart => exact ⟨0, 0, 0, 0, none, 0, Nat.zero_le _, Nat.zero_le _, Nat.zero_le _, rfl, rfl, HS'⟩
  case round =>
    obtain ⟨j, pos, bg, n, ao, cap, hpos, hbg, hn, rfl, rfl, HQ⟩ := hrel
    have hkr := HQ.out.iter
    have HM : Hid (wr.iterPos k0 = pos) := iterPos_of hkr
    have hown := HQ.out.own
    have hwk := HWK.out
    by_cases hp : pos < s.size
    · obtain ⟨q, hq⟩ : ∃ q, q = pos + (decL (s.data.toList.drop pos)).2 := ⟨_, rfl⟩
      obtain ⟨r, hr⟩ : ∃ r, r = (decL (s.data.toList.drop pos)).1 := ⟨_, rfl⟩
      have h1 := decL_pos (s.data.toList.drop pos)
      have h2 := step_le' hp
      have hoq : q = off s.data.toList (j + 1) := by
        have h := off_step s.data.toList j (by rw [← HQ.out.at_]; exact drop_ne' hp)
        rw [h, ← HQ.out.at_, hq]
      have hjN : j < (runes s.data.toList).length := by
        rcases Nat.lt_or_ge j (runes s.data.toList).length with g | g
        · exact g
        · have := off_end j s.data.toList g
          rw [← HQ.out.at_, size_len] at this
          omega
      obtain ⟨W1, hW1⟩ : ∃ W : World, W = wr.iterAt k0 s q := ⟨_, rfl⟩
      have hn1 := nxtAt wr k0 s pos r q hkr hp (by rw [decode_eq s pos hpos]; exact Prod.ext hr.symm (by show _ = q - pos; omega)) (by omega)
      have hk1 := Lib.iterAt_heap wr k0 s pos q hkr
      have ho1 := own_iterAt hown hkr q
      have hB1 := Lib.below_iterAt HQ.out.below hwk s q
      rw [← hW1] at hn1 hk1 ho1 hB1
      rw [← hq] at h2
      clear hW1 hr
      have hsz := hB1.size
      have HK1 := Hid.mk hk1
      have HBW := Hid.mk hB1
      have hq1 : pos + 1 ≤ q := by omega
      have HOQ := Hid.mk hoq
      have HJN := Hid.mk hjN
      clear hk1 hB1 hq h1 hoq hjN hkr
      by_cases hlt : bg < pos
      · have g1 : (bg : Int) < (pos : Int) := by omega
        have g2 : (bg : Int) ≤ (pos : Int) := by omega
        have g3 : (pos : Int) ≤ (s.size : Int) := by omega
        have g4 : (0 : Int) ≤ (bg : Int) := by omega
        have HJ : Hid (∃ i, j = i + 1) := by
          refine ⟨j - 1, ?_⟩
          have a := HQ.out.at_
          have b := HQ.out.bgAt
          rcases Nat.eq_zero_or_pos j with g | g
          · rw [g] at a b
            simp at b
            omega
          · omega
        go_wp2_with (at_builtin; refine wpList_append_own _ rfl (.tmp 14) (.tmp 19) 46 rfl w.heap.size 9 i0 (.string ⟨#[]⟩) 1 16 Tryz.underlying46 hi0 hz0 hz1 hz2 rfl (by decide) _ _ _ rfl (ho1.alloc _) ⟨W1.heap.size, 0, none⟩ 1 1 [.string (s.extract bg pos)] rfl rfl (by intro j u hj; match j, hj with | 0, hj => simp at hj; subst hj; simp [Addr.add]) (by intro u hu; simp at hu; subst hu; rfl) (by unfold maxLen; omega) (by omega) (by simp; omega) ?_)
        intro v4 w4 hown4 hgrow4 hnn
        obtain ⟨so4, c4, hv4⟩ := own_shape hown4
        subst hv4
        have HN : Hid (PiSt w.heap.size k0 w w4 (.slice so4 (n + 1) c4) (n + 1) s q pos (j + 1)) := by
          obtain ⟨i, rfl⟩ := HJ.out
          have b := HQ.out.bgAt
          have c := HQ.out.at_
          have d := HQ.out.len
          refine ⟨iter_kept ho1 HK1.out (grown_after hgrow4), ?_, by omega, HOQ.out, c, HJN.out, below_app ho1 hsz HBW.out hgrow4⟩
          rw [show i + 1 + 1 - 1 = i + 1 by omega, pcl_up, ← svals_snoc, pc]
          rw [show i + 1 - 1 = i by omega] at b hown4
          rw [← b, ← c]
          exact hown4
        have HM4 : Hid (w4.iterPos k0 = q) := iterPos_of HN.out.iter
        have hn4 : n + 1 ≤ s.size := by have := HRL.out; have := HJN.out; have := HN.out.len; omega
        clear hown4 hgrow4 hnn ho1 hown
        go_wp2_with fail
        go_roundw
        case rel => exact ⟨j + 1, q, pos, n + 1, so4, c4, h2, by omega, hn4, rfl, rfl, HN⟩
        case measure => rw [HM4.out, HM.out]; omega
      · have g1 : ¬ (bg : Int) < (pos : Int) := by omega
        have HN : Hid (PiSt w.heap.size k0 w W1 (.slice ao n cap) n s q bg (j + 1)) := by
          have a := HQ.out.at_
          have b := HQ.out.bgAt
          have d := HQ.out.len
          have hj : j = 0 := by
            rcases Nat.eq_zero_or_pos j with g | g
            · exact g
            · obtain ⟨i, rfl⟩ : ∃ i, j = i + 1 := ⟨j - 1, by omega⟩
              have hl := off_lt i s.data.toList (by have := HJN.out; omega)
              have hst := off_step s.data.toList i (by
                intro e
                have := congrArg List.length e
                rw [List.length_drop, List.length_nil] at this
                omega)
              have := decL_pos (s.data.toList.drop (off s.data.toList i))
              rw [show i + 1 - 1 = i by omega] at b
              omega
          subst hj
          exact ⟨HK1.out, ho1, d, HOQ.out, b, HJN.out, HBW.out⟩
        have HM4 : Hid (W1.iterPos k0 = q) := iterPos_of HN.out.iter
        clear ho1 hown
        go_wp2_with fail
        go_roundw
        case rel => exact ⟨j + 1, q, bg, n, ao, cap, h2, by omega, hn, rfl, rfl, HN⟩
        case measure => rw [HM4.out, HM.out]; omega
    · have hne := fun ty => Lib.run_next_end_at (P := Tryz.prog) wr k0 s pos ty hkr hp
      have hsz := HQ.out.below.size
      have g3 : (bg : Int) ≤ (s.size : Int) := by omega
      have g4 : (0 : Int) ≤ (bg : Int) := by omega
      have HJ : Hid (j = (runes s.data.toList).length ∧ 0 < j) := by
        have a := HQ.out.at_
        have f := HQ.out.few
        have g : ¬ j < (runes s.data.toList).length := by
          intro g
          have := off_lt j s.data.toList g
          rw [size_len] at this
          omega
        refine ⟨by omega, ?_⟩
        rcases Nat.eq_zero_or_pos j with h | h
        · rw [h] at a
          simp [off] at a
          omega
        · exact h
      clear hkr
      go_wp2_with (at_builtin; refine wpList_append_own _ rfl (.tmp 22) (.tmp 26) 46 rfl w.heap.size 9 i0 (.string ⟨#[]⟩) 1 16 Tryz.underlying46 hi0 hz0 hz1 hz2 rfl (by decide) _ _ _ rfl (hown.alloc _) ⟨wr.heap.size, 0, none⟩ 1 1 [.string (s.extract bg s.size)] rfl rfl (by intro j u hj; match j, hj with | 0, hj => simp at hj; subst hj; simp [Addr.add]) (by intro u hu; simp at hu; subst hu; rfl) (by unfold maxLen; omega) (by omega) (by simp; omega) ?_)
      intro v4 w4 hown4 hgrow4 hnn
      have HB4 : Hid (Below w.heap.size w w4) := below_app hown hsz HQ.out.below hgrow4
      have HO4 : Hid (w4.ownsRow w.heap.size 9 1 v4 (runes s.data.toList).length (svals (pcl s (runes s.data.toList).length))) := by
        obtain ⟨hj, hj0⟩ := HJ.out
        obtain ⟨i, rfl⟩ : ∃ i, j = i + 1 := ⟨j - 1, by omega⟩
        have b := HQ.out.bgAt
        have d := HQ.out.len
        rw [show i + 1 - 1 = i by omega] at b d hown4
        rw [← hj, pcl_up, ← svals_snoc, pc, off_end (i + 1) _ (by omega), ← b, size_len]
        subst d
        exact hown4
      obtain ⟨so4, c4, hv4⟩ := own_shape hown4
      subst hv4
      clear hown4 hgrow4 hnn hown
      go_wp2_with fail
      go_ret
      exact ⟨_, by rfl, HO4, HB4.out⟩
end Go.Proofs.YtbfjpmbninlbbabGreatDoor
