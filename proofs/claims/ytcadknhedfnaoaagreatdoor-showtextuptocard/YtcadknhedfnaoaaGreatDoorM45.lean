import Derived.Test.YtcadknhedfnaoaaGreatDoorM42
namespace Go.Proofs.YtcadknhedfnaoaaGreatDoor
open Go.RowKit
set_option linter.unusedVariables false
set_option linter.unusedSimpArgs false

theorem Tryz.infoP : (Tryz.prog.info? 66).map (fun i => (i.zero, i.size, i.bytes)) = some (some (.agg #[.int .i64 0, .int .i64 0, .int .i64 0, .bool false]), 4, 32) := by kernel_rfl

theorem sizeL (s : ByteArray) : s.data.toList.length = s.size := by rw [Array.length_toList]; rfl
/-- the cells of the reference's piece -/
def pcC (s : ByteArray) (f : Nat) : List Value := [.int .i64 (f : Int), .int .i64 ((f + (decL (s.data.toList.drop f)).2 : Nat) : Int), .int .i64 ((decL (s.data.toList.drop f)).1 : Int), .bool (strayL (s.data.toList.drop f))]
def prow (s : ByteArray) (n : Nat) : List Value := (List.range n).flatMap fun k => pcC s (off s.data.toList k)
theorem prow_up (s : ByteArray) (n : Nat) : prow s (n + 1) = prow s n ++ pcC s (off s.data.toList n) := by unfold prow; rw [List.range_succ, List.flatMap_append]; simp

theorem new4q (w1 : World) (o : Obj) (a b c d : Value) : ∀ (j : Nat) (u : Value), ([a, b, c, d] : List Value)[j]? = some u → ((w1.alloc o).alloc (.cells #[a, b, c, d] 66)).cell? ((⟨w1.heap.size + 1, 0, none⟩ : Addr).add j) = some u := by
  intro j u hj
  have h := heap_alloc_new (w1.alloc o) (.cells #[a, b, c, d] 66)
  rw [World.size_alloc] at h
  have e : (⟨w1.heap.size + 1, 0, none⟩ : Addr).add j = ⟨w1.heap.size + 1, j, none⟩ := by
    unfold Addr.add; by_cases h0 : j = 0 <;> simp [h0]
  rw [e, cell_of_row _ _ _ _ _ _ h]
  match j, hj with
  | 0, hj => exact hj
  | 1, hj => exact hj
  | 2, hj => exact hj
  | 3, hj => exact hj
  | j + 4, hj => simp at hj
theorem kept4 {w1 w4 : World} {B n : Nat} {e ty : TypeId} {size : Nat} {v : Value} {xs : List Value} {a b c d : Value} {o : Obj} (hown : w1.ownsRow B e size v n xs) (hg : ((w1.alloc (.cells #[a, b, c, d] ty)).alloc o).grownBy w4 v.ownBlock) : w4.cell? ⟨w1.heap.size, 1, none⟩ = some b := by
  have hne : some w1.heap.size ≠ v.ownBlock := by
    rcases hown.2 with ⟨rfl, _⟩ | ⟨g, cap, cur, rfl, _, hb, _⟩
    · simp [Value.ownBlock]
    · have := (Array.getElem?_eq_some_iff.1 hb).1
      simp [Value.ownBlock]; omega
  have h := hg.block w1.heap.size (by simp; omega) hne
  rw [Below.heap_alloc _ _ _ (by simp), heap_alloc_new] at h
  rw [cell_of_row _ _ _ _ _ _ h]; rfl

structure PcSt (s : ByteArray) (w wr : World) (v : Value) (j pos : Nat) : Prop where
  own : wr.ownsRow w.heap.size 66 4 v j (prow s j)
  at_ : pos = off s.data.toList j
  few : j ≤ (runes s.data.toList).length
  below : Below w.heap.size w wr

set_option maxRecDepth 100000 in
set_option maxHeartbeats 4000000 in
theorem w_Pieces (s : ByteArray) (w : World) (hs : s.size ≤ 1099511627776) :
    Calls Tryz.prog 42 #[.string s] w fun e w' => ∃ so sc, e = .returned (.slice so (runes s.data.toList).length sc) ∧ Hid (w'.ownsRow w.heap.size 66 4 (.slice so (runes s.data.toList).length sc) (runes s.data.toList).length (prow s (runes s.data.toList).length)) ∧ Below w.heap.size w w' := by
  obtain ⟨i0, hi0, hz0, hz1, hz2⟩ := info_parts Tryz.infoP
  have hrl := runes_len_le s.data.toList
  rw [sizeL] at hrl
  have HRL := Hid.mk hrl
  clear hrl
  have HS : Hid (PcSt s w (w.alloc (.cells #[] 66)) (.slice (some ⟨w.heap.size, 0, none⟩) 0 0) 0 0) :=
    ⟨⟨rfl, .inr ⟨w.heap.size, 0, #[], rfl, Nat.le_refl _, heap_alloc_new w _, Nat.le_refl _, by unfold maxLen; omega, rfl, rfl⟩⟩, rfl, Nat.zero_le _, below1 w _⟩
  go_enter Tryz.func42, Tryz.ntmps42
  go_wp2_with fail
  go_loopw [3, 4, 5] (fun l b _ wr => ∃ (j pos : Nat) (ao : Option Addr) (cap : Nat), pos ≤ s.size ∧ j ≤ s.size ∧ l = .slice ao j cap ∧ b = .int .i64 (pos : Int) ∧ Hid (PcSt s w wr (.slice ao j cap) j pos)) (fun _ b _ _ => s.size - (intOf b).toNat)
  case atStart => exact ⟨0, 0, _, 0, Nat.zero_le _, Nat.zero_le _, rfl, rfl, HS⟩
  case round =>
    obtain ⟨j, pos, ao, cap, hpos, hj, rfl, rfl, HQ⟩ := hrel
    by_cases hp : pos < s.size
    · have hl1 : (pos : Int) < (s.size : Int) := by omega
      have HAt := Hid.mk (w_at s pos wr hp (by omega))
      unfold pcV at HAt
      have h1 := decL_pos (s.data.toList.drop pos)
      have h2 := step_le hp
      have hdc : pcC s pos = [.int .i64 (pos : Int), .int .i64 ((pos + (decL (s.data.toList.drop pos)).2 : Nat) : Int), .int .i64 ((decL (s.data.toList.drop pos)).1 : Int), .bool (strayL (s.data.toList.drop pos))] := rfl
      have hoq : off s.data.toList (j + 1) = pos + (decL (s.data.toList.drop pos)).2 := by
        have h := off_step s.data.toList j (by rw [← HQ.out.at_]; exact drop_ne hp)
        rw [h, ← HQ.out.at_]
      have hjN : j < (runes s.data.toList).length := by
        rcases Nat.lt_or_ge j (runes s.data.toList).length with g | g
        · exact g
        · have := off_end j s.data.toList g
          rw [← HQ.out.at_, sizeL] at this
          omega
      generalize strayL (s.data.toList.drop pos) = st at HAt hdc
      generalize (decL (s.data.toList.drop pos)).1 = r at HAt hdc
      obtain ⟨q, hq⟩ : ∃ q, q = pos + (decL (s.data.toList.drop pos)).2 := ⟨_, rfl⟩
      rw [← hq] at HAt hdc h2 hoq
      have hq1 : pos + 1 ≤ q := by omega
      have HDC := Hid.mk hdc
      have HOQ := Hid.mk hoq
      have HJN := Hid.mk hjN
      clear h1 hq hdc hoq hjN
      go_wp2_with fail
      refine HAt.out.mono ?_
      rintro e w1 ⟨rfl, hb1⟩
      have hown := own_below' HQ.out.own hb1
      have HB1 := Hid.mk (HQ.out.below.trans (hb1.mono HQ.out.below.size))
      have hsz := HB1.out.size
      clear hb1 HAt
      go_wp2_with (at_builtin; refine wpList_append_own _ rfl (.tmp 14) (.tmp 16) 63 rfl w.heap.size 66 i0 (.agg #[.int .i64 0, .int .i64 0, .int .i64 0, .bool false]) 4 32 Tryz.underlying63 hi0 hz0 hz1 hz2 rfl (by decide) _ _ _ rfl ((hown.alloc _).alloc _) ⟨w1.heap.size + 1, 0, none⟩ 1 1 [.int .i64 (pos : Int), .int .i64 (q : Int), .int .i64 (r : Int), .bool st] rfl rfl (new4q w1 _ _ _ _ _) (by intro u hu; simp at hu; rcases hu with rfl | rfl | rfl | rfl <;> rfl) (by unfold maxLen; omega) (by omega) (by simp; omega) ?_)
      intro v4 w4 hown4 hgrow4 hnn
      obtain ⟨so4, c4, hv4⟩ := own_shape hown4
      subst hv4
      have cQ : w4.cell? ⟨w1.heap.size, 1, none⟩ = some (.int .i64 (q : Int)) := kept4 hown hgrow4
      have HN : Hid (PcSt s w w4 (.slice so4 (j + 1) c4) (j + 1) q) := by
        refine ⟨?_, HOQ.out.symm, HJN.out, ((HB1.out.alloc hsz _).alloc (by simp; omega) _).grown hgrow4 (by simp; omega) (own_base hown)⟩
        rw [prow_up, ← HQ.out.at_, HDC.out]
        exact hown4
      have hj1 : j + 1 ≤ s.size := by have := HRL.out; have := HJN.out; omega
      clear hown4 hgrow4 hnn hown
      go_wp2_with fail
      go_roundw
      case rel => exact ⟨j + 1, q, so4, c4, h2, hj1, rfl, rfl, HN⟩
      case measure => simp [intOf]; omega
    · have hl1 : ¬ (pos : Int) < (s.size : Int) := by omega
      have HJ : Hid (j = (runes s.data.toList).length) := by
        show _ = _
        have a := HQ.out.at_
        have f := HQ.out.few
        have g : ¬ j < (runes s.data.toList).length := by
          intro g
          have := off_lt j s.data.toList g
          rw [sizeL] at this
          omega
        omega
      have HF : Hid (wr.ownsRow w.heap.size 66 4 (.slice ao (runes s.data.toList).length cap) (runes s.data.toList).length (prow s (runes s.data.toList).length)) := by
        rw [← HJ.out]; exact HQ.out.own
      go_wp2_with fail
      go_ret
      exact ⟨ao, cap, by rw [HJ.out]; rfl, HF, HQ.out.below⟩
end Go.Proofs.YtcadknhedfnaoaaGreatDoor
namespace Go.Proofs.YtcadknhedfnaoaaGreatDoor
open Go.RowKit
set_option linter.unusedVariables false
set_option linter.unusedSimpArgs false

/-- bytes in cells -/
structure BCells (w : World) (g : Nat) (l : List UInt8) : Prop where
  lt : g < w.heap.size
  cell : ∀ i, i < l.length → w.cell? ⟨g, i, none⟩ = some (.int .u8 ((l.getD i 0).toNat : Int))

theorem bcells_conv (w : World) (p : ByteArray) : BCells (Lib.bytesWorld w 5 p) w.heap.size p.data.toList ∧ Below w.heap.size w (Lib.bytesWorld w 5 p) := by
  refine ⟨⟨by rw [Lib.bytesWorld_size]; omega, fun i hi => ?_⟩, Lib.bytesWorld_below w 5 p⟩
  rw [sizeL] at hi
  exact Lib.bytesWorld_cell w 5 p i hi

set_option maxRecDepth 100000 in
set_option maxHeartbeats 1600000 in
theorem w_sameC (s : ByteArray) (f g cap : Nat) (l : List UInt8) (w : World) (hB : BCells w g l) (hf : f ≤ s.size) (hs : s.size ≤ 4611686018427387904) (hl : l.length ≤ 1099511627776) :
    Calls Tryz.prog 114 #[.string s, .int .i64 (f : Int), .slice (some ⟨g, 0, none⟩) l.length cap] w fun e w' => e = .returned (.bool (decide (stands s f l))) ∧ Below w.heap.size w w' := by
  obtain ⟨N, hN⟩ : ∃ N, l.length = N := ⟨_, rfl⟩
  have HN := Hid.mk hN
  have HB := Hid.mk hB
  rw [hN] at hl ⊢
  clear hN hB
  by_cases hfit : f + N ≤ s.size
  · have q0 : ¬ (s.size : Int) < (f : Int) + (N : Int) := by omega
    go_enter Tryz.func114, Tryz.ntmps114
    go_wp2_with fail
    go_loopw [7] (fun i wr => ∃ (k : Nat), k ≤ N ∧ i = .int .i64 k ∧ Hid (Below w.heap.size w wr ∧ ∀ j, j < k → s.data.toList.getD (f + j) 0 = l.getD j 0)) (fun i _ => N - (intOf i).toNat)
    case atStart => exact ⟨0, Nat.zero_le _, rfl, Below.refl _ _, fun j hj => by cases hj⟩
    case round =>
      obtain ⟨k, hk, rfl, HQ⟩ := hrel
      by_cases hlt : k < N
      · have hk1 : (k : Int) < (N : Int) := by omega
        have hkl : k < l.length := by rw [HN.out]; exact hlt
        have hc1 := (HQ.out.1.cell (p := ⟨g, k, none⟩) HB.out.lt).trans (HB.out.cell k hkl)
        have hfk : f + k < s.size := by omega
        have hfk2 : (f : Int) + (k : Int) < (s.size : Int) := by omega
        have hg : s[f + k]'hfk = s.data.toList.getD (f + k) 0 := by
          have hll : f + k < s.data.toList.length := by rw [Array.length_toList]; exact hfk
          rw [List.getD_eq_getElem?_getD, List.getElem?_eq_getElem hll]; rfl
        obtain ⟨a, ha⟩ : ∃ a, a = s[f + k]'hfk := ⟨_, rfl⟩
        obtain ⟨b, hb⟩ : ∃ b, b = l.getD k 0 := ⟨_, rfl⟩
        rw [← hb] at hc1
        obtain ⟨p, hp⟩ : ∃ p, p = f + k := ⟨_, rfl⟩
        have hpi : (f : Int) + (k : Int) = (p : Int) := by omega
        have hps : p < s.size := by omega
        have hps2 : (p : Int) < (s.size : Int) := by omega
        have gp : s[p]'hps = a := by subst hp; exact ha.symm
        have HGA : Hid (s.data.toList.getD (f + k) 0 = a) := by show _ = _; rw [ha, hg]
        by_cases hab : a = b
        · have q1 : (((a.toNat : Nat) : Int) != ((b.toNat : Nat) : Int)) = false := by rw [hab]; simp
          have HNx : Hid (∀ j, j < k + 1 → s.data.toList.getD (f + j) 0 = l.getD j 0) := by
            intro j hj
            rcases Nat.lt_or_ge j k with h | h
            · exact HQ.out.2 j h
            · have : j = k := by omega
              subst this
              rw [HGA.out, hab, hb]
          clear hab hb hg ha hkl hp hfk2
          go_wp2_with fail
          go_quiet (fail)
          have HQ2 : Hid (Below w.heap.size w (wr.drewN nq)) := ⟨HQ.out.1.os, HQ.out.1.tape, HQ.out.1.output, HQ.out.1.size, HQ.out.1.block⟩
          go_wp2_with fail
          go_roundw
          case measure => simp [intOf]; omega
          exact ⟨k + 1, by omega, by go_num, HQ2.out, HNx.out⟩
        · have q1 : (((a.toNat : Nat) : Int) != ((b.toNat : Nat) : Int)) = true := by
            rw [bne_iff_ne]
            intro e
            apply hab
            apply UInt8.toNat_inj.1
            omega
          have HD : Hid (decide (stands s f l) = false) := by
            show _ = _
            refine decide_eq_false fun h => hab ?_
            rw [ha, hg, hb]
            exact h.2 k hkl
          clear hab hb hg ha hkl hp hfk2
          go_wp2_with fail
          go_quiet (fail)
          have HQ2 : Hid (Below w.heap.size w (wr.drewN nq)) := ⟨HQ.out.1.os, HQ.out.1.tape, HQ.out.1.output, HQ.out.1.size, HQ.out.1.block⟩
          go_wp2_with fail
          go_ret
          exact ⟨by rw [HD.out]; rfl, HQ2.out⟩
      · have hk1 : ¬ (k : Int) < (N : Int) := by omega
        have HD : Hid (decide (stands s f l) = true) := by
          show _ = _
          refine decide_eq_true ⟨by rw [HN.out]; exact hfit, fun j hj => HQ.out.2 j ?_⟩
          rw [HN.out] at hj; omega
        go_wp2_with fail
        go_ret
        exact ⟨by rw [HD.out]; rfl, HQ.out.1⟩
  · have q0 : (s.size : Int) < (f : Int) + (N : Int) := by omega
    have HD : Hid (decide (stands s f l) = false) := by
      show _ = _
      refine decide_eq_false fun h => hfit ?_
      have := h.1; rw [HN.out] at this; exact this
    clear hfit
    go_enter Tryz.func114, Tryz.ntmps114
    go_wp2_with fail
    go_ret
    exact ⟨by rw [HD.out]; rfl, Below.refl _ _⟩
end Go.Proofs.YtcadknhedfnaoaaGreatDoor
