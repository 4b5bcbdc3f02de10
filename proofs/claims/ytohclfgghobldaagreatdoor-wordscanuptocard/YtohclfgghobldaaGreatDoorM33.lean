import Derived.Test.YtohclfgghobldaaGreatDoorM31
namespace Go.Proofs.YtohclfgghobldaaGreatDoor
open Go.RowKit
set_option linter.unusedVariables false
set_option linter.unusedSimpArgs false

theorem Tryz.infoP : (Tryz.prog.info? 86).map (fun i => (i.zero, i.size, i.bytes)) = some (some (.agg #[.int .i64 0, .int .i64 0, .int .i64 0, .bool false]), 4, 32) := by kernel_rfl

theorem sizeL (s : ByteArray) : s.data.toList.length = s.size := by rw [Array.length_toList]; rfl
/-- the cells of the reference's piece -/
def pcC (s : ByteArray) (f : Nat) : List Value := [.int .i64 (f : Int), .int .i64 ((f + (decL (s.data.toList.drop f)).2 : Nat) : Int), .int .i64 ((decL (s.data.toList.drop f)).1 : Int), .bool (strayL (s.data.toList.drop f))]
def prow (s : ByteArray) (n : Nat) : List Value := (List.range n).flatMap fun k => pcC s (off s.data.toList k)
theorem prow_up (s : ByteArray) (n : Nat) : prow s (n + 1) = prow s n ++ pcC s (off s.data.toList n) := by unfold prow; rw [List.range_succ, List.flatMap_append]; simp

theorem new4q (w1 : World) (o : Obj) (a b c d : Value) : ∀ (j : Nat) (u : Value), ([a, b, c, d] : List Value)[j]? = some u → ((w1.alloc o).alloc (.cells #[a, b, c, d] 86)).cell? ((⟨w1.heap.size + 1, 0, none⟩ : Addr).add j) = some u := by
  intro j u hj
  have h := heap_alloc_new (w1.alloc o) (.cells #[a, b, c, d] 86)
  rw [World.size_alloc] at h
  have e : (⟨w1.heap.size + 1, 0, none⟩ : Addr).add j = ⟨w1.heap.size + 1, j, none⟩ := by
    unfold Addr.add; by_cases h0 : j = 0 <;> simp [h0]
  rw [e, cell_of_row _ _ _ _ _ _ h]
  match j, hj with
  | 0, hj => exact hj
  | 1, hj => exact hj
  | 2, hj => exact hj
  | 3, hj => exact hj
  | j + 4, hj => simp at hj
theorem kept4 {w1 w4 : World} {B n : Nat} {e ty : TypeId} {size : Nat} {v : Value} {xs : List Value} {a b c d : Value} {o : Obj} (hown : w1.ownsRow B e size v n xs) (hg : ((w1.alloc (.cells #[a, b, c, d] ty)).alloc o).grownBy w4 v.ownBlock) : w4.cell? ⟨w1.heap.size, 1, none⟩ = some b := by
  have hne : some w1.heap.size ≠ v.ownBlock := by
    rcases hown.2 with ⟨rfl, _⟩ | ⟨g, cap, cur, rfl, _, hb, _⟩
    · simp [Value.ownBlock]
    · have := (Array.getElem?_eq_some_iff.1 hb).1
      simp [Value.ownBlock]; omega
  have h := hg.block w1.heap.size (by simp; omega) hne
  rw [Below.heap_alloc _ _ _ (by simp), heap_alloc_new] at h
  rw [cell_of_row _ _ _ _ _ _ h]; rfl

structure PcSt (s : ByteArray) (w wr : World) (v : Value) (j pos : Nat) : Prop where
  own : wr.ownsRow w.heap.size 86 4 v j (prow s j)
  at_ : pos = off s.data.toList j
  few : j ≤ (runes s.data.toList).length
  below : Below w.heap.size w wr

set_option maxRecDepth 100000 in
set_option maxHeartbeats 4000000 in
theorem w_Pieces (s : ByteArray) (w : World) (hs : s.size ≤ 1099511627776) :
    Calls Tryz.prog 38 #[.string s] w fun e w' => ∃ so sc, e = .returned (.slice so (runes s.data.toList).length sc) ∧ Hid (w'.ownsRow w.heap.size 86 4 (.slice so (runes s.data.toList).length sc) (runes s.data.toList).length (prow s (runes s.data.toList).length)) ∧ Below w.heap.size w w' := by
  obtain ⟨i0, hi0, hz0, hz1, hz2⟩ := info_parts Tryz.infoP
  have hrl := runes_len_le s.data.toList
  rw [sizeL] at hrl
  have HRL := Hid.mk hrl
  clear hrl
  have HS : Hid (PcSt s w (w.alloc (.cells #[] 86)) (.slice (some ⟨w.heap.size, 0, none⟩) 0 0) 0 0) :=
    ⟨⟨rfl, .inr ⟨w.heap.size, 0, #[], rfl, Nat.le_refl _, heap_alloc_new w _, Nat.le_refl _, by unfold maxLen; omega, rfl, rfl⟩⟩, rfl, Nat.zero_le _, below1 w _⟩
  go_enter Tryz.func38, Tryz.ntmps38
  go_wp2_with fail
  go_loopw [3, 4, 5] (fun l b _ wr => ∃ (j pos : Nat) (ao : Option Addr) (cap : Nat), pos ≤ s.size ∧ j ≤ s.size ∧ l = .slice ao j cap ∧ b = .int .i64 (pos : Int) ∧ Hid (PcSt s w wr (.slice ao j cap) j pos)) (fun _ b _ _ => s.size - (intOf b).toNat)
  case atStart => exact ⟨0, 0, _, 0, Nat.zero_le _, Nat.zero_le _, rfl, rfl, HS⟩
  case round =>
    obtain ⟨j, pos, ao, cap, hpos, hj, rfl, rfl, HQ⟩ := hrel
    by_cases hp : pos < s.size
    · have hl1 : (pos : Int) < (s.size : Int) := by omega
      have HAt := Hid.mk (w_at s pos wr hp (by omega))
      unfold pcV at HAt
      have h1 := decL_pos (s.data.toList.drop pos)
      have h2 := step_le hp
      have hdc : pcC s pos = [.int .i64 (pos : Int), .int .i64 ((pos + (decL (s.data.toList.drop pos)).2 : Nat) : Int), .int .i64 ((decL (s.data.toList.drop pos)).1 : Int), .bool (strayL (s.data.toList.drop pos))] := rfl
      have hoq : off s.data.toList (j + 1) = pos + (decL (s.data.toList.drop pos)).2 := by
        have h := off_step s.data.toList j (by rw [← HQ.out.at_]; exact drop_ne hp)
        rw [h, ← HQ.out.at_]
      have hjN : j < (runes s.data.toList).length := by
        rcases Nat.lt_or_ge j (runes s.data.toList).length with g | g
        · exact g
        · have := off_end j s.data.toList g
          rw [← HQ.out.at_, sizeL] at this
          omega
      generalize strayL (s.data.toList.drop pos) = st at HAt hdc
      generalize (decL (s.data.toList.drop pos)).1 = r at HAt hdc
      obtain ⟨q, hq⟩ : ∃ q, q = pos + (decL (s.data.toList.drop pos)).2 := ⟨_, rfl⟩
      rw [← hq] at HAt hdc h2 hoq
      have hq1 : pos + 1 ≤ q := by omega
      have HDC := Hid.mk hdc
      have HOQ := Hid.mk hoq
      have HJN := Hid.mk hjN
      clear h1 hq hdc hoq hjN
      go_wp2_with fail
      refine HAt.out.mono ?_
      rintro e w1 ⟨rfl, hb1⟩
      have hown := own_below' HQ.out.own hb1
      have HB1 := Hid.mk (HQ.out.below.trans (hb1.mono HQ.out.below.size))
      have hsz := HB1.out.size
      clear hb1 HAt
      go_wp2_with (at_builtin; refine wpList_append_own _ rfl (.tmp 14) (.tmp 16) 87 rfl w.heap.size 86 i0 (.agg #[.int .i64 0, .int .i64 0, .int .i64 0, .bool false]) 4 32 Tryz.underlying87 hi0 hz0 hz1 hz2 rfl (by decide) _ _ _ rfl ((hown.alloc _).alloc _) ⟨w1.heap.size + 1, 0, none⟩ 1 1 [.int .i64 (pos : Int), .int .i64 (q : Int), .int .i64 (r : Int), .bool st] rfl rfl (new4q w1 _ _ _ _ _) (by intro u hu; simp at hu; rcases hu with rfl | rfl | rfl | rfl <;> rfl) (by unfold maxLen; omega) (by omega) (by simp; omega) ?_)
      intro v4 w4 hown4 hgrow4 hnn
      obtain ⟨so4, c4, hv4⟩ := own_shape hown4
      subst hv4
      have cQ : w4.cell? ⟨w1.heap.size, 1, none⟩ = some (.int .i64 (q : Int)) := kept4 hown hgrow4
      have HN : Hid (PcSt s w w4 (.slice so4 (j + 1) c4) (j + 1) q) := by
        refine ⟨?_, HOQ.out.symm, HJN.out, ((HB1.out.alloc hsz _).alloc (by simp; omega) _).grown hgrow4 (by simp; omega) (own_base hown)⟩
        rw [prow_up, ← HQ.out.at_, HDC.out]
        exact hown4
      have hj1 : j + 1 ≤ s.size := by have := HRL.out; have := HJN.out; omega
      clear hown4 hgrow4 hnn hown
      go_wp2_with fail
      go_roundw
      case rel => exact ⟨j + 1, q, so4, c4, h2, hj1, rfl, rfl, HN⟩
      case measure => simp [intOf]; omega
    · have hl1 : ¬ (pos : Int) < (s.size : Int) := by omega
      have HJ : Hid (j = (runes s.data.toList).length) := by
        show _ = _
        have a := HQ.out.at_
        have f := HQ.out.few
        have g : ¬ j < (runes s.data.toList).length := by
          intro g
          have := off_lt j s.data.toList g
          rw [sizeL] at this
          omega
        omega
      have HF : Hid (wr.ownsRow w.heap.size 86 4 (.slice ao (runes s.data.toList).length cap) (runes s.data.toList).length (prow s (runes s.data.toList).length)) := by
        rw [← HJ.out]; exact HQ.out.own
      go_wp2_with fail
      go_ret
      exact ⟨ao, cap, by rw [HJ.out]; rfl, HF, HQ.out.below⟩
end Go.Proofs.YtohclfgghobldaaGreatDoor
