import Derived.Test.YtcadknhedfnaoaaGreatDoorM7
import Derived.Test.YtcadknhedfnaoaaGreatDoorM47
namespace Go.Proofs.YtcadknhedfnaoaaGreatDoor
open Go.RowKit
set_option linter.unusedVariables false
set_option linter.unusedSimpArgs false

/-- the pieces from one number up to another -/
def cutS (s : ByteArray) (f t : Int) : ByteArray := if t ≤ max f 0 then .empty else s.extract (off s.data.toList (max f 0).toNat) (off s.data.toList t.toNat)

theorem len_toList (s : ByteArray) : s.data.toList.length = s.size := by rw [Array.length_toList]; rfl
theorem off_size (s : ByteArray) (k : Nat) : off s.data.toList k ≤ s.size := by have := off_le k s.data.toList; rw [len_toList] at this; exact this
end Go.Proofs.YtcadknhedfnaoaaGreatDoor
namespace Go.Proofs.YtcadknhedfnaoaaGreatDoor
open Go.RowKit
set_option linter.unusedVariables false
set_option linter.unusedSimpArgs false

theorem prow_kept3 {s : ByteArray} {wr w1 : World} {g B n : Nat} {v : Value} {xs : List Value} {o : Obj} (hown : wr.ownsRow B 3 1 v n xs) (h : PRow s wr g) (hg : (wr.alloc o).grownBy w1 v.ownBlock) : PRow s w1 g := by
  obtain ⟨cur, h1, h2⟩ := h.row
  have hlt := (Array.getElem?_eq_some_iff.1 h1).1
  have hne : some g ≠ v.ownBlock := by
    rcases hown.2 with ⟨rfl, _⟩ | ⟨g', cap, cur', rfl, _, hb, _⟩
    · simp [Value.ownBlock]
    · intro e
      simp only [Value.ownBlock, Option.some.injEq] at e
      subst e
      rw [h1] at hb
      simp at hb
  refine ⟨cur, ?_, h2⟩
  rw [hg.block g (by simp; omega) hne]
  exact (Below.heap_alloc wr o g hlt).trans h1
theorem PRow.keep {s : ByteArray} {w w' : World} {g : Nat} (h : PRow s w g) (hb : Below w.heap.size w w') : PRow s w' g := by
  obtain ⟨cur, h1, h2⟩ := h.row
  exact ⟨cur, by rw [hb.block g (Array.getElem?_eq_some_iff.1 h1).1]; exact h1, h2⟩

theorem rune_at (l : List UInt8) {k : Nat} (h : k < (runes l).length) : (toI (runes l)).getD k 0 = ((decL (l.drop (off l k))).1 : Int) := by
  have h1 := runes_drop k l
  have hl := off_lt k l h
  have hne : l.drop (off l k) ≠ [] := by
    intro e
    have := congrArg List.length e
    rw [List.length_drop, List.length_nil] at this
    omega
  rw [runes_cons hne, List.drop_eq_getElem_cons h] at h1
  have h2 := (List.cons.inj h1).1
  rw [h2]
  simp [toI, List.getD, h]

structure RuSt (s : ByteArray) (w wr : World) (v : Value) (k g : Nat) : Prop where
  cp : CopySt .i64 3 w wr v (toI (runes s.data.toList)) k
  row : PRow s wr g

set_option maxRecDepth 100000 in
set_option maxHeartbeats 4000000 in
theorem w_rRunes (s : ByteArray) (w : World) (hs : s.size ≤ 1099511627776) :
    Calls Tryz.prog 45 #[.string s] w fun e w' => ListR .i64 w w' e (toI (runes s.data.toList)) := by
  obtain ⟨i0, hi0, hz0, hz1, hz2⟩ := info_parts Tryz.infoI
  have hrl := runes_len_le s.data.toList
  rw [size_len] at hrl
  have HPc := Hid.mk (fun u => w_Pieces s u hs)
  have hlen : (toI (runes s.data.toList)).length = (runes s.data.toList).length := by simp [toI]
  unfold ListR
  rw [hlen]
  have HLN := Hid.mk hlen
  clear hlen
  go_enter Tryz.func45, Tryz.ntmps45
  go_wp2_with fail
  refine (HPc.out _).mono ?_
  rintro e w1 ⟨so, sc, rfl, ho, hb1⟩
  obtain ⟨N, hN⟩ : ∃ N, N = (runes s.data.toList).length := ⟨_, rfl⟩
  have HNN := Hid.mk hN
  have HR : Hid (0 < N → ∃ g, so = some ⟨g, 0, none⟩ ∧ PRow s w1 g) := by
    intro h0
    rcases ho.out.2 with ⟨_, e⟩ | ⟨g, cap, cur, e, _, hr, _, _, _, ht⟩
    · omega
    · simp only [Value.slice.injEq] at e
      exact ⟨g, e.1, ⟨cur, hr, ht⟩⟩
  have HC0 : Hid (CopySt .i64 3 w (w1.alloc (.cells #[] 3)) (.slice (some ⟨w1.heap.size, 0, none⟩) 0 0) (toI (runes s.data.toList)) 0) := by
    have h := own_empty w1 3
    exact ⟨⟨h.1, h.2.imp id (fun ⟨g, cap, cur, e, hb, rest⟩ => ⟨g, cap, cur, e, Nat.le_trans hb1.size hb, rest⟩)⟩, hb1.alloc hb1.size _⟩
  have HBA := Hid.mk (below1 w1 (.cells #[] 3))
  rw [← hN] at hrl ⊢
  rw [← hN] at ho
  clear ho hb1 HPc hN
  go_wp2_with fail
  go_loopw [4, 5] (fun l i wr => ∃ (k : Nat) (ao : Option Addr) (cap : Nat), k ≤ N ∧ l = .slice ao k cap ∧ i = .int .i64 (k : Int) ∧ Hid (CopySt .i64 3 w wr (.slice ao k cap) (toI (runes s.data.toList)) k) ∧ Hid (∀ g, PRow s w1 g → PRow s wr g)) (fun _ i _ => N - (intOf i).toNat)
  case atStart => exact ⟨0, _, 0, Nat.zero_le _, rfl, rfl, HC0, fun g h => h.keep HBA.out⟩
  case round =>
    obtain ⟨k, ao, cap, hk, rfl, rfl, HQ, HP⟩ := hrel
    have hown := HQ.out.own
    have hsz := HQ.out.below.size
    by_cases hlt : k < N
    · have hl1 : (k : Int) < (N : Int) := by omega
      have hkN : k < (runes s.data.toList).length := by rw [← HNN.out]; exact hlt
      obtain ⟨g, hg, hpr⟩ := HR.out (by omega)
      subst hg
      have c2 : wr.cell? ⟨g, k * 4 + 2, none⟩ = some (.int .i64 ((toI (runes s.data.toList)).getD k 0)) := by
        rw [(HP.out g hpr).get hkN 2 (by omega), rune_at _ hkN]; rfl
      obtain ⟨x, hx⟩ : ∃ x, x = (toI (runes s.data.toList)).getD k 0 := ⟨_, rfl⟩
      rw [← hx] at c2
      have HX := Hid.mk hx
      have HKN := Hid.mk hkN
      have HPR := Hid.mk hpr
      clear hx hkN hpr
      go_wp2_with (at_builtin; refine wpList_append_own _ rfl (.tmp 15) (.tmp 21) 68 rfl w.heap.size 3 i0 (.int .i64 0) 1 8 Tryz.underlying68 hi0 hz0 hz1 hz2 rfl (by decide) _ _ _ rfl (hown.alloc _) ⟨wr.heap.size, 0, none⟩ 1 1 [.int .i64 x] rfl rfl (by intro j u hj; match j, hj with | 0, hj => simp at hj; subst hj; simp [Addr.add]) (by intro u hu; simp at hu; subst hu; rfl) (by unfold maxLen; omega) (by omega) (by simp; omega) ?_)
      intro v1 w3 hown1 hgrow1 hnn
      obtain ⟨so1, sc1, hv1⟩ := own_shape hown1
      have HN1 : Hid (CopySt .i64 3 w w3 v1 (toI (runes s.data.toList)) (k + 1)) := HQ.out.next (by rw [HLN.out]; exact HKN.out) (by rw [← HX.out]; exact hown1) hgrow1
      have HP1 : Hid (∀ g, PRow s w1 g → PRow s w3 g) := fun g h => prow_kept3 hown (HP.out g h) hgrow1
      subst hv1
      clear hown1 hgrow1 hnn hown c2
      go_wp2_with fail
      go_roundw
      case rel => exact ⟨k + 1, so1, sc1, hlt, rfl, by go_num, HN1, HP1⟩
      case measure => simp [intOf]; omega
    · have hl1 : ¬ (k : Int) < (N : Int) := by omega
      have HK : Hid (k = N) := by show _ = _; omega
      have HF : Hid (Ints .i64 wr (.slice ao N cap) (toI (runes s.data.toList))) := by
        have h := HQ.out.own
        rw [HK.out, List.take_of_length_le (by rw [HLN.out, ← HNN.out]; omega)] at h
        exact own_ints h
      clear hown
      go_wp2_with fail
      go_ret
      exact ⟨ao, cap, by rw [HK.out, HNN.out]; rfl, by rw [← HNN.out]; exact HF, HQ.out.below⟩
end Go.Proofs.YtcadknhedfnaoaaGreatDoor
