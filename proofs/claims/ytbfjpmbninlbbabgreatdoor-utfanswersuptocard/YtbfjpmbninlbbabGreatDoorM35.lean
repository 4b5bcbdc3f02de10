import Derived.Test.YtbfjpmbninlbbabGreatDoorM34
import Derived.Deep.RegionLaw
import Derived.Deep.AppendLies
import Derived.BigRegion
namespace Go.Proofs.YtbfjpmbninlbbabGreatDoor
open Go.RowKit
set_option linter.unusedVariables false
set_option linter.unusedSimpArgs false

theorem prow_kept {s : ByteArray} {wr w1 : World} {g B n : Nat} {v : Value} {xs : List Value} {o : Obj} (hown : wr.ownsRow B 9 1 v n xs) (h : PRow s wr g) (hg : ((wr.alloc o).drew).grownBy w1 v.ownBlock) : PRow s w1 g := by
  obtain ⟨cur, h1, h2⟩ := h.row
  have hlt := (Array.getElem?_eq_some_iff.1 h1).1
  have hne : some g ≠ v.ownBlock := by
    rcases hown.2 with ⟨rfl, _⟩ | ⟨g', cap, cur', rfl, _, hb, _⟩
    · simp [Value.ownBlock]
    · intro e
      simp only [Value.ownBlock, Option.some.injEq] at e
      subst e
      rw [h1] at hb
      simp at hb
  refine ⟨cur, ?_, h2⟩
  rw [hg.block g (by simp; omega) hne]
  exact (Below.heap_alloc wr o g hlt).trans h1

structure RpSt (s : ByteArray) (w wr : World) (v : Value) (k g : Nat) : Prop where
  own : wr.ownsRow w.heap.size 9 1 v k (svals (pcl s k))
  row : PRow s wr g
  below : Below w.heap.size w wr

theorem off_succ_at (s : ByteArray) {k : Nat} (h : k < (runes s.data.toList).length) : off s.data.toList k + (decL (s.data.toList.drop (off s.data.toList k))).2 = off s.data.toList (k + 1) := by
  have hl := off_lt k s.data.toList h
  rw [off_step s.data.toList k (by
    intro e
    have := congrArg List.length e
    rw [List.length_drop, List.length_nil] at this
    omega)]

set_option maxRecDepth 100000 in
set_option maxHeartbeats 4000000 in
theorem w_rSplit_nil (s p : ByteArray) (hs0 : s.size = 0) (w : World) :
    Calls Tryz.prog 26 #[.string s, .string p] w fun e w' => ∃ v, e = .returned v ∧ Hid (w'.ownsRow w.heap.size 9 1 v 0 (svals [])) ∧ Below w.heap.size w w' := by
  have e1 : ((s.size : Int) == 0) = true := by rw [hs0]; rfl
  have HO := Hid.mk (own_empty w 9)
  have HB := Hid.mk (below1 w (.cells #[] 9))
  go_enter Tryz.func26, Tryz.ntmps26
  go_wp2_with fail
  go_ret
  exact ⟨_, rfl, HO.out, HB.out⟩

set_option maxRecDepth 100000 in
set_option maxHeartbeats 4000000 in
theorem w_rSplit_pieces (s p : ByteArray) (ss : s.size ≤ 1048576) (hp : p.size = 0) (hs0 : 0 < s.size) (w : World) :
    Calls Tryz.prog 26 #[.string s, .string p] w fun e w' => ∃ v, e = .returned v ∧ Hid (w'.ownsRow w.heap.size 9 1 v (runes s.data.toList).length (svals (pcl s (runes s.data.toList).length))) ∧ Below w.heap.size w w' := by
  obtain ⟨i0, hi0, hz0, hz1, hz2⟩ := info_parts Tryz.infoS
  have e1 : ((s.size : Int) == 0) = false := by rw [beq_eq_false_iff_ne]; omega
  have e2 : ((p.size : Int) == 0) = true := by rw [hp]; rfl
  have hrl := runes_len_le s.data.toList
  rw [size_len] at hrl
  have HPc := Hid.mk (fun u => w_Pieces s u (by omega))
  have HO := Hid.mk (own_empty w 9)
  have HB := Hid.mk (below1 w (.cells #[] 9))
  have hN0 : 0 < (runes s.data.toList).length := by
    have : s.data.toList ≠ [] := fun e => by have := size_len s; rw [e] at this; simp at this; omega
    rw [runes_cons this]; simp
  go_enter Tryz.func26, Tryz.ntmps26
  go_wp2_with fail
  refine (HPc.out _).mono ?_
  rintro e w1 ⟨so, sc, rfl, ho, hb1⟩
  obtain ⟨N, hN⟩ : ∃ N, N = (runes s.data.toList).length := ⟨_, rfl⟩
  obtain ⟨g, hg⟩ : ∃ g, so = some ⟨g, 0, none⟩ ∧ PRow s w1 g := by
    rcases ho.out.2 with ⟨_, e⟩ | ⟨g, cap, cur, e, _, hr, _, _, _, ht⟩
    · omega
    · simp only [Value.slice.injEq] at e
      exact ⟨g, e.1, ⟨cur, hr, ht⟩⟩
  obtain ⟨rfl, hg⟩ := hg
  have HS : Hid (RpSt s w w1 (.slice (some ⟨w.heap.size, 0, none⟩) 0 0) 0 g) := ⟨own_below' HO.out hb1, hg, below_more HB.out hb1⟩
  have HNN := Hid.mk hN
  rw [← hN] at hrl hN0 ⊢
  clear ho hb1 hg HO HB HPc hN e1 e2
  go_wp2_with fail
  go_loopw [5, 7] (fun l i wr => ∃ (k : Nat) (ao : Option Addr) (cap : Nat), k ≤ N ∧ l = .slice ao k cap ∧ i = .int .i64 (k : Int) ∧ Hid (RpSt s w wr (.slice ao k cap) k g)) (fun _ i _ => N - (intOf i).toNat)
  case atStart => exact ⟨0, _, 0, Nat.zero_le _, rfl, rfl, HS⟩
  case round =>
    obtain ⟨k, ao, cap, hk, rfl, rfl, HQ⟩ := hrel
    have hown := HQ.out.own
    have hsz := HQ.out.below.size
    by_cases hlt : k < N
    · have hl1 : (k : Int) < (N : Int) := by omega
      have hkN : k < (runes s.data.toList).length := by rw [← HNN.out]; exact hlt
      have c0 : wr.cell? ⟨g, k * 4, none⟩ = some (.int .i64 (off s.data.toList k : Int)) := HQ.out.row.get hkN 0 (by omega)
      have c1 : wr.cell? ⟨g, k * 4 + 1, none⟩ = some (.int .i64 (off s.data.toList (k + 1) : Int)) := by
        rw [HQ.out.row.get hkN 1 (by omega), ← off_succ_at s hkN]; rfl
      have m1 := off_mono s.data.toList (Nat.le_succ k)
      have m2 := off_size s (k + 1)
      have HPk : Hid (pc s k = s.extract (off s.data.toList k) (off s.data.toList (k + 1))) := rfl
      generalize off s.data.toList (k + 1) = b at c1 m1 m2 HPk
      generalize off s.data.toList k = a at c0 m1 HPk
      have g1 : (a : Int) ≤ (b : Int) := by omega
      have g2 : (b : Int) ≤ (s.size : Int) := by omega
      have g3 : (0 : Int) ≤ (a : Int) := by omega
      have g4 : (0 : Int) ≤ (b : Int) := by omega
      have hnb : k + 1 ≤ maxLen := by unfold maxLen; omega
      go_wp2_with fail
      go_region_law
        ((refine step_append_lies _ (by rfl) _ _ _ (by rfl) w.heap.size 9 i0 (.string ⟨#[]⟩) 1 16 Tryz.underlying46 hi0 hz0 hz1 hz2 rfl (by omega) (.slice ao k cap) k _ (by rfl) ((hown.alloc _).drew) ⟨wr.heap.size, 0, none⟩ 1 1 [.string (s.extract a b)] (by rfl) (by rfl) (World.news_of_block (cs := #[.string (s.extract a b)]) (t := 9) (fr := (0, 0)) (heap_alloc_new wr _)) (by simp [Value.oneCell']) (by omega) hnb (by omega) (by simp; omega) (wr.heap.size + 1) (by simp) ?_; intro g' cap' w1 hown1 hgrow hat hlt1))
      all_goals have HN : Hid (RpSt s w w1 (.slice (some ⟨g', 0, none⟩) (k + 1) cap') (k + 1) g) := ⟨by rw [pcl_up, ← svals_snoc, HPk.out]; exact hown1, prow_kept hown HQ.out.row hgrow, (((HQ.out.below.alloc hsz _)).drew).grown hgrow (by simp; omega) (own_base hown)⟩
      all_goals clear hown1 hgrow hat hlt1 hown
      all_goals go_wp2_with fail
      all_goals go_roundw
      all_goals first | (case rel => exact ⟨k + 1, _, _, hlt, rfl, by go_num, HN⟩) | skip
      all_goals simp [intOf]
      all_goals omega
    · have hl1 : ¬ (k : Int) < (N : Int) := by omega
      have HF : Hid (wr.ownsRow w.heap.size 9 1 (.slice ao N cap) N (svals (pcl s N))) := by
        have ek : k = N := by omega
        rw [← ek]; exact hown
      have HK : Hid (k = N) := by show _ = _; omega
      clear hown
      go_wp2_with fail
      go_ret
      exact ⟨.slice ao N cap, by rw [HK.out]; rfl, by rw [← HNN.out]; exact HF, HQ.out.below⟩
end Go.Proofs.YtbfjpmbninlbbabGreatDoor
namespace Go.Proofs.YtbfjpmbninlbbabGreatDoor
open Go.RowKit
set_option linter.unusedVariables false
set_option linter.unusedSimpArgs false

/-- the texts of a split -/
def spL (s p : ByteArray) : List ByteArray := if s.size = 0 then [] else if p.size = 0 then pcl s (runes s.data.toList).length else splt s p

theorem spL_few (s p : ByteArray) : (spL s p).length ≤ s.size + 1 := by
  unfold spL
  split
  · simp
  · split
    · rw [pcl_len]
      have := runes_len_le s.data.toList
      rw [size_len] at this
      omega
    · rename_i hp
      have hpl : (plcs s p).length ≤ s.size := by
        unfold plcs
        rw [if_neg hp]
        exact occs_len s.size
      have hfw := spl_few s p.size (plcs s p)
      simp [splt]; omega

def SplR (s p : ByteArray) (w w' : World) (e : Ending) : Prop := ∃ so sc n, e = .returned (.slice so n sc) ∧ n = (spL s p).length ∧ Hid (w'.ownsRow w.heap.size 9 1 (.slice so n sc) n (svals (spL s p))) ∧ Below w.heap.size w w'

theorem SplR.of {s p : ByteArray} {w w' : World} {e : Ending} {L : List ByteArray} {m : Nat} (hL : spL s p = L) (hm : m = L.length) (h : ∃ v, e = .returned v ∧ Hid (w'.ownsRow w.heap.size 9 1 v m (svals L)) ∧ Below w.heap.size w w') : SplR s p w w' e := by
  obtain ⟨v, rfl, ho, hb⟩ := h
  obtain ⟨so, sc, rfl⟩ := own_shape ho.out
  exact ⟨so, sc, m, rfl, by rw [hL, hm], by rw [hL]; exact ho, hb⟩

theorem w_uSplit (s p : ByteArray) (ss : s.size ≤ 1048576) (w : World) : Calls Tryz.prog 24 #[.string s, .string p] w fun e w' => SplR s p w w' e := by
  by_cases h0 : s.size = 0
  · exact (w_Split_nil s p h0 w).mono fun e w' h => SplR.of (by unfold spL; rw [if_pos h0]) rfl h
  · by_cases hp : p.size = 0
    · exact (w_Split_pieces s p ss hp (by omega) w).mono fun e w' h => SplR.of (by unfold spL; rw [if_neg h0, if_pos hp]) (pcl_len _ _).symm h
    · exact (w_Split_part s p ss (by omega) (by omega) w).mono fun e w' h => SplR.of (L := splt s p) (by unfold spL; rw [if_neg h0, if_neg hp]) (by simp [splt]) h

theorem w_rSplit (s p : ByteArray) (ss : s.size ≤ 1048576) (sp : p.size ≤ 1048576) (w : World) : Calls Tryz.prog 26 #[.string s, .string p] w fun e w' => SplR s p w w' e := by
  by_cases h0 : s.size = 0
  · exact (w_rSplit_nil s p h0 w).mono fun e w' h => SplR.of (by unfold spL; rw [if_pos h0]) rfl h
  · by_cases hp : p.size = 0
    · exact (w_rSplit_pieces s p ss hp (by omega) w).mono fun e w' h => SplR.of (by unfold spL; rw [if_neg h0, if_pos hp]) (pcl_len _ _).symm h
    · exact (w_rSplit_part s p ss sp (by omega) (by omega) w).mono fun e w' h => SplR.of (L := splt s p) (by unfold spL; rw [if_neg h0, if_neg hp]) rfl h

/-- a slice reads as texts -/
def Txs (w : World) (v : Value) (L : List ByteArray) : Prop := ∃ ao cap, v = .slice ao L.length cap ∧ (0 < L.length → ∃ g, ao = some ⟨g, 0, none⟩ ∧ g < w.heap.size ∧ ∀ j, j < L.length → w.cell? ⟨g, j, none⟩ = some (.string (L.getD j .empty)))
theorem Txs.keep {w w' : World} {v : Value} {L : List ByteArray} (h : Txs w v L) (hb : Below w.heap.size w w') : Txs w' v L := by
  obtain ⟨ao, cap, hv, h2⟩ := h
  refine ⟨ao, cap, hv, fun h0 => ?_⟩
  obtain ⟨g, hg, hl, hc⟩ := h2 h0
  exact ⟨g, hg, by have := hb.size; omega, fun j hj => (hb.cell (p := ⟨g, j, none⟩) hl).trans (hc j hj)⟩
theorem Txs.of {w : World} {B n sc : Nat} {so : Option Addr} {L : List ByteArray} (h : w.ownsRow B 9 1 (.slice so n sc) n (svals L)) (hn : n = L.length) : Txs w (.slice so n sc) L := by
  refine ⟨so, sc, by rw [hn], fun h0 => ?_⟩
  obtain ⟨g, hg, hc⟩ := own_cell h hn (i := 0) (by omega)
  refine ⟨g, hg, ?_, fun j hj => hc j (by omega)⟩
  rcases h.2 with ⟨e, e2⟩ | ⟨g', cap, cur, e, _, hb, _⟩
  · omega
  · simp only [Value.slice.injEq] at e
    rw [hg] at e
    have e1 : g = g' := by have := e.1; simp at this; exact this
    subst e1
    exact (Array.getElem?_eq_some_iff.1 hb).1

set_option maxRecDepth 100000 in
set_option maxHeartbeats 1600000 in
theorem w_alikeTexts (va vb : Value) (L : List ByteArray) (w : World) (ha : Txs w va L) (hb : Txs w vb L) (hl : L.length ≤ 1099511627776) :
    Calls Tryz.prog 25 #[va, vb] w fun e w' => e = .returned (.bool true) ∧ Below w.heap.size w w' := by
  obtain ⟨ao, capa, rfl, hxa⟩ := ha
  obtain ⟨bo, capb, rfl, hxb⟩ := hb
  have HA := Hid.mk hxa
  have HB := Hid.mk hxb
  obtain ⟨n, hn⟩ : ∃ n, n = L.length := ⟨_, rfl⟩
  have HN := Hid.mk hn
  rw [← hn] at hl ⊢
  have hnn : ((n : Int) != (n : Int)) = false := by simp
  clear hxa hxb hn
  go_enter Tryz.func25, Tryz.ntmps25
  go_wp2_with fail
  go_loopw [5] (fun i wr => ∃ (k : Nat), k ≤ n ∧ i = .int .i64 k ∧ Hid (Below w.heap.size w wr)) (fun i _ => n - (intOf i).toNat)
  case atStart => exact ⟨0, Nat.zero_le _, rfl, Below.refl _ _⟩
  case round =>
    obtain ⟨k, hk, rfl, HQ⟩ := hrel
    by_cases hlt : k < n
    · have hk1 : (k : Int) < (n : Int) := by omega
      have hkx : k < L.length := by rw [← HN.out]; exact hlt
      obtain ⟨b, rfl, hb, hcell⟩ := HA.out (by omega)
      obtain ⟨b', rfl, hb', hcell'⟩ := HB.out (by omega)
      have hc1 := (HQ.out.cell (p := ⟨b, k, none⟩) hb).trans (hcell k hkx)
      have hc2 := (HQ.out.cell (p := ⟨b', k, none⟩) hb').trans (hcell' k hkx)
      generalize L.getD k .empty = x at hc1 hc2
      have hxx : (x.toList != x.toList) = false := by simp
      have hxy : (x.toList == x.toList) = true := by simp
      clear hcell hcell' hkx
      go_wp2_with fail
      go_quiet (fail)
      have HQ2 : Hid (Below w.heap.size w (wr.drewN nq)) := ⟨HQ.out.os, HQ.out.tape, HQ.out.output, HQ.out.size, HQ.out.block⟩
      go_wp2_with fail
      go_roundw
      case measure => simp [intOf]; omega
      exact ⟨k + 1, by omega, by go_num, HQ2⟩
    · have hk1 : ¬ (k : Int) < (n : Int) := by omega
      go_wp2_with fail
      go_ret
      exact ⟨rfl, HQ.out⟩
end Go.Proofs.YtbfjpmbninlbbabGreatDoor
