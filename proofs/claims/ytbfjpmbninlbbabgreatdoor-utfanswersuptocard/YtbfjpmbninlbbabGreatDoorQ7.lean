import Derived.Test.YtbfjpmbninlbbabGreatDoorQ6
namespace Go.Proofs.YtbfjpmbninlbbabGreatDoor
open Go.RowKit
set_option linter.unusedVariables false
set_option linter.unusedSimpArgs false

/-- the texts of a split -/
def spL (s p : ByteArray) : List ByteArray := if s.size = 0 then [] else if p.size = 0 then pcl s (runes s.data.toList).length else splt s p

theorem spL_few (s p : ByteArray) : (spL s p).length ≤ s.size + 1 := by
  unfold spL
  split
  · simp
  · split
    · rw [pcl_len]
      have := runes_len_le s.data.toList
      rw [size_len] at this
      omega
    · rename_i hp
      have hpl : (plcs s p).length ≤ s.size := by
        unfold plcs
        rw [if_neg hp]
        exact occs_len s.size
      have hfw := spl_few s p.size (plcs s p)
      simp [splt]; omega

def SplR (s p : ByteArray) (w w' : World) (e : Ending) : Prop := ∃ so sc n, e = .returned (.slice so n sc) ∧ n = (spL s p).length ∧ Hid (w'.ownsRow w.heap.size 9 1 (.slice so n sc) n (svals (spL s p))) ∧ Below w.heap.size w w'

theorem SplR.of {s p : ByteArray} {w w' : World} {e : Ending} {L : List ByteArray} {m : Nat} (hL : spL s p = L) (hm : m = L.length) (h : ∃ v, e = .returned v ∧ Hid (w'.ownsRow w.heap.size 9 1 v m (svals L)) ∧ Below w.heap.size w w') : SplR s p w w' e := by
  obtain ⟨v, rfl, ho, hb⟩ := h
  obtain ⟨so, sc, rfl⟩ := own_shape ho.out
  exact ⟨so, sc, m, rfl, by rw [hL, hm], by rw [hL]; exact ho, hb⟩

theorem w_uSplit (s p : ByteArray) (ss : s.size ≤ 1048576) (w : World) : Calls Tryz.prog 24 #[.string s, .string p] w fun e w' => SplR s p w w' e := by
  by_cases h0 : s.size = 0
  · exact (w_Split_nil s p h0 w).mono fun e w' h => SplR.of (by unfold spL; rw [if_pos h0]) rfl h
  · by_cases hp : p.size = 0
    · exact (w_Split_pieces s p ss hp (by omega) w).mono fun e w' h => SplR.of (by unfold spL; rw [if_neg h0, if_pos hp]) (pcl_len _ _).symm h
    · exact (w_Split_part s p ss (by omega) (by omega) w).mono fun e w' h => SplR.of (L := splt s p) (by unfold spL; rw [if_neg h0, if_neg hp]) (by simp [splt]) h

theorem w_rSplit (s p : ByteArray) (ss : s.size ≤ 1048576) (sp : p.size ≤ 1048576) (w : World) : Calls Tryz.prog 26 #[.string s, .string p] w fun e w' => SplR s p w w' e := by
  by_cases h0 : s.size = 0
  · exact (w_rSplit_nil s p h0 w).mono fun e w' h => SplR.of (by unfold spL; rw [if_pos h0]) rfl h
  · by_cases hp : p.size = 0
    · exact (w_rSplit_pieces s p ss hp (by omega) w).mono fun e w' h => SplR.of (by unfold spL; rw [if_neg h0, if_pos hp]) (pcl_len _ _).symm h
    · exact (w_rSplit_part s p ss sp (by omega) (by omega) w).mono fun e w' h => SplR.of (L := splt s p) (by unfold spL; rw [if_neg h0, if_neg hp]) rfl h

/-- a slice reads as texts -/
def Txs (w : World) (v : Value) (L : List ByteArray) : Prop := ∃ ao cap, v = .slice ao L.length cap ∧ (0 < L.length → ∃ g, ao = some ⟨g, 0, none⟩ ∧ g < w.heap.size ∧ ∀ j, j < L.length → w.cell? ⟨g, j, none⟩ = some (.string (L.getD j .empty)))
theorem Txs.keep {w w' : World} {v : Value} {L : List ByteArray} (h : Txs w v L) (hb : Below w.heap.size w w') : Txs w' v L := by
  obtain ⟨ao, cap, hv, h2⟩ := h
  refine ⟨ao, cap, hv, fun h0 => ?_⟩
  obtain ⟨g, hg, hl, hc⟩ := h2 h0
  exact ⟨g, hg, by have := hb.size; omega, fun j hj => (hb.cell (p := ⟨g, j, none⟩) hl).trans (hc j hj)⟩
theorem Txs.of {w : World} {B n sc : Nat} {so : Option Addr} {L : List ByteArray} (h : w.ownsRow B 9 1 (.slice so n sc) n (svals L)) (hn : n = L.length) : Txs w (.slice so n sc) L := by
  refine ⟨so, sc, by rw [hn], fun h0 => ?_⟩
  obtain ⟨g, hg, hc⟩ := own_cell h hn (i := 0) (by omega)
  refine ⟨g, hg, ?_, fun j hj => hc j (by omega)⟩
  rcases h.2 with ⟨e, e2⟩ | ⟨g', cap, cur, e, _, hb, _⟩
  · omega
  · simp only [Value.slice.injEq] at e
    rw [hg] at e
    have e1 : g = g' := by have := e.1; simp at this; exact this
    subst e1
    exact (Array.getElem?_eq_some_iff.1 hb).1

set_option maxRecDepth 100000 in
set_option maxHeartbeats 1600000 in
theorem w_alikeTexts (va vb : Value) (L : List ByteArray) (w : World) (ha : Txs w va L) (hb : Txs w vb L) (hl : L.length ≤ 1099511627776) :
    Calls Tryz.prog 25 #[va, vb] w fun e w' => e = .returned (.bool true) ∧ Below w.heap.size w w' := by
  obtain ⟨ao, capa, rfl, hxa⟩ := ha
  obtain ⟨bo, capb, rfl, hxb⟩ := hb
  have HA := Hid.mk hxa
  have HB := Hid.mk hxb
  obtain ⟨n, hn⟩ : ∃ n, n = L.length := ⟨_, rfl⟩
  have HN := Hid.mk hn
  rw [← hn] at hl ⊢
  have hnn : ((n : Int) != (n : Int)) = false := by simp
  clear hxa hxb hn
  go_enter Tryz.func25, Tryz.ntmps25
  go_wp2_with fail
  go_loopw [5] (fun i wr => ∃ (k : Nat), k ≤ n ∧ i = .int .i64 k ∧ Hid (Below w.heap.size w wr)) (fun i _ => n - (intOf i).toNat)
  case atStart => exact ⟨0, Nat.zero_le _, rfl, Below.refl _ _⟩
  case round =>
    obtain ⟨k, hk, rfl, HQ⟩ := hrel
    by_cases hlt : k < n
    · have hk1 : (k : Int) < (n : Int) := by omega
      have hkx : k < L.length := by rw [← HN.out]; exact hlt
      obtain ⟨b, rfl, hb, hcell⟩ := HA.out (by omega)
      obtain ⟨b', rfl, hb', hcell'⟩ := HB.out (by omega)
      have hc1 := (HQ.out.cell (p := ⟨b, k, none⟩) hb).trans (hcell k hkx)
      have hc2 := (HQ.out.cell (p := ⟨b', k, none⟩) hb').trans (hcell' k hkx)
      generalize L.getD k .empty = x at hc1 hc2
      have hxx : (x.toList != x.toList) = false := by simp
      have hxy : (x.toList == x.toList) = true := by simp
      clear hcell hcell' hkx
      go_wp2_with fail
      go_quiet (fail)
      have HQ2 : Hid (Below w.heap.size w (wr.drewN nq)) := ⟨HQ.out.os, HQ.out.tape, HQ.out.output, HQ.out.size, HQ.out.block⟩
      go_wp2_with fail
      go_roundw
      case measure => simp [intOf]; omega
      exact ⟨k + 1, by omega, by go_num, HQ2⟩
    · have hk1 : ¬ (k : Int) < (n : Int) := by omega
      go_wp2_with fail
      go_ret
      exact ⟨rfl, HQ.out⟩
end Go.Proofs.YtbfjpmbninlbbabGreatDoor
