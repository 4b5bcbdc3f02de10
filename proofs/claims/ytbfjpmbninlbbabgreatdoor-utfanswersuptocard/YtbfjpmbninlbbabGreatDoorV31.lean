import Derived.Test.YtbfjpmbninlbbabGreatDoorV30
namespace Go.Proofs.YtbfjpmbninlbbabGreatDoor
open Go.RowKit
set_option linter.unusedVariables false
set_option linter.unusedSimpArgs false

theorem conv_zero' (w : World) (p : Option Addr) (c : Nat) : (convert 55 9 (.slice p 0 c)).run Tryz.prog w = .ok (.string ByteArray.empty) w := by
  rw [run_convert_bytes_string w 55 9 5 _ 0 c Tryz.underlying55 Tryz.underlying5 Tryz.underlying9]
  cases p <;> simp [Conv.bytesToString, loadCells]
  all_goals rfl
theorem conv_own' {wr : World} {base n : Nat} {l : List UInt8} {ao : Option Addr} {cap : Nat} (h1 : l.length = n) (h3 : wr.ownsRow base 5 1 (.slice ao n cap) n (Lib.byteCells l)) : (convert 55 9 (.slice ao n cap)).run Tryz.prog wr = .ok (.string ⟨l.toArray⟩) wr := by
  by_cases hn : 0 < n
  · obtain ⟨g, cap', hv⟩ := own_some h3 hn
    cases hv
    exact bytes_conv h1 h3
  · have e : n = 0 := by omega
    subst e
    have e2 : l = [] := List.eq_nil_of_length_eq_zero h1
    subst e2
    exact conv_zero' wr ao cap

theorem own_below' {w w1 : World} {B e size n : Nat} {v : Value} {xs : List Value} (h : w.ownsRow B e size v n xs) (hb : Below w.heap.size w w1) : w1.ownsRow B e size v n xs := by
  refine ⟨h.1, ?_⟩
  rcases h.2 with h0 | ⟨g, cap, cur, hv, hb', hg, rest⟩
  · exact .inl h0
  · refine .inr ⟨g, cap, cur, hv, hb', ?_, rest⟩
    rw [hb.block g (Array.getElem?_eq_some_iff.1 hg).1]
    exact hg
def rtxt (xs : List Int) : List UInt8 := xs.flatMap fun x => enc (rn x)
/-- while the reference writes -/
structure TxSt (w wr : World) (v : Value) (n : Nat) (xs : List Int) (k : Nat) : Prop where
  own : (rtxt (xs.take k)).length = n ∧ wr.ownsRow w.heap.size 5 1 v n (Lib.byteCells (rtxt (xs.take k)))
  below : Below w.heap.size w wr

set_option maxRecDepth 100000 in
set_option maxHeartbeats 1600000 in
theorem w_refText (v : Value) (xs : List Int) (w : World) (hv : Ints .i64 w v xs) (hl : xs.length ≤ 274877906944) :
    Calls Tryz.prog 18 #[v] w fun e w' => e = .returned (.string ⟨(rtxt xs).toArray⟩) ∧ Below w.heap.size w w' := by
  obtain ⟨i0, hi0, hz0, hz1, hz2⟩ := info_parts Tryz.infoB
  obtain ⟨ao, cap, rfl, hc, hx⟩ := hv
  have HX := Hid.mk hx
  obtain ⟨N, hN⟩ : ∃ N, xs.length = N := ⟨_, rfl⟩
  have HN := Hid.mk hN
  rw [hN] at hc hl ⊢
  have HS : Hid (TxSt w (w.alloc (.cells #[] 5)) (.slice (some ⟨w.heap.size, 0, none⟩) 0 0) 0 xs 0) := ⟨⟨rfl, own_empty w 5⟩, (Below.refl _ _).alloc (Nat.le_refl _) _⟩
  clear hx hN
  go_enter Tryz.func18, Tryz.ntmps18
  go_wp2_with fail
  go_loopw [3, 4] (fun l i wr => ∃ (k n : Nat) (so : Option Addr) (sc : Nat), k ≤ N ∧ n ≤ 4 * k ∧ l = .slice so n sc ∧ i = .int .i64 k ∧ Hid (TxSt w wr (.slice so n sc) n xs k)) (fun _ i _ => N - (intOf i).toNat)
  case atStart => exact ⟨0, 0, _, 0, Nat.zero_le _, by omega, rfl, rfl, HS⟩
  case round =>
    obtain ⟨k, n, so, sc, hk, hn4, rfl, rfl, HQ⟩ := hrel
    by_cases hlt : k < N
    · have hk1 : (k : Int) < (N : Int) := by omega
      have hkx : k < xs.length := by rw [HN.out]; exact hlt
      obtain ⟨b, off, rfl, hb, hcell⟩ := HX.out (by omega)
      obtain ⟨x, hxx⟩ : ∃ x, x = xs.getD k 0 := ⟨_, rfl⟩
      have hcx : wr.cell? ⟨b, off + k, none⟩ = some (.int .i64 x) := by
        rw [hxx]; exact (HQ.out.below.cell (p := ⟨b, off + k, none⟩) hb).trans (hcell k hkx)
      have HE := Hid.mk (w_Encoding x wr)
      have HT : Hid (rtxt (xs.take (k + 1)) = rtxt (xs.take k) ++ enc (rn x)) := by
        show _ = _
        rw [take_isnoc xs k hkx, ← hxx]; simp [rtxt]
      have hel := enc_len (rn x)
      clear hcell hxx hkx
      go_wp2_with fail
      refine HE.out.mono ?_
      rintro e w1 ⟨g, rfl, hg, HBR, hb1⟩
      have hown1 := own_below' HQ.out.own.2 hb1
      have hBw1 : w.heap.size ≤ w1.heap.size := Nat.le_trans HQ.out.below.size hb1.size
      have hB1 : Hid (Below w.heap.size w w1) := below_more HQ.out.below hb1
      have hcells : ∀ (j : Nat) (u : Value), (Lib.byteCells (enc (rn x)))[j]? = some u → w1.cell? ((⟨g, 0, none⟩ : Addr).add j) = some u := by
        intro j u hj
        have hjl : j < (enc (rn x)).length := by
          have := (List.getElem?_eq_some_iff.1 hj).1
          simpa [Lib.byteCells] using this
        have e : (⟨g, 0, none⟩ : Addr).add j = ⟨g, j, none⟩ := by
          unfold Addr.add; by_cases h0 : j = 0 <;> simp [h0]
        rw [e, HBR.out.cell j hjl, ← hj]
        simp [Lib.byteCells, hjl]
      have HLn := Hid.mk HQ.out.own.1
      have hone : ∀ u ∈ Lib.byteCells (enc (rn x)), u.oneCell' = true := by
        intro u hu
        simp only [Lib.byteCells, List.mem_map] at hu
        obtain ⟨c, _, rfl⟩ := hu
        rfl
      have hnl : (Lib.byteCells (enc (rn x))).length = (enc (rn x)).length * 1 := by simp [Lib.byteCells]
      clear hb1 HE HBR hcx
      generalize enc (rn x) = el at *
      go_wp2_with (at_builtin; refine wpList_append_own _ rfl (.tmp 18) (.tmp 19) 55 rfl w.heap.size 5 i0 (.int .u8 0) 1 1 Tryz.underlying55 hi0 hz0 hz1 hz2 rfl (by decide) _ _ _ rfl hown1 ⟨g, 0, none⟩ el.length el.length (Lib.byteCells el) rfl hnl hcells hone (by unfold maxLen; omega) (by omega) hBw1 ?_)
      intro v2 w2 hown2 hgrow2 hnn
      obtain ⟨so2, sc2, hv2⟩ := own_shape hown2
      have HN2 : Hid (TxSt w w2 v2 (n + el.length) xs (k + 1)) := by
        refine ⟨⟨?_, ?_⟩, hB1.out.grown hgrow2 hBw1 (own_base hown1)⟩
        · rw [HT.out, List.length_append, HLn.out]
        · rw [HT.out, Lib.byteCells_append]; exact hown2
      subst hv2
      clear hown2 hgrow2 hnn hown1 hcells hone hnl
      go_wp2_with fail
      go_roundw
      case rel => exact ⟨k + 1, n + el.length, so2, sc2, by omega, by omega, rfl, by go_num, HN2⟩
      case measure => simp [intOf]; omega
    · have hk1 : ¬ (k : Int) < (N : Int) := by omega
      have hkn : k = N := by omega
      subst hkn
      have htk : xs.take k = xs := List.take_of_length_le (by rw [HN.out]; exact Nat.le_refl _)
      obtain ⟨h1, h2⟩ := HQ.out.own
      rw [htk] at h1 h2
      have hcv := conv_own' h1 h2
      have HB := Hid.mk HQ.out.below
      clear h1 h2 htk
      go_wp2_with fail
      go_ret
      exact ⟨rfl, HB.out⟩
end Go.Proofs.YtbfjpmbninlbbabGreatDoor
