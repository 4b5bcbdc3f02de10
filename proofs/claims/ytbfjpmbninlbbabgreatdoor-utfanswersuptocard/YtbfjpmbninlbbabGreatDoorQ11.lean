import Derived.Test.YtbfjpmbninlbbabGreatDoorQ10
import Derived.Test.YtbfjpmbninlbbabGreatDoorK5
namespace Go.Proofs.YtbfjpmbninlbbabGreatDoor
open Go.RowKit
set_option linter.unusedVariables false
set_option linter.unusedSimpArgs false

theorem plcs_stands (s p : ByteArray) (hp : 0 < p.size) (o : Nat) : o ∈ plcs s p ↔ stands s o p.data.toList := by
  rw [plcs_occs s p hp, occs_mem (by rw [size_len]; exact hp), stands_occ, size_len]
  constructor
  · exact fun h => h.2
  · intro h
    refine ⟨?_, h⟩
    have := h.1
    rw [size_len, size_len] at this
    exact this

/-- while the reference finds -/
structure RfSt (s p : ByteArray) (w wr : World) (v : Value) (c k : Nat) : Prop where
  own : wr.ownsRow w.heap.size 3 1 v c (ivals .i64 (natI (fnd s.data.toList (plcs s p) k)))
  len : c = (fnd s.data.toList (plcs s p) k).length
  below : Below w.heap.size w wr

set_option maxRecDepth 100000 in
set_option maxHeartbeats 4000000 in
theorem w_rFind (s p : ByteArray) (w : World) (hs : s.size ≤ 1048576) (sp : p.size ≤ 1048576) :
    Calls Tryz.prog 23 #[.string s, .string p] w fun e w' => ∃ so sc n, e = .returned (.slice so n sc) ∧ Hid (n = (fnd s.data.toList (plcs s p) (runes s.data.toList).length).length ∧ Ints .i64 w' (.slice so n sc) (natI (fnd s.data.toList (plcs s p) (runes s.data.toList).length))) ∧ Below w.heap.size w w' := by
  obtain ⟨i0, hi0, hz0, hz1, hz2⟩ := info_parts Tryz.infoI
  have hrl := runes_len_le s.data.toList
  rw [size_len] at hrl
  have HPc := Hid.mk (fun u => w_Pieces s u (by omega))
  go_enter Tryz.func23, Tryz.ntmps23
  go_wp2_with fail
  refine (HPc.out _).mono ?_
  rintro e w1 ⟨so, sc, rfl, ho, hb1⟩
  obtain ⟨N, hN⟩ : ∃ N, N = (runes s.data.toList).length := ⟨_, rfl⟩
  have HNN := Hid.mk hN
  have HR : Hid (0 < N → ∃ g, so = some ⟨g, 0, none⟩ ∧ PRow s w1 g) := by
    intro h0
    rcases ho.out.2 with ⟨_, e⟩ | ⟨g, cap, cur, e, _, hr, _, _, _, ht⟩
    · omega
    · simp only [Value.slice.injEq] at e
      exact ⟨g, e.1, ⟨cur, hr, ht⟩⟩
  have HC0 : Hid (RfSt s p w (w1.alloc (.cells #[] 3)) (.slice (some ⟨w1.heap.size, 0, none⟩) 0 0) 0 0) := by
    have h := own_empty w1 3
    exact ⟨⟨h.1, h.2.imp id (fun ⟨g, cap, cur, e, hb, rest⟩ => ⟨g, cap, cur, e, Nat.le_trans hb1.size hb, rest⟩)⟩, rfl, hb1.alloc hb1.size _⟩
  have HBA := Hid.mk (below1 w1 (.cells #[] 3))
  rw [← hN] at hrl ⊢
  rw [← hN] at ho
  clear ho hb1 HPc hN
  go_wp2_with fail
  go_loopw [6, 7] (fun l i wr => ∃ (k c : Nat) (ao : Option Addr) (cap : Nat), k ≤ N ∧ c ≤ k ∧ l = .slice ao c cap ∧ i = .int .i64 (k : Int) ∧ Hid (RfSt s p w wr (.slice ao c cap) c k) ∧ Hid (∀ g, PRow s w1 g → PRow s wr g)) (fun _ i _ => N - (intOf i).toNat)
  case atStart => exact ⟨0, 0, _, 0, Nat.zero_le _, Nat.zero_le _, rfl, rfl, HC0, fun g h => h.keep HBA.out⟩
  case round =>
    obtain ⟨k, c, ao, cap, hk, hck, rfl, rfl, HQ, HP⟩ := hrel
    by_cases hlt : k < N
    · have hl1 : (k : Int) < (N : Int) := by omega
      have hkN : k < (runes s.data.toList).length := by rw [← HNN.out]; exact hlt
      by_cases hp : 0 < p.size
      · have hp1 : (0 : Int) < (p.size : Int) := by omega
        obtain ⟨g, hg, hpr⟩ := HR.out (by omega)
        subst hg
        have c0 : wr.cell? ⟨g, k * 4, none⟩ = some (.int .i64 (off s.data.toList k : Int)) := (HP.out g hpr).get hkN 0 (by omega)
        have hoff := off_size s k
        have HMem := Hid.mk (plcs_stands s p hp (off s.data.toList k))
        have HFu := Hid.mk (fnd_up s.data.toList (plcs s p) k)
        have hcv := Lib.run_convert_string_bytes (P := Tryz.prog) wr 9 55 5 p (u := .string) Tryz.underlying9 Tryz.underlying55 Tryz.underlying5
        obtain ⟨hbc, hbb⟩ := bcells_conv wr p
        obtain ⟨cp, hcp⟩ : ∃ cp, cp = grownCap wr p.size 0 5 := ⟨_, rfl⟩
        obtain ⟨W1, hW1⟩ : ∃ W1, W1 = Lib.bytesWorld wr 5 p := ⟨_, rfl⟩
        rw [← hcp, ← hW1] at hcv
        rw [← hW1] at hbc hbb
        have HSm := Hid.mk (w_sameC s (off s.data.toList k) wr.heap.size cp p.data.toList W1 hbc hoff (by omega) (by rw [size_len]; omega))
        rw [size_len] at HSm
        have HBB := Hid.mk hbb
        generalize off s.data.toList k = f at c0 hoff HMem HFu HSm
        clear hcp hW1 hbc hbb hpr hkN
        go_wp2_with fail
        refine HSm.out.mono ?_
        rintro e w2 ⟨rfl, hb2⟩
        have HB2 := Hid.mk (HBB.out.trans (hb2.mono HBB.out.size))
        have hown := own_below' HQ.out.own HB2.out
        have HBw := Hid.mk (HQ.out.below.trans (HB2.out.mono HQ.out.below.size))
        have hsz := HBw.out.size
        have HP2 : Hid (∀ g, PRow s w1 g → PRow s w2 g) := fun g h => (HP.out g h).keep HB2.out
        clear hb2 HSm hcv c0
        by_cases hst : stands s f p.data.toList
        · rw [decide_eq_true hst]
          have HE : Hid (fnd s.data.toList (plcs s p) (k + 1) = fnd s.data.toList (plcs s p) k ++ [k]) := by
            show _ = _; rw [HFu.out, if_pos (HMem.out.2 hst)]
          clear hst
          go_wp2_with (at_builtin; refine wpList_append_own _ rfl (.tmp 31) (.tmp 33) 39 rfl w.heap.size 3 i0 (.int .i64 0) 1 8 Tryz.underlying39 hi0 hz0 hz1 hz2 rfl (by decide) _ _ _ rfl (hown.alloc _) ⟨w2.heap.size, 0, none⟩ 1 1 [.int .i64 (k : Int)] rfl rfl (by intro j u hj; match j, hj with | 0, hj => simp at hj; subst hj; simp [Addr.add]) (by intro u hu; simp at hu; subst hu; rfl) (by unfold maxLen; omega) (by omega) (by simp; omega) ?_)
          intro v1 w3 hown1 hgrow1 hnn
          obtain ⟨so1, sc1, hv1⟩ := own_shape hown1
          have HN1 : Hid (RfSt s p w w3 v1 (c + 1) (k + 1)) := by
            refine ⟨?_, ?_, below_app hown hsz HBw.out hgrow1⟩
            · rw [HE.out]
              have : ivals .i64 (natI (fnd s.data.toList (plcs s p) k ++ [k])) = ivals .i64 (natI (fnd s.data.toList (plcs s p) k)) ++ [.int .i64 (k : Int)] := by simp [ivals, natI]
              rw [this]; exact hown1
            · rw [HE.out, List.length_append, ← HQ.out.len]; rfl
          have HP3 : Hid (∀ g, PRow s w1 g → PRow s w3 g) := fun g h => prow_kept3 hown (HP2.out g h) hgrow1
          subst hv1
          clear hown1 hgrow1 hnn hown
          go_wp2_with fail
          go_roundw
          case rel => exact ⟨k + 1, c + 1, so1, sc1, hlt, by omega, rfl, by go_num, HN1, HP3⟩
          case measure => simp [intOf]; omega
        · rw [decide_eq_false hst]
          have HE : Hid (fnd s.data.toList (plcs s p) (k + 1) = fnd s.data.toList (plcs s p) k) := by
            show _ = _; rw [HFu.out, if_neg (fun h => hst (HMem.out.1 h)), List.append_nil]
          have HN1 : Hid (RfSt s p w w2 (.slice ao c cap) c (k + 1)) := ⟨by rw [HE.out]; exact hown, by rw [HE.out]; exact HQ.out.len, HBw.out⟩
          clear hst hown
          go_wp2_with fail
          go_roundw
          case rel => exact ⟨k + 1, c, ao, cap, hlt, by omega, rfl, by go_num, HN1, HP2⟩
          case measure => simp [intOf]; omega
      · have hp1 : ¬ (0 : Int) < (p.size : Int) := by omega
        have HE : Hid (fnd s.data.toList (plcs s p) (k + 1) = fnd s.data.toList (plcs s p) k) := by
          show _ = _
          rw [fnd_up, if_neg, List.append_nil]
          unfold plcs
          rw [if_pos (by omega)]
          simp
        have HN1 : Hid (RfSt s p w wr (.slice ao c cap) c (k + 1)) := ⟨by rw [HE.out]; exact HQ.out.own, by rw [HE.out]; exact HQ.out.len, HQ.out.below⟩
        clear hkN
        go_wp2_with fail
        go_roundw
        case rel => exact ⟨k + 1, c, ao, cap, hlt, by omega, rfl, by go_num, HN1, HP⟩
        case measure => simp [intOf]; omega
    · have hl1 : ¬ (k : Int) < (N : Int) := by omega
      have HK : Hid (k = N) := by show _ = _; omega
      have HF : Hid (c = (fnd s.data.toList (plcs s p) N).length ∧ Ints .i64 wr (.slice ao c cap) (natI (fnd s.data.toList (plcs s p) N))) := by
        have h := HQ.out.own
        have h2 := HQ.out.len
        rw [HK.out] at h h2
        exact ⟨h2, own_ints h⟩
      go_wp2_with fail
      go_ret
      exact ⟨ao, cap, c, rfl, by rw [← HNN.out]; exact HF, HQ.out.below⟩
end Go.Proofs.YtbfjpmbninlbbabGreatDoor
