import Derived.Test.YthcohnnikmpjkaaGreatZSFp
import Derived.Test.YthcohnnikmpjkaaGreatZE9z
namespace Go.Proofs.YthcohnnikmpjkaaGreat
open Go.RowKit Go.Shelf Go.Sort
set_option linter.unusedVariables false
set_option linter.unusedSimpArgs false
attribute [local go_sem] Oper.semAt_some

theorem w_vText (s : ByteArray) (w : World) (hs : s.size ≤ 140737488355328) : Calls Tryz.prog 20 #[.agg #[.int .i64 4, .string ⟨#[]⟩, .string s, .slice none 0 0, .slice none 0 0]] w fun e w' => e = .returned (.bool (okB s.data.toList)) ∧ Below w.heap.size w w' := by
  have hI : InH w 1 (VT.mk 4 .empty s [] []) (.agg #[.int .i64 4, .string ⟨#[]⟩, .string s, .slice none 0 0, .slice none 0 0]) :=
    ⟨none, 0, none, 0, rfl, Nat.zero_le _, hs, Nat.zero_le _, Nat.zero_le _, Nat.le_refl _, Nat.le_refl _, fun k hk => absurd hk (List.not_mem_nil), ⟨fun h => absurd h (Nat.lt_irrefl 0)⟩, fun h => absurd h (Nat.lt_irrefl 0)⟩
  have h1 := w_vFormed 1 (VT.mk 4 .empty s [] []) _ w hI
  have e1 : formN 1 (VT.mk 4 .empty s [] []) = okB s.data.toList := by
    show formV 4 .empty s 0 0 true true = _
    have e2 : bareB .empty .empty 0 0 = true := by simp [bareB, Lib.toList_data]
    unfold formV
    rw [if_neg (by omega), if_neg (by omega), if_pos rfl, e2, Bool.and_true]
  rw [e1] at h1
  exact h1

set_option maxRecDepth 100000 in
set_option maxHeartbeats 3200000 in
theorem w_sRising (ko : Option Addr) (K kcap : Nat) (keys : List ByteArray) (w : World) (hk : KIn w ko keys) (hK : keys.length = K) (hcap : K ≤ kcap) (hK2 : K ≤ 140737488355328) (hs : ∀ k ∈ keys, k.size ≤ 140737488355328) :
    Calls Tryz.prog 52 #[.slice ko K kcap] w fun e w' => e = .returned (.bool (rK keys K && oK keys K)) ∧ Below w.heap.size w w' := by
  have HK := Hid.mk hk
  have HKK := Hid.mk hK
  have HSz := Hid.mk (fun i (hi : i < keys.length) => key_size hs hi)
  clear hk hK hs
  go_enter Tryz.func52, Tryz.ntmps52
  go_wp2_with fail
  go_loopw [7] (fun i wr => ∃ k : Nat, k ≤ K ∧ i = .int .i64 (k : Int) ∧ Hid (Below w.heap.size w wr) ∧ Hid (rK keys k = true ∧ oK keys k = true)) (fun i _ => K - (intOf i).toNat)
  case atStart => exact ⟨0, Nat.zero_le _, rfl, Below.refl _ _, rfl, rfl⟩
  case round =>
    obtain ⟨k, hk, rfl, HB, HQ⟩ := hrel
    by_cases hlt : k < K
    · have hl1 : (k : Int) < (K : Int) := by omega
      have hl0 : (0 : Int) ≤ (k : Int) := by omega
      have hkl : k < keys.length := by rw [HKK.out]; exact hlt
      obtain ⟨b, off, hko, hbl, hrow⟩ := (HK.out.keep HB.out).row (by omega)
      subst hko
      have c0 := hrow k hkl
      have HC := Hid.mk (fun u => w_vText (keys.getD k .empty) u (HSz.out k hkl))
      have HUr := Hid.mk (rK_up keys k)
      have HUo := Hid.mk (oK_up keys k)
      have HNo := Hid.mk (fun h => oK_no (keys := keys) (k := k) (N := K) hlt h)
      by_cases hk0 : k = 0
      · subst hk0
        clear hrow hbl hkl
        simp only [Nat.add_zero] at c0
        generalize keys.getD 0 ByteArray.empty = s at *
        cases hf : okB s.data.toList with
        | true =>
          rw [hf] at HC
          have HN : Hid (rK keys (0 + 1) = true ∧ oK keys (0 + 1) = true) := ⟨by rw [HUr.out, HQ.out.1]; rfl, by rw [HUo.out, HQ.out.2, hf]; rfl⟩
          clear hf HUr HUo HNo
          go_wp2_with fail
          refine (HC.out _).mono ?_
          rintro e w2 ⟨rfl, hb2⟩
          have HB2 := Hid.mk (HB.out.trans (hb2.mono HB.out.size))
          clear hb2 c0
          go_wp2_with fail
          go_roundw
          case rel => exact ⟨0 + 1, hlt, by go_num, HB2, HN⟩
          case measure => simp [intOf]; omega
        | false =>
          rw [hf] at HC
          have HF : Hid ((rK keys K && oK keys K) = false) := by show _ = _; rw [HNo.out hf, Bool.and_false]
          clear hf HUr HUo HNo
          go_wp2_with fail
          refine (HC.out _).mono ?_
          rintro e w2 ⟨rfl, hb2⟩
          have HB2 := Hid.mk (HB.out.trans (hb2.mono HB.out.size))
          clear hb2 c0
          go_wp2_with fail
          go_ret
          exact ⟨by rw [HF.out]; rfl, HB2.out⟩
      · have hk1 : (0 : Int) < (k : Int) := by omega
        obtain ⟨j, rfl⟩ : ∃ j, k = j + 1 := ⟨k - 1, by omega⟩
        have c1 := hrow j (by omega)
        have hj0 : (0 : Int) ≤ (j : Int) := by omega
        have hj1 : (j : Int) < (K : Int) := by omega
        have ej : ((j + 1 : Nat) : Int) - 1 = (j : Int) := by omega
        have HRa : Hid (rA keys (j + 1) = Op.bytesLess (keys.getD j .empty).toList (keys.getD (j + 1) .empty).toList) := rfl
        have HNr := Hid.mk (fun h => rK_no (keys := keys) (k := j + 1) (N := K) hlt (by omega) h)
        clear hrow hbl hkl hk0
        generalize keys.getD j ByteArray.empty = p at *
        generalize keys.getD (j + 1) ByteArray.empty = s at *
        cases hr : Op.bytesLess p.toList s.toList with
        | false =>
          have HF : Hid ((rK keys K && oK keys K) = false) := by show _ = _; rw [HNr.out (by rw [HRa.out, hr]), Bool.false_and]
          clear HUr HUo HNo HNr
          go_wp2_with fail
          go_ret
          exact ⟨by rw [HF.out]; rfl, HB.out⟩
        | true =>
          cases hf : okB s.data.toList with
          | true =>
            rw [hf] at HC
            have HN : Hid (rK keys (j + 1 + 1) = true ∧ oK keys (j + 1 + 1) = true) := ⟨by rw [HUr.out, HQ.out.1, HRa.out, hr]; simp, by rw [HUo.out, HQ.out.2, hf]; rfl⟩
            clear hf HUr HUo HNo HNr
            go_wp2_with fail
            refine (HC.out _).mono ?_
            rintro e w2 ⟨rfl, hb2⟩
            have HB2 := Hid.mk (HB.out.trans (hb2.mono HB.out.size))
            clear hb2 c0 c1
            go_wp2_with fail
            go_roundw
            case rel => exact ⟨j + 1 + 1, hlt, by go_num, HB2, HN⟩
            case measure => simp [intOf]; omega
          | false =>
            rw [hf] at HC
            have HF : Hid ((rK keys K && oK keys K) = false) := by show _ = _; rw [HNo.out hf, Bool.and_false]
            clear hf HUr HUo HNo HNr
            go_wp2_with fail
            refine (HC.out _).mono ?_
            rintro e w2 ⟨rfl, hb2⟩
            have HB2 := Hid.mk (HB.out.trans (hb2.mono HB.out.size))
            clear hb2 c0 c1
            go_wp2_with fail
            go_ret
            exact ⟨by rw [HF.out]; rfl, HB2.out⟩
    · have hl1 : ¬ (k : Int) < (K : Int) := by omega
      have HF : Hid ((rK keys K && oK keys K) = true) := by
        have hkK : k = K := by omega
        have := HQ.out
        rw [hkK] at this
        show _ = _
        rw [this.1, this.2]; rfl
      go_wp2_with fail
      go_ret
      exact ⟨by rw [HF.out]; rfl, HB.out⟩
end Go.Proofs.YthcohnnikmpjkaaGreat
