import Derived.Test.YthcohnnikmpjkaaE5
namespace Go.Proofs.Ythcohnnikmpjkaa
open Go.RowKit
set_option linter.unusedVariables false
set_option linter.unusedSimpArgs false

set_option maxRecDepth 100000 in
set_option maxHeartbeats 3200000 in
theorem w_Rise (ko : Option Addr) (K kcap : Nat) (keys : List ByteArray) (w : World) (hk : KIn w ko keys) (hK : keys.length = K) (hcap : K ≤ kcap) (hK2 : K ≤ 140737488355328) (hs : ∀ k ∈ keys, k.size ≤ 140737488355328) :
    Calls Try.prog 20 #[.slice ko K kcap] w fun e w' => e = .returned (.bool (rK keys K && oK keys K)) ∧ Below w.heap.size w w' := by
  have HK := Hid.mk hk
  have HKK := Hid.mk hK
  have HSz := Hid.mk (fun i (hi : i < keys.length) => key_size hs hi)
  clear hk hK hs
  go_enter Try.func20, Try.ntmps20
  go_wp2_with fail
  go_loopw [3] (fun i wr => ∃ k : Nat, k ≤ K ∧ i = .int .i64 (k : Int) ∧ Hid (Below w.heap.size w wr) ∧ Hid (oK keys k = true ∧ rK keys k = true)) (fun i _ => K - (intOf i).toNat)
  case atStart => exact ⟨0, Nat.zero_le _, rfl, Below.refl _ _, rfl, rfl⟩
  case round =>
    obtain ⟨k, hk, rfl, HB, HQ⟩ := hrel
    by_cases hlt : k < K
    · have hl1 : (k : Int) < (K : Int) := by omega
      have hkl : k < keys.length := by rw [HKK.out]; exact hlt
      obtain ⟨b, off, hko, hbl, hrow⟩ := (HK.out.keep HB.out).row (by omega)
      subst hko
      have c1 := hrow k hkl
      have hsz := HSz.out k hkl
      have HUp := Hid.mk (oK_up keys k)
      have HUr := Hid.mk (rK_up keys k)
      have HNo := Hid.mk (fun h => oK_no (keys := keys) hlt h)
      have HU := Hid.mk (fun u => w_UTF (keys.getD k ByteArray.empty) u (by omega))
      cases hok : okB (keys.getD k ByteArray.empty).data.toList with
      | false =>
        have HF : Hid ((rK keys K && oK keys K) = false) := by show _ = _; rw [HNo.out hok, Bool.and_false]
        rw [hok] at HU
        generalize keys.getD k ByteArray.empty = t at c1 HU
        clear hok hrow hbl hkl hsz HUp HUr
        go_wp2_with fail
        refine (HU.out _).mono ?_
        rintro e w2 ⟨rfl, hw⟩
        obtain rfl := hw.symm
        go_wp2_with fail
        go_ret
        exact ⟨by rw [HF.out]; rfl, HB.out⟩
      | true =>
        rw [hok] at HU
        have HOn : Hid (oK keys (k + 1) = true) := by show _ = _; rw [HUp.out, HQ.out.1, hok]; rfl
        rcases Nat.eq_zero_or_pos k with h0 | h0
        · subst h0
          have hl0 : (0 : Int) < (K : Int) := by omega
          have HN : Hid (oK keys (0 + 1) = true ∧ rK keys (0 + 1) = true) := ⟨HOn.out, by rw [HUr.out, HQ.out.2]; rfl⟩
          generalize keys.getD 0 ByteArray.empty = t at c1 HU
          rw [Nat.add_zero] at c1
          clear hok hrow hbl hkl hsz HUp HUr hl1
          go_wp2_with fail
          refine (HU.out _).mono ?_
          rintro e w2 ⟨rfl, hw⟩
          obtain rfl := hw.symm
          go_wp2_with fail
          go_quiet (fail)
          have HB2 : Hid (Below w.heap.size w (wr.drewN nq)) := ⟨HB.out.os, HB.out.tape, HB.out.output, HB.out.size, HB.out.block⟩
          go_wp2_with fail
          go_roundw
          case rel => exact ⟨0 + 1, hlt, by go_num, HB2, HN⟩
          case measure => simp [intOf]; omega
        · obtain ⟨j, hj⟩ : ∃ j, k = j + 1 := ⟨k - 1, by omega⟩
          subst hj
          have c0 := hrow j (by omega)
          have HRn := Hid.mk (fun h => rK_no (keys := keys) (k := j + 1) hlt (by omega) h)
          have HRe : Hid (rA keys (j + 1) = Op.bytesLess (keys.getD j ByteArray.empty).toList (keys.getD (j + 1) ByteArray.empty).toList) := by show _ = _; unfold rA; rw [Nat.add_sub_cancel]
          have hgt : (0 : Int) < (j : Int) + 1 := by omega
          have hcast : (((j + 1 : Nat)) : Int) = (j : Int) + 1 := by omega
          have hl2 : (j : Int) < (K : Int) := by omega
          have hl3 : (j : Int) + 1 < (K : Int) := by omega
          have z0 : (0 : Int) ≤ (j : Int) := by omega
          have z1 : (0 : Int) ≤ (j : Int) + 1 := by omega
          have wj : IntKind.i64.wrap (j : Int) = (j : Int) := by rw [IntKind.wrap_i64]; omega
          have hj0 : (j : Int) + 1 - 1 = (j : Int) := by omega
          have hjw : IntKind.i64.wrap ((j : Int) + 1 - 1) = (j : Int) := by rw [IntKind.wrap_i64]; omega
          cases hlss : Op.bytesLess (keys.getD j ByteArray.empty).toList (keys.getD (j + 1) ByteArray.empty).toList with
          | true =>
            have HN : Hid (oK keys (j + 1 + 1) = true ∧ rK keys (j + 1 + 1) = true) := ⟨HOn.out, by rw [HUr.out, HQ.out.2, HRe.out, hlss]; simp⟩
            generalize keys.getD j ByteArray.empty = s at c0 hlss
            generalize keys.getD (j + 1) ByteArray.empty = t at c1 HU hlss
            clear hok hrow hbl hkl hsz HUp HUr h0 HRe
            go_wp2_with fail
            refine (HU.out _).mono ?_
            rintro e w2 ⟨rfl, hw⟩
            obtain rfl := hw.symm
            go_wp2_with fail
            go_quiet (fail)
            have HB2 : Hid (Below w.heap.size w (wr.drewN nq)) := ⟨HB.out.os, HB.out.tape, HB.out.output, HB.out.size, HB.out.block⟩
            go_wp2_with fail
            go_roundw
            case rel => exact ⟨j + 1 + 1, hlt, by go_num, HB2, HN⟩
            case measure => simp [intOf]; omega
          | false =>
            have HF : Hid ((rK keys K && oK keys K) = false) := by show _ = _; rw [HRn.out (by rw [HRe.out]; exact hlss), Bool.false_and]
            generalize keys.getD j ByteArray.empty = s at c0 hlss
            generalize keys.getD (j + 1) ByteArray.empty = t at c1 HU hlss
            clear hok hrow hbl hkl hsz HUp HUr h0 HRe
            go_wp2_with fail
            refine (HU.out _).mono ?_
            rintro e w2 ⟨rfl, hw⟩
            obtain rfl := hw.symm
            go_wp2_with fail
            go_quiet (fail)
            have HB2 : Hid (Below w.heap.size w (wr.drewN nq)) := ⟨HB.out.os, HB.out.tape, HB.out.output, HB.out.size, HB.out.block⟩
            go_wp2_with fail
            go_ret
            exact ⟨by rw [HF.out]; rfl, HB2.out⟩
    · have hl1 : ¬ (k : Int) < (K : Int) := by omega
      have HF : Hid ((rK keys K && oK keys K) = true) := by
        have e : k = K := by omega
        rw [← e, HQ.out.1, HQ.out.2]; rfl
      go_wp2_with fail
      go_ret
      exact ⟨by rw [HF.out]; rfl, HB.out⟩

/-- nothing but a kind -/
def bareB (nm tx : ByteArray) (N K : Nat) : Bool := nm.toList.isEmpty && tx.toList.isEmpty && decide (N = 0) && decide (K = 0)
set_option maxRecDepth 100000 in
set_option maxHeartbeats 1600000 in
theorem w_bare (kd : Int) (nm tx : ByteArray) (io : Option Addr) (N icap : Nat) (ko : Option Addr) (K kcap : Nat) (w : World) :
    Calls Try.prog 63 #[.agg #[.int .i64 kd, .string nm, .string tx, .slice io N icap, .slice ko K kcap]] w fun e w' => e = .returned (.bool (bareB nm tx N K)) ∧ Below w.heap.size w w' := by
  have HX := Hid.mk (vbx_new w (.int .i64 kd) (.string nm) (.string tx) (.slice io N icap) (.slice ko K kcap))
  unfold bareB
  cases h1 : nm.toList.isEmpty with
  | false =>
    go_enter Try.func63, Try.ntmps63
    go_wp2_with fail
    go_ret
    exact ⟨rfl, HX.out.below⟩
  | true =>
    cases h2 : tx.toList.isEmpty with
    | false =>
      go_enter Try.func63, Try.ntmps63
      go_wp2_with fail
      go_ret
      exact ⟨rfl, HX.out.below⟩
    | true =>
      by_cases h3 : N = 0
      · have h31 : ((N : Int) == 0) = true := by rw [beq_iff_eq]; omega
        have HD : Hid (decide (N = 0) = true) := decide_eq_true h3
        by_cases h4 : K = 0
        · have h41 : ((K : Int) == 0) = true := by rw [beq_iff_eq]; omega
          have HD2 : Hid (decide (K = 0) = true) := decide_eq_true h4
          clear h3 h4
          go_enter Try.func63, Try.ntmps63
          go_wp2_with fail
          go_ret
          exact ⟨by rw [HD.out, HD2.out]; rfl, HX.out.below⟩
        · have h41 : ((K : Int) == 0) = false := by rw [beq_eq_false_iff_ne]; omega
          have HD2 : Hid (decide (K = 0) = false) := decide_eq_false h4
          clear h3 h4
          go_enter Try.func63, Try.ntmps63
          go_wp2_with fail
          go_ret
          exact ⟨by rw [HD.out, HD2.out]; rfl, HX.out.below⟩
      · have h31 : ((N : Int) == 0) = false := by rw [beq_eq_false_iff_ne]; omega
        have HD : Hid (decide (N = 0) = false) := decide_eq_false h3
        clear h3
        go_enter Try.func63, Try.ntmps63
        go_wp2_with fail
        go_ret
        exact ⟨by rw [HD.out]; rfl, HX.out.below⟩

theorem emp_e : ByteArray.empty.toList.isEmpty = true := by rw [Lib.toList_data]; rfl

/-- which values are well shaped -/
def formV (k : Int) (nm tx : ByteArray) (N K : Nat) (A RO : Bool) : Bool :=
  if k = 0 ∨ k = 1 ∨ k = 2 then bareB nm tx N K
  else if k = 3 then Pl.formed nm.data.toList && bareB .empty tx N K
  else if k = 4 then okB tx.data.toList && bareB nm .empty N K
  else if k = 5 then A && bareB nm tx 0 K
  else if k = 6 then decide (K = N) && RO && A && bareB nm tx 0 0
  else false
def formN : Nat → VT → Bool
  | 0, _ => false
  | h + 1, T => formV T.kind T.num T.text T.items.length T.keys.length (T.items.all (formN h)) (rK T.keys T.keys.length && oK T.keys T.keys.length)
end Go.Proofs.Ythcohnnikmpjkaa
