import Derived.Test.YthcohnnikmpjkaaE1
import Derived.Test.YthcohnnikmpjkaaE4
import Derived.BigQuiet
import Derived.Deep.QuietTactic
namespace Go.Proofs.Ythcohnnikmpjkaa
open Go.RowKit
set_option linter.unusedVariables false
set_option linter.unusedSimpArgs false

theorem InH.open {W : World} {h : Nat} {T : VT} {v : Value} (hI : InH W (h + 1) T v) : ∃ (io : Option Addr) (icap : Nat) (ko : Option Addr) (kcap : Nat),
      v = .agg #[.int .i64 T.kind, .string T.num, .string T.text, .slice io T.items.length icap, .slice ko T.keys.length kcap] ∧
      T.num.size ≤ 140737488355328 ∧ T.text.size ≤ 140737488355328 ∧ T.items.length ≤ 140737488355328 ∧ T.keys.length ≤ 140737488355328 ∧ T.items.length ≤ icap ∧ T.keys.length ≤ kcap ∧
      (∀ k ∈ T.keys, k.size ≤ 140737488355328) ∧ KIn W ko T.keys ∧ IIn W h io T.items := by
  obtain ⟨io, icap, ko, kcap, e, a1, a2, a3, a4, a5, a6, a7, hk, hi⟩ := hI
  exact ⟨io, icap, ko, kcap, e, a1, a2, a3, a4, a5, a6, a7, hk, ⟨hi⟩⟩

/-- what Parts may answer -/
def PtR (most : Int) (w w' : World) (e : Ending) : Prop := ∃ p : Int, e = .returned (.int .i64 p) ∧ 0 ≤ p ∧ p ≤ most + 140737488355329 ∧ Below w.heap.size w w'

/-- the keys up to k: UTF-8; each above the one ahead -/
def oK (keys : List ByteArray) (k : Nat) : Bool := (List.range k).all fun i => okB (keys.getD i .empty).data.toList
def rA (keys : List ByteArray) (i : Nat) : Bool := Op.bytesLess (keys.getD (i - 1) .empty).toList (keys.getD i .empty).toList
def rK (keys : List ByteArray) (k : Nat) : Bool := (List.range k).all fun i => i == 0 || rA keys i
theorem oK_up (keys : List ByteArray) (k : Nat) : oK keys (k + 1) = (oK keys k && okB (keys.getD k .empty).data.toList) := by simp [oK, List.range_succ]
theorem rK_up (keys : List ByteArray) (k : Nat) : rK keys (k + 1) = (rK keys k && (k == 0 || rA keys k)) := by simp [rK, List.range_succ]
theorem all_false_of {f : Nat → Bool} {k N : Nat} (h : k < N) (hf : f k = false) : (List.range N).all f = false := by
  rw [List.all_eq_false]; exact ⟨k, List.mem_range.2 h, by simp [hf]⟩
theorem oK_no {keys : List ByteArray} {k N : Nat} (h : k < N) (hf : okB (keys.getD k .empty).data.toList = false) : oK keys N = false := all_false_of h hf
theorem rK_no {keys : List ByteArray} {k N : Nat} (h : k < N) (h0 : k ≠ 0) (hf : rA keys k = false) : rK keys N = false := all_false_of (f := fun i => i == 0 || rA keys i) h (by simp [hf, h0])
theorem key_size {keys : List ByteArray} (h : ∀ k ∈ keys, k.size ≤ 140737488355328) {i : Nat} (hi : i < keys.length) : (keys.getD i .empty).size ≤ 140737488355328 := by
  apply h
  rw [List.getD_eq_getElem?_getD, List.getElem?_eq_getElem hi]; exact List.getElem_mem hi

set_option maxRecDepth 100000 in
set_option maxHeartbeats 3200000 in
theorem w_allValid (ko : Option Addr) (K kcap : Nat) (keys : List ByteArray) (w : World) (hk : KIn w ko keys) (hK : keys.length = K) (hcap : K ≤ kcap) (hK2 : K ≤ 140737488355328) (hs : ∀ k ∈ keys, k.size ≤ 140737488355328) :
    Calls Try.prog 62 #[.slice ko K kcap] w fun e w' => e = .returned (.bool (oK keys K)) ∧ Below w.heap.size w w' := by
  have HK := Hid.mk hk
  have HKK := Hid.mk hK
  have HSz := Hid.mk (fun i (hi : i < keys.length) => key_size hs hi)
  clear hk hK hs
  go_enter Try.func62, Try.ntmps62
  go_wp2_with fail
  go_loopw [7] (fun i wr => ∃ k : Nat, k ≤ K ∧ i = .int .i64 (k : Int) ∧ Hid (Below w.heap.size w wr) ∧ Hid (oK keys k = true)) (fun i _ => K - (intOf i).toNat)
  case atStart => exact ⟨0, Nat.zero_le _, rfl, Below.refl _ _, rfl⟩
  case round =>
    obtain ⟨k, hk, rfl, HB, HQ⟩ := hrel
    by_cases hlt : k < K
    · have hl1 : (k : Int) < (K : Int) := by omega
      have hkl : k < keys.length := by rw [HKK.out]; exact hlt
      obtain ⟨b, off, hko, hbl, hrow⟩ := (HK.out.keep HB.out).row (by omega)
      subst hko
      have c0 := hrow k hkl
      have hsz := HSz.out k hkl
      have HUp := Hid.mk (oK_up keys k)
      have HNo := Hid.mk (fun h => oK_no (keys := keys) hlt h)
      generalize keys.getD k ByteArray.empty = s at c0 hsz HUp HNo
      have HV := Hid.mk (w_Valid s wr (by omega))
      clear hrow hbl hkl
      cases hok : okB s.data.toList with
      | true =>
        rw [hok] at HV HUp
        have HN : Hid (oK keys (k + 1) = true) := by rw [HUp.out, HQ.out]; rfl
        clear hok
        go_wp2_with fail
        refine HV.out.mono ?_
        rintro e w2 ⟨rfl, hb2⟩
        have HB2 := Hid.mk (HB.out.trans (hb2.mono HB.out.size))
        clear hb2
        go_wp2_with fail
        go_roundw
        case rel => exact ⟨k + 1, hlt, by go_num, HB2, HN⟩
        case measure => simp [intOf]; omega
      | false =>
        have HF := Hid.mk (HNo.out hok)
        rw [hok] at HV
        clear hok
        go_wp2_with fail
        refine HV.out.mono ?_
        rintro e w2 ⟨rfl, hb2⟩
        have HB2 := Hid.mk (HB.out.trans (hb2.mono HB.out.size))
        clear hb2
        go_wp2_with fail
        go_ret
        exact ⟨by rw [HF.out]; rfl, HB2.out⟩
    · have hl1 : ¬ (k : Int) < (K : Int) := by omega
      have HF : Hid (oK keys K = true) := by
        have e : k = K := by omega
        rw [← e]; exact HQ
      go_wp2_with fail
      go_ret
      exact ⟨by rw [HF.out]; rfl, HB.out⟩

set_option maxRecDepth 100000 in
set_option maxHeartbeats 3200000 in
theorem w_rising (ko : Option Addr) (K kcap : Nat) (keys : List ByteArray) (w : World) (hk : KIn w ko keys) (hK : keys.length = K) (hcap : K ≤ kcap) (hK2 : K ≤ 140737488355328) :
    Calls Try.prog 61 #[.slice ko K kcap] w fun e w' => e = .returned (.bool (rK keys K)) ∧ Below w.heap.size w w' := by
  have HK := Hid.mk hk
  have HKK := Hid.mk hK
  clear hk hK
  go_enter Try.func61, Try.ntmps61
  go_wp2_with fail
  go_loopw [3] (fun i wr => ∃ j : Nat, (j + 1 ≤ K ∨ K = 0 ∧ j = 0) ∧ i = .int .i64 ((j : Int) + 1) ∧ Hid (Below w.heap.size w wr) ∧ Hid (rK keys (j + 1) = true)) (fun i _ => K - (intOf i).toNat)
  case atStart => exact ⟨0, by omega, rfl, Below.refl _ _, rfl⟩
  case round =>
    obtain ⟨j, hk, rfl, HB, HQ⟩ := hrel
    by_cases hlt : j + 1 < K
    · have hl1 : (j : Int) + 1 < (K : Int) := by omega
      have hl2 : (j : Int) < (K : Int) := by omega
      have hj0 : (j : Int) + 1 - 1 = (j : Int) := by omega
      have z0 : (0 : Int) ≤ (j : Int) := by omega
      have z1 : (0 : Int) ≤ (j : Int) + 1 := by omega
      have wj : IntKind.i64.wrap (j : Int) = (j : Int) := by rw [IntKind.wrap_i64]; omega
      have hjw : IntKind.i64.wrap ((j : Int) + 1 - 1) = (j : Int) := by rw [IntKind.wrap_i64]; omega
      obtain ⟨b, off, hko, hbl, hrow⟩ := (HK.out.keep HB.out).row (by rw [HKK.out]; omega)
      subst hko
      have c0 := hrow j (by rw [HKK.out]; omega)
      have c1 := hrow (j + 1) (by rw [HKK.out]; omega)
      have HUp := Hid.mk (rK_up keys (j + 1))
      have HNo := Hid.mk (fun h => rK_no (keys := keys) (k := j + 1) hlt (by omega) h)
      unfold rA at HUp HNo
      rw [Nat.add_sub_cancel] at HUp HNo
      generalize keys.getD j ByteArray.empty = s at c0 HUp HNo
      generalize keys.getD (j + 1) ByteArray.empty = t at c1 HUp HNo
      clear hrow hbl
      cases hlss : Op.bytesLess s.toList t.toList with
      | true =>
        rw [hlss] at HUp
        have HN : Hid (rK keys (j + 1 + 1) = true) := by show _ = _; rw [HUp.out, HQ.out]; simp
        go_wp2_with fail
        go_quiet (fail)
        have HB2 : Hid (Below w.heap.size w (wr.drewN nq)) := ⟨HB.out.os, HB.out.tape, HB.out.output, HB.out.size, HB.out.block⟩
        go_wp2_with fail
        go_roundw
        case rel => exact ⟨j + 1, by omega, by go_num, HB2, HN⟩
        case measure => simp [intOf]; omega
      | false =>
        have HF := Hid.mk (HNo.out hlss)
        go_wp2_with fail
        go_quiet (fail)
        have HB2 : Hid (Below w.heap.size w (wr.drewN nq)) := ⟨HB.out.os, HB.out.tape, HB.out.output, HB.out.size, HB.out.block⟩
        go_wp2_with fail
        go_ret
        exact ⟨by rw [HF.out]; rfl, HB2.out⟩
    · have hl1 : ¬ (j : Int) + 1 < (K : Int) := by omega
      have HF : Hid (rK keys K = true) := by
        rcases hk with h | ⟨h, _⟩
        · have e : j + 1 = K := by omega
          rw [← e]; exact HQ
        · rw [h]; rfl
      go_wp2_with fail
      go_ret
      exact ⟨by rw [HF.out]; rfl, HB.out⟩
end Go.Proofs.Ythcohnnikmpjkaa
