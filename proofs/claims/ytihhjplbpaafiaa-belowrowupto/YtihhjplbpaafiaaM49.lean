import Derived.Test.YtihhjplbpaafiaaM17
namespace Go.Proofs.Ytihhjplbpaafiaa
open Go.RowKit
set_option linter.unusedVariables false
set_option linter.unusedSimpArgs false

theorem sum_take_up {α : Type} (f : α → Nat) {ts : List α} {k : Nat} (hk : k < ts.length) : sumL ((ts.take (k + 1)).map f) = sumL ((ts.take k).map f) + f ts[k] := by
  rw [List.take_add_one, List.getElem?_eq_getElem hk, List.map_append, sumL_append]
  simp [sumL]

/-- what Parts answers, where it isn't cut short -/
def PtE (h : Nat) (T : VT) (most : Int) (w w' : World) (e : Ending) : Prop := ∃ p : Int, e = .returned (.int .i64 p) ∧ 0 ≤ p ∧ p ≤ most + 140737488355329 ∧ (p ≤ most → p = (szN h T : Int)) ∧ Below w.heap.size w w'
end Go.Proofs.Ytihhjplbpaafiaa
namespace Go.Proofs.Ytihhjplbpaafiaa
open Go.RowKit
set_option linter.unusedVariables false
set_option linter.unusedSimpArgs false

theorem sum_take_le {α : Type} (f : α → Nat) (ts : List α) (k : Nat) : sumL ((ts.take k).map f) ≤ sumL (ts.map f) := by
  conv => rhs; rw [← List.take_append_drop k ts, List.map_append, sumL_append]
  omega
/-- what Parts answers -/
def PtX (h : Nat) (T : VT) (most : Int) (w w' : World) (e : Ending) : Prop := ∃ p : Int, e = .returned (.int .i64 p) ∧ 0 ≤ p ∧ p ≤ most + 140737488355329 ∧ ((p ≤ most → p = (szN h T : Int)) ∧ (most < p → most < (szN h T : Int))) ∧ Below w.heap.size w w'
end Go.Proofs.Ytihhjplbpaafiaa
namespace Go.Proofs.Ytihhjplbpaafiaa
open Go.RowKit
set_option linter.unusedVariables false
set_option linter.unusedSimpArgs false

/-- what the kit's PartsOf answers -/
def PtK (h : Nat) (T : VT) (most : Int) (w w' : World) (e : Ending) : Prop := ∃ p : Int, e = .returned (.int .i64 p) ∧ 0 ≤ p ∧ p ≤ most + (most + 1) * 140737488355329 ∧ ((p ≤ most → p = (szN h T : Int)) ∧ (most < p → most < (szN h T : Int))) ∧ Below w.heap.size w w'

set_option maxRecDepth 100000 in
set_option maxHeartbeats 3200000 in
theorem w_PartsK : ∀ (h : Nat) (T : VT) (v : Value) (w : World) (most : Int), InH w h T v → 0 ≤ most → most ≤ 20000 → Calls Try.prog 24 #[v, .int .i64 most] w fun e w' => PtK h T most w w' e := by
  intro h
  induction h with
  | zero => intro T v w most hI; exact hI.elim
  | succ h ih =>
    intro T v w most hI h0 h1
    obtain ⟨io, icap, ko, kcap, rfl, a1, a2, a3, a4, a5, a6, a7, hk, hi⟩ := hI.open
    have HX := Hid.mk (vbx_new w (.int .i64 T.kind) (.string T.num) (.string T.text) (.slice io T.items.length icap) (.slice ko T.keys.length kcap))
    have HI := Hid.mk (hi.keep HX.out.below)
    have HIh := Hid.mk ih
    have HSZ : Hid (szN (h + 1) T = 1 + T.keys.length + sumL (T.items.map (szN h))) := rfl
    unfold PtK
    generalize szN (h + 1) T = SZ at HSZ ⊢
    generalize T.kind = kd at *
    generalize T.num = nm at *
    generalize T.text = tx at *
    obtain ⟨ts, hts⟩ : ∃ ts, T.items = ts := ⟨_, rfl⟩
    rw [hts] at HI HX a3 a5 HSZ ⊢
    obtain ⟨N, hN⟩ : ∃ N, ts.length = N := ⟨_, rfl⟩
    have HNN := Hid.mk hN
    rw [hN] at HX HI a3 a5 ⊢
    obtain ⟨K, hK⟩ : ∃ K, T.keys.length = K := ⟨_, rfl⟩
    rw [hK] at HX HI a4 a6 HSZ ⊢
    clear hi hk hI ih a7 hts hN hK
    obtain ⟨W0, hW0⟩ : ∃ W0, W0 = w.alloc (.cells #[.int .i64 kd, .string nm, .string tx, .slice io N icap, .slice ko K kcap] 33) := ⟨_, rfl⟩
    go_enter Try.func24, Try.ntmps24
    go_wp2_with fail
    rw [← hW0] at HX HI ⊢
    clear hW0
    go_loopw [5, 6] (fun nn i wr => ∃ (n : Int) (k : Nat), 1 ≤ n ∧ n ≤ most + most * 140737488355329 + 1 ∧ k ≤ N ∧ nn = .int .i64 n ∧ i = .int .i64 (k : Int) ∧ Hid (Below W0.heap.size W0 wr) ∧ Hid ((n ≤ most → n = 1 + ((sumL ((ts.take k).map (szN h)) : Nat) : Int)) ∧ (most < n → most < 1 + ((sumL ((ts.take k).map (szN h)) : Nat) : Int)))) (fun _ i _ => N - (intOf i).toNat)
    case atStart => exact ⟨1, 0, by omega, by omega, Nat.zero_le _, rfl, rfl, Below.refl _ _, fun _ => by simp [sumL], fun hh => by simp [sumL]; omega⟩
    case round =>
      obtain ⟨n, k, hn0, hn1, hk, rfl, rfl, HB, HS⟩ := hrel
      have HXw := Hid.mk (HX.out.keep HB.out)
      have g3 := HXw.out.c3
      have g4 := HXw.out.c4
      by_cases hlt : k < N
      · have hl1 : (k : Int) < (N : Int) := by omega
        by_cases hm : n ≤ most
        · obtain ⟨b, off, hio, hbl, hrow⟩ := (HI.out.keep HB.out).row (by rw [HNN.out]; omega)
          subst hio
          have hkt : k < ts.length := by rw [HNN.out]; exact hlt
          obtain ⟨v0, v1, v2, v3, v4, ⟨c0, c1, c2, c3, c4⟩, ht⟩ := hrow k hkt
          have HC := Hid.mk (HIh.out _ _ wr (most - n) ht (by omega) (by omega))
          unfold PtK at HC
          have HU := Hid.mk (sum_take_up (szN h) hkt)
          clear ht hrow hbl
          go_wp2_with fail
          refine HC.out.mono ?_
          rintro e w2 ⟨p, rfl, hp0, hp1, hp2, hb2⟩
          have HB2 := Hid.mk (below_more HB.out hb2)
          have HS2 : Hid ((n + p ≤ most → n + p = 1 + ((sumL ((ts.take (k + 1)).map (szN h)) : Nat) : Int)) ∧ (most < n + p → most < 1 + ((sumL ((ts.take (k + 1)).map (szN h)) : Nat) : Int))) := by
            have e2 := HS.out.1 hm
            have e3 := HU.out
            refine ⟨fun hle => ?_, fun hle => ?_⟩
            · have e1 := hp2.1 (by omega)
              omega
            · have e1 := hp2.2 (by omega)
              omega
          have hpb : n + p ≤ most + most * 140737488355329 + 1 := by omega
          clear hb2 c0 c1 c2 c3 c4 HC g3 g4 hp2 HU hkt
          go_wp2_with fail
          go_roundw
          case rel => exact ⟨n + p, k + 1, by omega, hpb, hlt, by go_num, by go_num, HB2, HS2⟩
          case measure => simp [intOf]; omega
        · have hm1 : ¬ n ≤ most := hm
          have HF0 : Hid ((n + (K : Int) ≤ most → n + (K : Int) = (SZ : Int)) ∧ (most < n + (K : Int) → most < (SZ : Int))) := by
            refine ⟨fun hh => by omega, fun hh => ?_⟩
            have e1 := HS.out.2 (by omega)
            have e2 := sum_take_le (szN h) ts k
            have e3 := HSZ.out
            omega
          go_wp2_with fail
          go_ret
          exact ⟨n + (K : Int), by go_num, by omega, by omega, HF0.out, HXw.out.below⟩
      · have hl1 : ¬ (k : Int) < (N : Int) := by omega
        have HF : Hid ((n + (K : Int) ≤ most → n + (K : Int) = (SZ : Int)) ∧ (most < n + (K : Int) → most < (SZ : Int))) := by
          have e2 := HNN.out
          have hkN : k = ts.length := by omega
          have e3 := HSZ.out
          by_cases hm : n ≤ most
          · have e1 := HS.out.1 hm
            rw [hkN, List.take_length] at e1
            refine ⟨fun hh => ?_, fun hh => ?_⟩ <;> omega
          · have e1 := HS.out.2 (by omega)
            rw [hkN, List.take_length] at e1
            refine ⟨fun hh => ?_, fun hh => ?_⟩ <;> omega
        go_wp2_with fail
        go_ret
        exact ⟨n + (K : Int), by go_num, by omega, by omega, HF.out, HXw.out.below⟩

set_option maxRecDepth 100000 in
set_option maxHeartbeats 1600000 in
theorem w_Fit (h : Nat) (io : Option Addr) (N icap : Nat) (ts : List VT) (w : World) (hts : ts.length = N) (hI : IIn w h io ts) (hN : N ≤ icap) (hN2 : N ≤ 140737488355328) :
    Calls Try.prog 10 #[.slice io N icap] w fun e w' => e = .returned (.bool (decide (sumL (ts.map (szN h)) ≤ 20000))) ∧ Below w.heap.size w w' := by
  have HNN := Hid.mk hts
  have HI := Hid.mk hI
  obtain ⟨SM, hSM⟩ : ∃ SM, sumL (ts.map (szN h)) = SM := ⟨_, rfl⟩
  have HSM := Hid.mk hSM
  rw [hSM]
  clear hts hI hSM
  go_enter Try.func10, Try.ntmps10
  go_wp2_with fail
  go_loopw [3, 4] (fun nn i wr => ∃ (n : Int) (k : Nat), 0 ≤ n ∧ n ≤ 20000 ∧ k ≤ N ∧ nn = .int .i64 n ∧ i = .int .i64 (k : Int) ∧ Hid (Below w.heap.size w wr) ∧ Hid (n = ((sumL ((ts.take k).map (szN h)) : Nat) : Int))) (fun _ i _ => N - (intOf i).toNat)
  case atStart => exact ⟨0, 0, by omega, by omega, Nat.zero_le _, rfl, rfl, Below.refl _ _, by show _ = _; simp [sumL]⟩
  case round =>
    obtain ⟨n, k, hn0, hn1, hk, rfl, rfl, HB, HS⟩ := hrel
    by_cases hlt : k < N
    · have hl1 : (k : Int) < (N : Int) := by omega
      obtain ⟨b, off, hio, hbl, hrow⟩ := (HI.out.keep HB.out).row (by rw [HNN.out]; omega)
      subst hio
      have hkt : k < ts.length := by rw [HNN.out]; exact hlt
      obtain ⟨v0, v1, v2, v3, v4, ⟨c0, c1, c2, c3, c4⟩, ht⟩ := hrow k hkt
      have HC := Hid.mk (w_PartsK _ _ _ wr (20000 - n) ht (by omega) (by omega))
      unfold PtK at HC
      have HU := Hid.mk (sum_take_up (szN h) hkt)
      have hle := sum_take_le (szN h) ts (k + 1)
      have HLe := Hid.mk hle
      clear ht hrow hbl hle
      go_wp2_with fail
      refine HC.out.mono ?_
      rintro e w2 ⟨p, rfl, hp0, hp1, hp2, hb2⟩
      have HB2 := Hid.mk (HB.out.trans (hb2.mono HB.out.size))
      have HP2 := Hid.mk hp2
      clear hb2 c0 c1 c2 c3 c4 HC hp2
      by_cases hgt : n + p ≤ 20000
      · have hg1 : ¬ 20000 < n + p := by omega
        have HS2 : Hid (n + p = ((sumL ((ts.take (k + 1)).map (szN h)) : Nat) : Int)) := by
          have e1 := HP2.out.1 (by omega)
          have e2 := HS.out
          have e3 := HU.out
          show _ = _
          omega
        go_wp2_with fail
        go_roundw
        case rel => exact ⟨n + p, k + 1, by omega, by omega, hlt, by go_num, by go_num, HB2, HS2⟩
        case measure => simp [intOf]; omega
      · have hg1 : 20000 < n + p := by omega
        have HF : Hid (decide (SM ≤ 20000) = false) := by
          have e1 := HP2.out.2 (by omega)
          have e2 := HS.out
          have e3 := HU.out
          have e4 := HLe.out
          have e5 := HSM.out
          show _ = _
          rw [decide_eq_false_iff_not]
          omega
        go_wp2_with fail
        go_ret
        exact ⟨by rw [HF.out]; rfl, HB2.out⟩
    · have hl1 : ¬ (k : Int) < (N : Int) := by omega
      have HF : Hid (decide (SM ≤ 20000) = true) := by
        have e2 := HNN.out
        have hkN : k = ts.length := by omega
        have e3 := HS.out
        rw [hkN, List.take_length, HSM.out] at e3
        show _ = _
        rw [decide_eq_true_iff]
        omega
      go_wp2_with fail
      go_ret
      exact ⟨by rw [HF.out]; rfl, HB.out⟩

theorem iin_one {W : World} {h b : Nat} {T : VT} {v0 v1 v2 v3 v4 : Value} (hb : W.heap[b]? = some (.cells #[v0, v1, v2, v3, v4] 33 (0, 0))) (hI : InH W h T (.agg #[v0, v1, v2, v3, v4])) : IIn W h (some ⟨b, 0, none⟩) [T] := by
  refine ⟨fun _ => ⟨b, 0, rfl, (Array.getElem?_eq_some_iff.1 hb).1, fun i hi => ?_⟩⟩
  obtain rfl : i = 0 := by simpa using hi
  exact ⟨v0, v1, v2, v3, v4, ⟨by rw [Lib.cell_of_heap hb]; rfl, by rw [Lib.cell_of_heap hb]; rfl, by rw [Lib.cell_of_heap hb]; rfl, by rw [Lib.cell_of_heap hb]; rfl, by rw [Lib.cell_of_heap hb]; rfl⟩, hI⟩
end Go.Proofs.Ytihhjplbpaafiaa
