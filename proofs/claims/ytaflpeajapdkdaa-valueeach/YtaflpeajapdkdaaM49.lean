import Derived.Test.YtaflpeajapdkdaaM20
namespace Go.Proofs.Ytaflpeajapdkdaa
open Go.RowKit
set_option linter.unusedVariables false
set_option linter.unusedSimpArgs false

theorem sum_take_le {α : Type} (f : α → Nat) (ts : List α) (k : Nat) : sumL ((ts.take k).map f) ≤ sumL (ts.map f) := by
  conv => rhs; rw [← List.take_append_drop k ts, List.map_append, sumL_append]
  omega
/-- what Parts answers -/
def PtX (h : Nat) (T : VT) (most : Int) (w w' : World) (e : Ending) : Prop := ∃ p : Int, e = .returned (.int .i64 p) ∧ 0 ≤ p ∧ p ≤ most + 140737488355329 ∧ ((p ≤ most → p = (szN h T : Int)) ∧ (most < p → most < (szN h T : Int))) ∧ Below w.heap.size w w'

set_option maxRecDepth 100000 in
set_option maxHeartbeats 3200000 in
theorem w_PartsX : ∀ (h : Nat) (T : VT) (v : Value) (w : World) (most : Int), InH w h T v → 0 ≤ most → most ≤ 10000 → Calls Try.prog 16 #[v, .int .i64 most] w fun e w' => PtX h T most w w' e := by
  intro h
  induction h with
  | zero => intro T v w most hI; exact hI.elim
  | succ h ih =>
    intro T v w most hI h0 h1
    obtain ⟨io, icap, ko, kcap, rfl, a1, a2, a3, a4, a5, a6, a7, hk, hi⟩ := hI.open
    have HX := Hid.mk (vbx_new w (.int .i64 T.kind) (.string T.num) (.string T.text) (.slice io T.items.length icap) (.slice ko T.keys.length kcap))
    have HI := Hid.mk (hi.keep HX.out.below)
    have HIh := Hid.mk ih
    have HSZ : Hid (szN (h + 1) T = 1 + T.keys.length + sumL (T.items.map (szN h))) := rfl
    unfold PtX
    generalize szN (h + 1) T = SZ at HSZ ⊢
    generalize T.kind = kd at *
    generalize T.num = nm at *
    generalize T.text = tx at *
    obtain ⟨ts, hts⟩ : ∃ ts, T.items = ts := ⟨_, rfl⟩
    rw [hts] at HI HX a3 a5 HSZ ⊢
    obtain ⟨N, hN⟩ : ∃ N, ts.length = N := ⟨_, rfl⟩
    have HNN := Hid.mk hN
    rw [hN] at HX HI a3 a5 ⊢
    obtain ⟨K, hK⟩ : ∃ K, T.keys.length = K := ⟨_, rfl⟩
    rw [hK] at HX HI a4 a6 HSZ ⊢
    clear hi hk hI ih a7 hts hN hK
    obtain ⟨W0, hW0⟩ : ∃ W0, W0 = w.alloc (.cells #[.int .i64 kd, .string nm, .string tx, .slice io N icap, .slice ko K kcap] 25) := ⟨_, rfl⟩
    go_enter Try.func16, Try.ntmps16
    go_wp2_with fail
    rw [← hW0] at HX HI ⊢
    clear hW0
    go_loopw [5, 6] (fun nn i wr => ∃ (n : Int) (k : Nat), 0 ≤ n ∧ n ≤ most + 140737488355329 ∧ k ≤ N ∧ nn = .int .i64 n ∧ i = .int .i64 (k : Int) ∧ Hid (Below W0.heap.size W0 wr) ∧ Hid ((n ≤ most → n = 1 + (K : Int) + ((sumL ((ts.take k).map (szN h)) : Nat) : Int)) ∧ (most < n → most < 1 + (K : Int) + ((sumL ((ts.take k).map (szN h)) : Nat) : Int)))) (fun _ i _ => N - (intOf i).toNat)
    case atStart => exact ⟨1 + (K : Int), 0, by omega, by omega, Nat.zero_le _, rfl, rfl, Below.refl _ _, fun _ => by simp [sumL], fun hh => by simp [sumL]; omega⟩
    case round =>
      obtain ⟨n, k, hn0, hn1, hk, rfl, rfl, HB, HS⟩ := hrel
      have HXw := Hid.mk (HX.out.keep HB.out)
      have g3 := HXw.out.c3
      have g4 := HXw.out.c4
      by_cases hlt : k < N
      · have hl1 : (k : Int) < (N : Int) := by omega
        by_cases hm : n ≤ most
        · obtain ⟨b, off, hio, hbl, hrow⟩ := (HI.out.keep HB.out).row (by rw [HNN.out]; omega)
          subst hio
          have hkt : k < ts.length := by rw [HNN.out]; exact hlt
          obtain ⟨v0, v1, v2, v3, v4, ⟨c0, c1, c2, c3, c4⟩, ht⟩ := hrow k hkt
          have HC := Hid.mk (HIh.out _ _ wr (most - n) ht (by omega) (by omega))
          unfold PtX at HC
          have HU := Hid.mk (sum_take_up (szN h) hkt)
          clear ht hrow hbl
          go_wp2_with fail
          refine HC.out.mono ?_
          rintro e w2 ⟨p, rfl, hp0, hp1, hp2, hb2⟩
          have HB2 := Hid.mk (below_more HB.out hb2)
          have HS2 : Hid ((n + p ≤ most → n + p = 1 + (K : Int) + ((sumL ((ts.take (k + 1)).map (szN h)) : Nat) : Int)) ∧ (most < n + p → most < 1 + (K : Int) + ((sumL ((ts.take (k + 1)).map (szN h)) : Nat) : Int))) := by
            have e2 := HS.out.1 hm
            have e3 := HU.out
            refine ⟨fun hle => ?_, fun hle => ?_⟩
            · have e1 := hp2.1 (by omega)
              omega
            · have e1 := hp2.2 (by omega)
              omega
          clear hb2 c0 c1 c2 c3 c4 HC g3 g4 hp2 HU hkt
          go_wp2_with fail
          go_roundw
          case rel => exact ⟨n + p, k + 1, by omega, by omega, hlt, by go_num, by go_num, HB2, HS2⟩
          case measure => simp [intOf]; omega
        · have hm1 : ¬ n ≤ most := hm
          have HF0 : Hid ((n ≤ most → n = (SZ : Int)) ∧ (most < n → most < (SZ : Int))) := by
            refine ⟨fun hh => by omega, fun hh => ?_⟩
            have e1 := HS.out.2 (by omega)
            have e2 := sum_take_le (szN h) ts k
            have e3 := HSZ.out
            omega
          go_wp2_with fail
          go_ret
          exact ⟨n, rfl, hn0, hn1, HF0.out, HXw.out.below⟩
      · have hl1 : ¬ (k : Int) < (N : Int) := by omega
        have HF : Hid ((n ≤ most → n = (SZ : Int)) ∧ (most < n → most < (SZ : Int))) := by
          have e2 := HNN.out
          have hkN : k = ts.length := by omega
          have e3 := HSZ.out
          refine ⟨fun hh => ?_, fun hh => ?_⟩
          · have e1 := HS.out.1 hh
            rw [hkN, List.take_length] at e1
            omega
          · have e1 := HS.out.2 hh
            rw [hkN, List.take_length] at e1
            omega
        go_wp2_with fail
        go_ret
        exact ⟨n, rfl, hn0, hn1, HF.out, HXw.out.below⟩

set_option maxRecDepth 100000 in
set_option maxHeartbeats 800000 in
theorem w_smallX (h : Nat) (T : VT) (v : Value) (w : World) (hI : InH w h T v) : Calls Try.prog 5 #[v] w fun e w' => e = .returned (.bool (decide (szN h T ≤ 10000))) ∧ Below w.heap.size w w' := by
  cases h with
  | zero => exact hI.elim
  | succ h =>
    have hP := fun u hu => w_PartsX (h + 1) T v u 10000 (hI.keep hu) (by omega) (by omega)
    obtain ⟨io, icap, ko, kcap, rfl, a1, a2, a3, a4, a5, a6, a7, hk, hi⟩ := hI.open
    have HX := Hid.mk (vbx_new w (.int .i64 T.kind) (.string T.num) (.string T.text) (.slice io T.items.length icap) (.slice ko T.keys.length kcap))
    have HC := Hid.mk (hP _ HX.out.below)
    unfold PtX at HC
    clear hP hi hk hI a7
    go_enter Try.func5, Try.ntmps5
    go_wp2_with fail
    refine HC.out.mono ?_
    rintro e w2 ⟨p, rfl, hp0, hp1, hp2, hb2⟩
    have HB2 := Hid.mk (HX.out.keep hb2).below
    have HP2 := Hid.mk hp2
    clear hb2 HC hp2
    go_wp2_with fail
    go_ret
    refine ⟨?_, HB2.out⟩
    have : decide (p ≤ 10000) = decide (szN (h + 1) T ≤ 10000) := by
      by_cases hh : p ≤ 10000
      · have := HP2.out.1 hh
        rw [decide_eq_true hh, decide_eq_true (by omega)]
      · have := HP2.out.2 (by omega)
        rw [decide_eq_false hh, decide_eq_false (by omega)]
    rw [← this]
    first | rfl | simp
end Go.Proofs.Ytaflpeajapdkdaa
