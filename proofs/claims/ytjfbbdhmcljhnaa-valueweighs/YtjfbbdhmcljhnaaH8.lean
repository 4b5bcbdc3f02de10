import Derived.Test.YtjfbbdhmcljhnaaH7
import Derived.Test.YtjfbbdhmcljhnaaHA
namespace Go.Proofs.Ytjfbbdhmcljhnaa
open Go.RowKit
set_option linter.unusedVariables false
set_option linter.unusedSimpArgs false

def RwOk (h : Nat) : Prop := ∀ (T : VT) (v : Value) (w : World), InH w h T v → szN h T ≤ 10001 → formN h T = true → Calls Try.prog 18 #[v] w fun e w' => e = .returned (.int .i64 ((wtN h T : Nat) : Int)) ∧ Below w.heap.size w w'

set_option maxRecDepth 100000 in
set_option maxHeartbeats 3200000 in
theorem rweight_loop6 (h : Nat) (ih : RwOk h) (nm tx : ByteArray) (io : Option Addr) (N icap : Nat) (ko : Option Addr) (K kcap : Nat) (ts : List VT) (keys : List ByteArray) (w : World)
    (hi : IIn w h io ts) (hk : KIn w ko keys) (hN : ts.length = N) (hK : keys.length = K) (hcN : N ≤ icap) (hcK : K ≤ kcap) (hN2 : N ≤ 140737488355328) (hn : nm.size ≤ 140737488355328) (ht : tx.size ≤ 140737488355328) (hks : ∀ k ∈ keys, k.size ≤ 140737488355328) (h6 : (6 : Int) = 6 → K = N)
    (hsz : ∀ i, (hi : i < ts.length) → szN h ts[i] ≤ 10001) (hfo : ∀ i, (hi : i < ts.length) → formN h ts[i] = true) (g : Nat → Nat)
    (hg : ∀ i, (hi : i < ts.length) → g i = wtN h ts[i] + (if (6 : Int) = 6 then 1 + (keys.getD i .empty).size else 0)) (hG : 1 + nm.size + tx.size + sumL ((List.range N).map g) ≤ 9223372036854775807) :
    Calls Try.prog 18 #[.agg #[.int .i64 6, .string nm, .string tx, .slice io N icap, .slice ko K kcap]] w fun e w' => e = .returned (.int .i64 ((1 + nm.size + tx.size + sumL ((List.range N).map g) : Nat) : Int)) ∧ Below w.heap.size w w' := by
  have HX := Hid.mk (vbx_new w (.int .i64 6) (.string nm) (.string tx) (.slice io N icap) (.slice ko K kcap))
  have HI := Hid.mk (hi.keep HX.out.below)
  have HK := Hid.mk (hk.keep HX.out.below)
  have HIh := Hid.mk ih
  have HNN := Hid.mk hN
  have HKK := Hid.mk hK
  have HSZ := Hid.mk hsz
  have HFO := Hid.mk hfo
  have HG := Hid.mk hg
  have HGB := Hid.mk hG
  have HKS := Hid.mk hks
  have H6 := Hid.mk h6
  clear hi hk ih hN hK hsz hfo hg hG hks h6
  obtain ⟨W0, hW0⟩ : ∃ W0, W0 = w.alloc (.cells #[.int .i64 6, .string nm, .string tx, .slice io N icap, .slice ko K kcap] 25) := ⟨_, rfl⟩
  go_enter Try.func18, Try.ntmps18
  go_wp2_with fail
  rw [← hW0] at HX HI HK ⊢
  clear hW0
  go_loopw [3, 4] (fun dd i wr => ∃ (k : Nat), k ≤ N ∧ dd = .int .i64 ((1 + nm.size + tx.size + sumL ((List.range k).map g) : Nat) : Int) ∧ i = .int .i64 (k : Int) ∧ Hid (Below W0.heap.size W0 wr)) (fun _ i _ => N - (intOf i).toNat)
  case atStart => exact ⟨0, Nat.zero_le _, by simp [sumL], rfl, Below.refl _ _⟩
  case round =>
    obtain ⟨k, hk, rfl, rfl, HB⟩ := hrel
    have HXw := Hid.mk (HX.out.keep HB.out)
    have g0 := HXw.out.c0
    have g3 := HXw.out.c3
    have g4 := HXw.out.c4
    by_cases hlt : k < N
    · have hl1 : (k : Int) < (N : Int) := by omega
      have hkt : k < ts.length := by rw [HNN.out]; exact hlt
      obtain ⟨b, off, hio, hbl, hrow⟩ := (HI.out.keep HB.out).row (by omega)
      subst hio
      obtain ⟨v0, v1, v2, v3, v4, ⟨c0, c1, c2, c3, c4⟩, ht⟩ := hrow k hkt
      have HC := Hid.mk (HIh.out _ _ wr ht (HSZ.out k hkt) (HFO.out k hkt))
      have hup := sumR_up g k
      have hle := sumR_le g (show k + 1 ≤ N from hlt)
      have hgk := HG.out k hkt
      have hGB := HGB.out
      generalize hq : wtN h ts[k] = q at HC hgk
      obtain ⟨S', hS'⟩ : ∃ S', sumL ((List.range (k + 1)).map g) = S' := ⟨_, rfl⟩
      obtain ⟨S, hS⟩ : ∃ S, sumL ((List.range k).map g) = S := ⟨_, rfl⟩
      rw [hS', hS] at hup
      rw [hS'] at hle
      rw [hS]
      have HS' := Hid.mk hS'
      have hq1 : 1 + nm.size + tx.size + S + q ≤ 9223372036854775807 := by omega
      clear ht hrow hbl hq hS hS'
      rw [if_pos trivial] at hgk
      have hkk : k < keys.length := by rw [HKK.out, H6.out trivial]; exact hlt
      obtain ⟨kb, koff, hko, hkbl, hkrow⟩ := (HK.out.keep HB.out).row (by omega)
      subst hko
      have ck := hkrow k hkk
      have hkb2 : kb < wr.heap.size := hkbl
      generalize keys.getD k ByteArray.empty = kx at ck hgk
      have hlK : (k : Int) < (K : Int) := by have hKN : K = N := H6.out trivial
                                             omega
      have hfin : S' = S + q + 1 + kx.size := by omega
      have hq2 : 1 + nm.size + tx.size + S + q + 1 + kx.size ≤ 9223372036854775807 := by omega
      clear hgk hup hkrow hkk hkt hkbl
      go_wp2_with fail
      refine HC.out.mono ?_
      rintro e w2 ⟨rfl, hb2⟩
      have HB2 := Hid.mk (below_more HB.out hb2)
      have HX2 := Hid.mk (HXw.out.keep hb2)
      have ck2 := (hb2.cell (p := ⟨kb, koff + k, none⟩) hkb2).trans ck
      have k0 := HX2.out.c0
      have k4 := HX2.out.c4
      clear hb2 c0 c1 c2 c3 c4 HC g3 g0 g4 ck hkb2
      go_wp2_with fail
      go_roundw
      case rel => exact ⟨k + 1, hlt, by rw [HS'.out, hfin]; go_num, by go_num, HB2⟩
      case measure => simp [intOf]; omega
    · have hl1 : ¬ (k : Int) < (N : Int) := by omega
      have hkN : k = N := by omega
      subst hkN
      have hGB := HGB.out
      obtain ⟨S, hS⟩ : ∃ S, sumL ((List.range k).map g) = S := ⟨_, rfl⟩
      rw [hS] at hGB ⊢
      have HSS := Hid.mk hS
      clear hS
      go_wp2_with fail
      go_ret
      exact ⟨by rw [HSS.out]; go_num, HXw.out.below⟩
set_option maxRecDepth 100000 in
set_option maxHeartbeats 3200000 in
theorem rweight_loopN (h : Nat) (ih : RwOk h) (kd : Int) (hk3 : kd ≠ 3) (hk6 : kd ≠ 6) (nm tx : ByteArray) (io : Option Addr) (N icap : Nat) (ko : Option Addr) (K kcap : Nat) (ts : List VT) (keys : List ByteArray) (w : World)
    (hi : IIn w h io ts) (hk : KIn w ko keys) (hN : ts.length = N) (hK : keys.length = K) (hcN : N ≤ icap) (hcK : K ≤ kcap) (hN2 : N ≤ 140737488355328) (hn : nm.size ≤ 140737488355328) (ht : tx.size ≤ 140737488355328) (hks : ∀ k ∈ keys, k.size ≤ 140737488355328) (h6 : kd = 6 → K = N)
    (hsz : ∀ i, (hi : i < ts.length) → szN h ts[i] ≤ 10001) (hfo : ∀ i, (hi : i < ts.length) → formN h ts[i] = true) (g : Nat → Nat)
    (hg : ∀ i, (hi : i < ts.length) → g i = wtN h ts[i] + (if kd = 6 then 1 + (keys.getD i .empty).size else 0)) (hG : 1 + nm.size + tx.size + sumL ((List.range N).map g) ≤ 9223372036854775807) :
    Calls Try.prog 18 #[.agg #[.int .i64 kd, .string nm, .string tx, .slice io N icap, .slice ko K kcap]] w fun e w' => e = .returned (.int .i64 ((1 + nm.size + tx.size + sumL ((List.range N).map g) : Nat) : Int)) ∧ Below w.heap.size w w' := by
  have HX := Hid.mk (vbx_new w (.int .i64 kd) (.string nm) (.string tx) (.slice io N icap) (.slice ko K kcap))
  have HI := Hid.mk (hi.keep HX.out.below)
  have HK := Hid.mk (hk.keep HX.out.below)
  have HIh := Hid.mk ih
  have HNN := Hid.mk hN
  have HKK := Hid.mk hK
  have HSZ := Hid.mk hsz
  have HFO := Hid.mk hfo
  have HG := Hid.mk hg
  have HGB := Hid.mk hG
  have HKS := Hid.mk hks
  have H6 := Hid.mk h6
  clear hi hk ih hN hK hsz hfo hg hG hks h6
  obtain ⟨W0, hW0⟩ : ∃ W0, W0 = w.alloc (.cells #[.int .i64 kd, .string nm, .string tx, .slice io N icap, .slice ko K kcap] 25) := ⟨_, rfl⟩
  go_enter Try.func18, Try.ntmps18
  go_wp2_with fail
  rw [← hW0] at HX HI HK ⊢
  clear hW0
  go_loopw [3, 4] (fun dd i wr => ∃ (k : Nat), k ≤ N ∧ dd = .int .i64 ((1 + nm.size + tx.size + sumL ((List.range k).map g) : Nat) : Int) ∧ i = .int .i64 (k : Int) ∧ Hid (Below W0.heap.size W0 wr)) (fun _ i _ => N - (intOf i).toNat)
  case atStart => exact ⟨0, Nat.zero_le _, by simp [sumL], rfl, Below.refl _ _⟩
  case round =>
    obtain ⟨k, hk, rfl, rfl, HB⟩ := hrel
    have HXw := Hid.mk (HX.out.keep HB.out)
    have g0 := HXw.out.c0
    have g3 := HXw.out.c3
    have g4 := HXw.out.c4
    by_cases hlt : k < N
    · have hl1 : (k : Int) < (N : Int) := by omega
      have hkt : k < ts.length := by rw [HNN.out]; exact hlt
      obtain ⟨b, off, hio, hbl, hrow⟩ := (HI.out.keep HB.out).row (by omega)
      subst hio
      obtain ⟨v0, v1, v2, v3, v4, ⟨c0, c1, c2, c3, c4⟩, ht⟩ := hrow k hkt
      have HC := Hid.mk (HIh.out _ _ wr ht (HSZ.out k hkt) (HFO.out k hkt))
      have hup := sumR_up g k
      have hle := sumR_le g (show k + 1 ≤ N from hlt)
      have hgk := HG.out k hkt
      have hGB := HGB.out
      generalize hq : wtN h ts[k] = q at HC hgk
      obtain ⟨S', hS'⟩ : ∃ S', sumL ((List.range (k + 1)).map g) = S' := ⟨_, rfl⟩
      obtain ⟨S, hS⟩ : ∃ S, sumL ((List.range k).map g) = S := ⟨_, rfl⟩
      rw [hS', hS] at hup
      rw [hS'] at hle
      rw [hS]
      have HS' := Hid.mk hS'
      have hq1 : 1 + nm.size + tx.size + S + q ≤ 9223372036854775807 := by omega
      clear ht hrow hbl hq hS hS'
      rw [if_neg hk6] at hgk
      have hfin : S' = S + q := by omega
      clear hgk hup hkt
      go_wp2_with fail
      refine HC.out.mono ?_
      rintro e w2 ⟨rfl, hb2⟩
      have HB2 := Hid.mk (below_more HB.out hb2)
      have HX2 := Hid.mk (HXw.out.keep hb2)
      have k0 := HX2.out.c0
      clear hb2 c0 c1 c2 c3 c4 HC g3 g0 g4
      go_wp2_with fail
      go_roundw
      case rel => exact ⟨k + 1, hlt, by rw [HS'.out, hfin]; go_num, by go_num, HB2⟩
      case measure => simp [intOf]; omega
    · have hl1 : ¬ (k : Int) < (N : Int) := by omega
      have hkN : k = N := by omega
      subst hkN
      have hGB := HGB.out
      obtain ⟨S, hS⟩ : ∃ S, sumL ((List.range k).map g) = S := ⟨_, rfl⟩
      rw [hS] at hGB ⊢
      have HSS := Hid.mk hS
      clear hS
      go_wp2_with fail
      go_ret
      exact ⟨by rw [HSS.out]; go_num, HXw.out.below⟩

set_option maxRecDepth 100000 in
set_option maxHeartbeats 3200000 in
theorem rweight_num (nm tx : ByteArray) (io : Option Addr) (icap : Nat) (ko : Option Addr) (K kcap : Nat) (w : World) (hn : nm.size ≤ 140737488355328) (ht : tx.size ≤ 140737488355328) (h0 : 0 < nm.size) :
    Calls Try.prog 18 #[.agg #[.int .i64 3, .string nm, .string tx, .slice io 0 icap, .slice ko K kcap]] w fun e w' => e = .returned (.int .i64 ((1 + dgN nm + tx.size : Nat) : Int)) ∧ Below w.heap.size w w' := by
  have HX := Hid.mk (vbx_new w (.int .i64 3) (.string nm) (.string tx) (.slice io 0 icap) (.slice ko K kcap))
  have hl0 : (0 : Int) < (nm.size : Int) := by omega
  cases hneg : Pl.neg nm.data.toList with
  | true =>
    obtain ⟨_, h45⟩ := (neg_iff nm).1 hneg
    have hd : Hid (dgN nm + 1 = nm.size) := by
      show _ = _
      unfold dgN Pl.body
      rw [if_pos hneg, List.length_tail, sizeLn]; omega
    obtain ⟨d, hdd⟩ : ∃ d, dgN nm = d := ⟨_, rfl⟩
    rw [hdd] at hd ⊢
    have hsz : nm.size = d + 1 := hd.out.symm
    have HF : Hid (∀ z : Int, z = 1 + (nm.size : Int) + (tx.size : Int) - 1 → z = ((1 + d + tx.size : Nat) : Int)) := fun z hz => by omega
    clear hneg hd hdd hsz
    obtain ⟨W0, hW0⟩ : ∃ W0, W0 = w.alloc (.cells #[.int .i64 3, .string nm, .string tx, .slice io 0 icap, .slice ko K kcap] 25) := ⟨_, rfl⟩
    go_enter Try.func18, Try.ntmps18
    go_wp2_with fail
    rw [← hW0] at HX ⊢
    clear hW0
    go_loopw [3, 4] (fun dd i wr => dd = .int .i64 (1 + (nm.size : Int) + (tx.size : Int) - 1) ∧ i = .int .i64 0 ∧ wr = W0) (fun _ _ _ => 0)
    case atStart => exact ⟨rfl, rfl, rfl⟩
    case round =>
      obtain ⟨rfl, rfl, rfl⟩ := hrel
      have g3 := HX.out.c3
      go_wp2_with fail
      go_ret
      exact ⟨by rw [← HF.out _ rfl]; rfl, HX.out.below⟩
  | false =>
    have h45' : ¬ (nm[0]'h0 = 45) := fun e => by rw [(neg_iff nm).2 ⟨h0, e⟩] at hneg; cases hneg
    have h45 : ¬ (nm[0]'h0).toNat = 45 := fun e => h45' (UInt8.toNat_inj.1 (by rw [e]; rfl))
    have h45i : ((((nm[0]'h0).toNat : Nat) : Int) == 45) = false := by simp; omega
    have hd : Hid (dgN nm = nm.size) := by
      show _ = _
      unfold dgN Pl.body
      rw [if_neg (by rw [hneg]; simp), sizeLn]
    obtain ⟨d, hdd⟩ : ∃ d, dgN nm = d := ⟨_, rfl⟩
    rw [hdd] at hd ⊢
    have HF : Hid (∀ z : Int, z = 1 + (nm.size : Int) + (tx.size : Int) → z = ((1 + d + tx.size : Nat) : Int)) := fun z hz => by have := hd.out; omega
    clear hneg hd hdd h45'
    obtain ⟨W0, hW0⟩ : ∃ W0, W0 = w.alloc (.cells #[.int .i64 3, .string nm, .string tx, .slice io 0 icap, .slice ko K kcap] 25) := ⟨_, rfl⟩
    go_enter Try.func18, Try.ntmps18
    go_wp2_with fail
    rw [← hW0] at HX ⊢
    clear hW0
    go_loopw [3, 4] (fun dd i wr => dd = .int .i64 (1 + (nm.size : Int) + (tx.size : Int)) ∧ i = .int .i64 0 ∧ wr = W0) (fun _ _ _ => 0)
    case atStart => exact ⟨rfl, rfl, rfl⟩
    case round =>
      obtain ⟨rfl, rfl, rfl⟩ := hrel
      have g3 := HX.out.c3
      go_wp2_with fail
      go_ret
      exact ⟨by rw [← HF.out _ rfl]; rfl, HX.out.below⟩

/-- what a well shaped value is, by its kind -/
theorem form_flat {h : Nat} {T : VT} (hf : formN (h + 1) T = true) (hk : T.kind ≠ 5) (hk' : T.kind ≠ 6) : T.items.length = 0 ∧ T.keys.length = 0 := by
  unfold formN formV bareB at hf
  by_cases h0 : T.kind = 0 ∨ T.kind = 1 ∨ T.kind = 2
  · rw [if_pos h0] at hf
    simp only [Bool.and_eq_true, decide_eq_true_eq] at hf
    exact ⟨hf.1.2, hf.2⟩
  rw [if_neg h0] at hf
  by_cases h3 : T.kind = 3
  · rw [if_pos h3] at hf
    simp only [Bool.and_eq_true, decide_eq_true_eq] at hf
    exact ⟨hf.2.1.2, hf.2.2⟩
  rw [if_neg h3] at hf
  by_cases h4 : T.kind = 4
  · rw [if_pos h4] at hf
    simp only [Bool.and_eq_true, decide_eq_true_eq] at hf
    exact ⟨hf.2.1.2, hf.2.2⟩
  rw [if_neg h4, if_neg hk, if_neg hk'] at hf
  cases hf
theorem form_num {h : Nat} {T : VT} (hf : formN (h + 1) T = true) (hk : T.kind = 3) : Pl.formed T.num.data.toList = true := by
  unfold formN formV at hf
  rw [hk] at hf
  simp only [show ¬ ((3 : Int) = 0 ∨ (3 : Int) = 1 ∨ (3 : Int) = 2) by omega, if_false, if_true, Bool.and_eq_true] at hf
  exact hf.1
theorem emp_size {b : ByteArray} (h : b.toList.isEmpty = true) : b.size = 0 := by
  rw [Lib.toList_data, List.isEmpty_iff] at h
  rw [← sizeLn, h]; rfl
theorem form_empty {h : Nat} {T : VT} (hf : formN (h + 1) T = true) : (T.kind ≠ 3 → T.num.size = 0) ∧ (T.kind ≠ 4 → T.text.size = 0) ∧ (T.kind ≠ 6 → T.keys.length = 0) ∧ (T.kind = 6 → T.keys.length = T.items.length) := by
  unfold formN formV bareB at hf
  by_cases h0 : T.kind = 0 ∨ T.kind = 1 ∨ T.kind = 2
  · rw [if_pos h0] at hf
    simp only [Bool.and_eq_true, decide_eq_true_eq] at hf
    exact ⟨fun _ => emp_size hf.1.1.1, fun _ => emp_size hf.1.1.2, fun _ => hf.2, fun e => by omega⟩
  rw [if_neg h0] at hf
  by_cases h3 : T.kind = 3
  · rw [if_pos h3] at hf
    simp only [Bool.and_eq_true, decide_eq_true_eq] at hf
    exact ⟨fun e => absurd h3 e, fun _ => emp_size hf.2.1.1.2, fun _ => hf.2.2, fun e => by omega⟩
  rw [if_neg h3] at hf
  by_cases h4 : T.kind = 4
  · rw [if_pos h4] at hf
    simp only [Bool.and_eq_true, decide_eq_true_eq] at hf
    exact ⟨fun _ => emp_size hf.2.1.1.1, fun e => absurd h4 e, fun _ => hf.2.2, fun e => by omega⟩
  rw [if_neg h4] at hf
  by_cases h5 : T.kind = 5
  · rw [if_pos h5] at hf
    simp only [Bool.and_eq_true, decide_eq_true_eq] at hf
    exact ⟨fun _ => emp_size hf.2.1.1.1, fun _ => emp_size hf.2.1.1.2, fun _ => hf.2.2, fun e => by omega⟩
  rw [if_neg h5] at hf
  by_cases h6 : T.kind = 6
  · rw [if_pos h6] at hf
    simp only [Bool.and_eq_true, decide_eq_true_eq] at hf
    exact ⟨fun _ => emp_size hf.2.1.1.1, fun _ => emp_size hf.2.1.1.2, fun e => absurd h6 e, fun _ => hf.1.1.1⟩
  rw [if_neg h6] at hf
  cases hf
end Go.Proofs.Ytjfbbdhmcljhnaa
