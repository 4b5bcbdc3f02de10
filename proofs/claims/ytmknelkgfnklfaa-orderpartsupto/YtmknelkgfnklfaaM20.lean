import Derived.Test.YtmknelkgfnklfaaM13
import Derived.Test.YtmknelkgfnklfaaM18
import Derived.Test.YtmknelkgfnklfaaM19
import Derived.BigQuiet
import Derived.Lib.QuietBelow
namespace Go.Proofs.Ytmknelkgfnklfaa
open Go.RowKit Go.Shelf Go.Sort
set_option linter.unusedVariables false
set_option linter.unusedSimpArgs false
attribute [local go_sem] Oper.semAt_some

set_option maxRecDepth 100000 in
set_option maxHeartbeats 3200000 in
theorem w_oFormed (h : Nat) (io : Option Addr) (N icap : Nat) (ts : List VT) (w : World) (hi : IIn w h io ts) (hN : ts.length = N) (hcap : N ≤ icap) (hN2 : N ≤ 140737488355328) :
    Calls Try.prog 32 #[.slice io N icap] w fun e w' => e = .returned (.bool (ts.all (formN h))) ∧ Below w.heap.size w w' := by
  have HI := Hid.mk hi
  have HNN := Hid.mk hN
  have HIh := Hid.mk (w_vFormed h)
  clear hi hN
  go_enter Try.func32, Try.ntmps32
  go_wp2_with fail
  go_loopw [7] (fun i wr => ∃ k : Nat, k ≤ N ∧ i = .int .i64 (k : Int) ∧ Hid (Below w.heap.size w wr) ∧ Hid ((ts.take k).all (formN h) = true)) (fun i _ => N - (intOf i).toNat)
  case atStart => exact ⟨0, Nat.zero_le _, rfl, Below.refl _ _, rfl⟩
  case round =>
    obtain ⟨k, hk, rfl, HB, HQ⟩ := hrel
    by_cases hlt : k < N
    · have hl1 : (k : Int) < (N : Int) := by omega
      have hkl : k < ts.length := by rw [HNN.out]; exact hlt
      obtain ⟨b, off, hio, hbl, hrow⟩ := (HI.out.keep HB.out).row (by omega)
      subst hio
      obtain ⟨v0, v1, v2, v3, v4, ⟨c0, c1, c2, c3, c4⟩, ht⟩ := hrow k hkl
      obtain ⟨ik, inm, itx, iio, iN, iicap, iko, iK, ikcap, rfl, rfl, rfl, rfl, rfl⟩ := ht.shape
      have HBx := Hid.mk (below1 wr (.cells #[.int .i64 ik, .string inm, .string itx, .slice iio iN iicap, .slice iko iK ikcap] 25))
      have HC := Hid.mk (HIh.out _ _ (wr.alloc (.cells #[.int .i64 ik, .string inm, .string itx, .slice iio iN iicap, .slice iko iK ikcap] 25)) (ht.keep HBx.out))
      have HUp := Hid.mk (all_up (f := formN h) hkl)
      have HNo := Hid.mk (fun hh => all_no (f := formN h) hkl hh)
      clear hrow hbl ht
      cases hf : formN h ts[k] with
      | true =>
        rw [hf] at HC
        have HN : Hid ((ts.take (k + 1)).all (formN h) = true) := by show _ = _; rw [HUp.out, HQ.out, hf]; rfl
        clear hf hkl HUp HNo
        go_wp2_with fail
        refine HC.out.mono ?_
        rintro e w2 ⟨rfl, hb2⟩
        have HB2 := Hid.mk (HB.out.trans ((below_more HBx.out hb2).mono HB.out.size))
        clear hb2 c0 c1 c2 c3 c4
        go_wp2_with fail
        go_roundw
        case rel => exact ⟨k + 1, hlt, by go_num, HB2, HN⟩
        case measure => simp [intOf]; omega
      | false =>
        rw [hf] at HC
        have HF := Hid.mk (HNo.out hf)
        clear hf hkl HUp HNo
        go_wp2_with fail
        refine HC.out.mono ?_
        rintro e w2 ⟨rfl, hb2⟩
        have HB2 := Hid.mk (HB.out.trans ((below_more HBx.out hb2).mono HB.out.size))
        clear hb2 c0 c1 c2 c3 c4
        go_wp2_with fail
        go_ret
        exact ⟨by rw [HF.out]; rfl, HB2.out⟩
    · have hl1 : ¬ (k : Int) < (N : Int) := by omega
      have HF : Hid (ts.all (formN h) = true) := by
        have h1 := HQ.out
        rw [List.take_of_length_le (by rw [HNN.out]; omega)] at h1
        exact h1
      go_wp2_with fail
      go_ret
      exact ⟨by rw [HF.out]; rfl, HB.out⟩



set_option maxRecDepth 100000 in
set_option maxHeartbeats 3200000 in
theorem w_Least1 (h : Nat) (A B : VT) (a0 a1 a2 a3 a4 b0 b1 b2 b3 b4 : Value) (w : World) (hA : InH w h A (.agg #[a0, a1, a2, a3, a4])) (hB : InH w h B (.agg #[b0, b1, b2, b3, b4])) :
    Calls Try.prog 38 #[.agg #[a0, a1, a2, a3, a4], .agg #[b0, b1, b2, b3, b4]] w fun e w' => e = .returned (.bool (decide (cmpH h A B < 0))) ∧ Below w.heap.size w w' := by
  obtain ⟨ik, inm, itx, iio, iN, iicap, iko, iK, ikcap, rfl, rfl, rfl, rfl, rfl⟩ := hA.shape
  obtain ⟨jk, jnm, jtx, jio, jN, jicap, jko, jK, jkcap, rfl, rfl, rfl, rfl, rfl⟩ := hB.shape
  have HBx := Hid.mk (below2 w (.cells #[.int .i64 ik, .string inm, .string itx, .slice iio iN iicap, .slice iko iK ikcap] 25) (.cells #[.int .i64 jk, .string jnm, .string jtx, .slice jio jN jicap, .slice jko jK jkcap] 25))
  have HC := Hid.mk (w_vCmp h A B _ _ _ (hA.keep HBx.out) (hB.keep HBx.out))
  generalize cmpH h A B = c at *
  clear hA hB
  go_enter Try.func38, Try.ntmps38
  go_wp2_with fail
  refine HC.out.mono ?_
  rintro e w2 ⟨rfl, hb2⟩
  have HB2 := Hid.mk (below_more HBx.out hb2)
  clear hb2
  go_wp2_with fail
  go_ret
  exact ⟨by first | rfl | simp, HB2.out⟩


set_option maxRecDepth 100000 in
set_option maxHeartbeats 3200000 in
theorem w_Greatest1 (h : Nat) (A B : VT) (a0 a1 a2 a3 a4 b0 b1 b2 b3 b4 : Value) (w : World) (hA : InH w h A (.agg #[a0, a1, a2, a3, a4])) (hB : InH w h B (.agg #[b0, b1, b2, b3, b4])) :
    Calls Try.prog 39 #[.agg #[a0, a1, a2, a3, a4], .agg #[b0, b1, b2, b3, b4]] w fun e w' => e = .returned (.bool (decide (0 ≤ cmpH h A B))) ∧ Below w.heap.size w w' := by
  obtain ⟨ik, inm, itx, iio, iN, iicap, iko, iK, ikcap, rfl, rfl, rfl, rfl, rfl⟩ := hA.shape
  obtain ⟨jk, jnm, jtx, jio, jN, jicap, jko, jK, jkcap, rfl, rfl, rfl, rfl, rfl⟩ := hB.shape
  have HBx := Hid.mk (below2 w (.cells #[.int .i64 ik, .string inm, .string itx, .slice iio iN iicap, .slice iko iK ikcap] 25) (.cells #[.int .i64 jk, .string jnm, .string jtx, .slice jio jN jicap, .slice jko jK jkcap] 25))
  have HC := Hid.mk (w_vCmp h A B _ _ _ (hA.keep HBx.out) (hB.keep HBx.out))
  generalize cmpH h A B = c at *
  clear hA hB
  go_enter Try.func39, Try.ntmps39
  go_wp2_with fail
  refine HC.out.mono ?_
  rintro e w2 ⟨rfl, hb2⟩
  have HB2 := Hid.mk (below_more HBx.out hb2)
  clear hb2
  go_wp2_with fail
  go_ret
  exact ⟨by first | rfl | simp, HB2.out⟩
end Go.Proofs.Ytmknelkgfnklfaa
namespace Go.Proofs.Ytmknelkgfnklfaa
open Go.RowKit Go.Shelf Go.Sort
set_option linter.unusedVariables false
set_option linter.unusedSimpArgs false
attribute [local go_sem] Oper.semAt_some

/-- a row rises -/
def risB (c : Nat → Nat → Int) (n : Nat) : Bool := (List.range (n - 1)).all fun j => decide (0 ≤ c (j + 1) j)
theorem risB_true {c : Nat → Nat → Int} {n : Nat} (h : ∀ j, j + 1 < n → 0 ≤ c (j + 1) j) : risB c n = true := by
  unfold risB
  rw [List.all_eq_true]
  intro j hj
  exact decide_eq_true (h j (by have := List.mem_range.1 hj; omega))
theorem risB_false {c : Nat → Nat → Int} {n j : Nat} (hj : j + 1 < n) (h : c (j + 1) j < 0) : risB c n = false := by
  unfold risB
  rw [List.all_eq_false]
  exact ⟨j, List.mem_range.2 (by omega), by simp; omega⟩

/-- an item's five cells and its tree -/
theorem item_at {w : World} {h : Nat} {b off : Nat} {ts : List VT} (hrow : ∀ i, (hi : i < ts.length) → ∃ v0 v1 v2 v3 v4 : Value,
        (w.cell? ⟨b, off + i * 5, none⟩ = some v0 ∧ w.cell? ⟨b, off + i * 5 + 1, none⟩ = some v1 ∧ w.cell? ⟨b, off + i * 5 + 2, none⟩ = some v2 ∧ w.cell? ⟨b, off + i * 5 + 3, none⟩ = some v3 ∧ w.cell? ⟨b, off + i * 5 + 4, none⟩ = some v4) ∧ InH w h ts[i] (.agg #[v0, v1, v2, v3, v4])) {i : Nat} (hi : i < ts.length) :
    ∃ (k : Int) (n t : ByteArray) (io : Option Addr) (N icap : Nat) (ko : Option Addr) (K kcap : Nat), (w.cell? ⟨b, off + i * 5, none⟩ = some (.int .i64 k) ∧ w.cell? ⟨b, off + i * 5 + 1, none⟩ = some (.string n) ∧ w.cell? ⟨b, off + i * 5 + 2, none⟩ = some (.string t) ∧ w.cell? ⟨b, off + i * 5 + 3, none⟩ = some (.slice io N icap) ∧ w.cell? ⟨b, off + i * 5 + 4, none⟩ = some (.slice ko K kcap)) ∧ InH w h ts[i] (.agg #[.int .i64 k, .string n, .string t, .slice io N icap, .slice ko K kcap]) := by
  obtain ⟨v0, v1, v2, v3, v4, hc, ht⟩ := hrow i hi
  obtain ⟨ik, inm, itx, iio, iN, iicap, iko, iK, ikcap, rfl, rfl, rfl, rfl, rfl⟩ := ht.shape
  exact ⟨ik, inm, itx, iio, iN, iicap, iko, iK, ikcap, hc, ht⟩

set_option maxRecDepth 100000 in
set_option maxHeartbeats 3200000 in
theorem w_IsSorted (h : Nat) (io : Option Addr) (N icap : Nat) (ts : List VT) (w : World) (hi : IIn w h io ts) (hN : ts.length = N) (hcap : N ≤ icap) (hN2 : N ≤ 140737488355328) :
    Calls Try.prog 56 #[.slice io N icap, .func (.func 35) #[] #[]] w fun e w' => e = .returned (.bool (risB (cK h ts) N)) ∧ Below w.heap.size w w' := by
  have HI := Hid.mk hi
  have HNN := Hid.mk hN
  clear hi hN
  obtain ⟨R, HR⟩ : ∃ R, Hid (risB (cK h ts) N = R) := ⟨_, rfl⟩
  rw [HR.out]
  go_enter Try.func56, Try.ntmps56
  go_wp2_with fail
  go_loopw [5] (fun i wr => ∃ z : Int, -1 ≤ z ∧ z < (N : Int) ∧ i = .int .i64 z ∧ Hid (Below w.heap.size w wr) ∧ Hid (∀ j : Nat, z ≤ (j : Int) → j + 1 < N → 0 ≤ cK h ts (j + 1) j)) (fun i _ => (intOf i).toNat)
  case atStart => exact ⟨(N : Int) - 1, by omega, by omega, by go_num, Below.refl _ _, fun j h1 h2 => by omega⟩
  case round =>
    obtain ⟨z, hz1, hz2, rfl, HB, HQ⟩ := hrel
    by_cases hlt : 0 < z
    · obtain ⟨k, rfl⟩ : ∃ k : Nat, z = (k : Int) + 1 := ⟨(z - 1).toNat, by omega⟩
      have hl1 : 0 < (k : Int) + 1 := by omega
      have hk1 : k + 1 < ts.length := by rw [HNN.out]; omega
      have hk0 : k < ts.length := by omega
      obtain ⟨b, off, hio, hbl, hrow⟩ := (HI.out.keep HB.out).row (by omega)
      subst hio
      obtain ⟨ik, inm, itx, iio, iN, iicap, iko, iK, ikcap, ⟨c0, c1, c2, c3, c4⟩, ht⟩ := item_at hrow hk1
      obtain ⟨jk, jnm, jtx, jio, jN, jicap, jko, jK, jkcap, ⟨d0, d1, d2, d3, d4⟩, hu⟩ := item_at hrow hk0
      have HC := Hid.mk (fun (d : Nat) (os : Array Obj) => w_vCmp h ts[k + 1] ts[k] _ _ (grow (redrawn wr d) os) (ht.keep (below_regrown wr d os)) (hu.keep (below_regrown wr d os)))
      have HE := Hid.mk (cK_at (h := h) hk1 hk0)
      have hi1 : (k : Int) + 1 < (N : Int) := by omega
      have hi2 : (k : Int) < (N : Int) := by omega
      have hi3 : (0 : Int) ≤ (k : Int) + 1 := by omega
      have hi4 : (0 : Int) ≤ (k : Int) := by omega
      have R0 := fun d os => cell_regrown c0 d os
      have R1 := fun d os => cell_regrown c1 d os
      have R2 := fun d os => cell_regrown c2 d os
      have R3 := fun d os => cell_regrown c3 d os
      have R4 := fun d os => cell_regrown c4 d os
      have S0 := fun d os => cell_regrown d0 d os
      have S1 := fun d os => cell_regrown d1 d os
      have S2 := fun d os => cell_regrown d2 d os
      have S3 := fun d os => cell_regrown d3 d os
      have S4 := fun d os => cell_regrown d4 d os
      generalize cmpH h ts[k + 1] ts[k] = c at *
      clear hrow hbl ht hu hk1 hk0 c0 c1 c2 c3 c4 d0 d1 d2 d3 d4 hlt
      go_wp2_with fail
      refine wp_region_quiet_below (by kernel_rfl) (by kernel_rfl) ?_
      repeat (go_big_quiet_step (exact Calls.regrown_of (HC.out _ _)))
      refine wpQuiet_nil ?_
      intro w2 hw'
      have HB2 : Hid (Below w.heap.size w w2) := by
        obtain ⟨⟨dq, osq⟩, rfl⟩ := hw'
        exact HB.out.trans ((below_regrown wr dq osq).mono HB.out.size)
      clear hw' R0 R1 R2 R3 R4 S0 S1 S2 S3 S4 HC
      by_cases hc : c < 0
      · have HF : Hid (risB (cK h ts) N = false) := risB_false (j := k) (by omega) (by rw [HE.out]; exact hc)
        have HT : Hid (R = false) := HR.out.symm.trans HF.out
        go_wp2_with fail
        go_ret
        exact ⟨by rw [HT.out]; rfl, HB2.out⟩
      · have HQ2 : Hid (∀ j : Nat, (k : Int) ≤ (j : Int) → j + 1 < N → 0 ≤ cK h ts (j + 1) j) := fun j h1 h2 => by
          by_cases e : j = k
          · subst e; rw [HE.out]; omega
          · exact HQ.out j (by omega) h2
        go_wp2_with fail
        go_roundw
        case rel => exact ⟨(k : Int), by omega, by omega, by go_num, HB2, HQ2⟩
        case measure => simp [intOf]
    · have hl1 : ¬ 0 < z := hlt
      have HT : Hid (R = true) := HR.out.symm.trans (risB_true fun j hj => HQ.out j (by omega) hj)
      go_wp2_with fail
      go_ret
      exact ⟨by rw [HT.out]; rfl, HB.out⟩

theorem w_oRises (h : Nat) (io : Option Addr) (N icap : Nat) (ts : List VT) (w : World) (hi : IIn w h io ts) (hN : ts.length = N) (hcap : N ≤ icap) (hN2 : N ≤ 140737488355328) :
    Calls Try.prog 33 #[.slice io N icap] w fun e w' => e = .returned (.bool (risB (cK h ts) N)) ∧ Below w.heap.size w w' := by
  have HC := Hid.mk (w_IsSorted h io N icap ts w hi hN hcap hN2)
  generalize risB (cK h ts) N = R at *
  clear hi hN
  go_enter Try.func33, Try.ntmps33
  go_wp2_with fail
  refine HC.out.mono ?_
  rintro e w2 ⟨rfl, hb2⟩
  have HB2 := Hid.mk hb2
  clear hb2
  go_wp2_with fail
  go_ret
  exact ⟨rfl, HB2.out⟩

/-- the foremost of the first k places -/
def fmF (p : Nat → Nat → Bool) : Nat → Int
  | 0 => -1
  | k + 1 => if fmF p k < 0 ∨ p k (fmF p k).toNat = true then (k : Int) else fmF p k
theorem fmF_bd (p : Nat → Nat → Bool) : ∀ k, (k = 0 ∧ fmF p k = -1) ∨ (0 ≤ fmF p k ∧ fmF p k < (k : Int))
  | 0 => .inl ⟨rfl, rfl⟩
  | k + 1 => by
    refine .inr ?_
    unfold fmF
    rcases fmF_bd p k with ⟨_, h⟩ | h
    · rw [if_pos (.inl (by omega))]; omega
    · split <;> omega

set_option maxRecDepth 100000 in
set_option maxHeartbeats 3200000 in
theorem w_foremostLeast (h : Nat) (io : Option Addr) (N icap : Nat) (ts : List VT) (w : World) (hi : IIn w h io ts) (hN : ts.length = N) (hcap : N ≤ icap) (hN2 : N ≤ 140737488355328) (hf : ts.all (formN h) = true) :
    Calls Try.prog 37 #[.slice io N icap, .func (.func 38) #[] #[]] w fun e w' => e = .returned (.tuple #[.int .i64 (fmF (fun i j => decide (cK h ts i j < 0)) N), .int .i64 0]) ∧ Below w.heap.size w w' := by
  have HF0 := Hid.mk (w_oFormed h io N icap ts w hi hN hcap hN2)
  rw [hf] at HF0
  have HI := Hid.mk hi
  have HNN := Hid.mk hN
  clear hi hN hf
  obtain ⟨p, HP⟩ : ∃ p : Nat → Nat → Bool, Hid (p = fun i j => decide (cK h ts i j < 0)) := ⟨_, rfl⟩
  rw [← HP.out]
  obtain ⟨R, HR⟩ : ∃ R, Hid (fmF p N = R) := ⟨_, rfl⟩
  rw [HR.out]
  go_enter Try.func37, Try.ntmps37
  go_wp2_with fail
  refine HF0.out.mono ?_
  rintro e w1 ⟨rfl, hb1⟩
  have HB1 := Hid.mk hb1
  clear hb1 HF0
  go_wp2_with fail
  go_loopw [6, 14] (fun a i wr => ∃ k : Nat, k ≤ N ∧ i = .int .i64 (k : Int) ∧ ∃ z : Int, a = .int .i64 z ∧ Hid (fmF p k = z) ∧ Hid (Below w.heap.size w wr)) (fun _ i _ => N - (intOf i).toNat)
  case atStart => exact ⟨0, Nat.zero_le _, rfl, -1, rfl, rfl, HB1⟩
  case round =>
    obtain ⟨k, hk, rfl, z, rfl, HZ, HB⟩ := hrel
    by_cases hlt : k < N
    · have hl1 : (k : Int) < (N : Int) := by omega
      have hkl : k < ts.length := by rw [HNN.out]; exact hlt
      obtain ⟨b, off, hio, hbl, hrow⟩ := (HI.out.keep HB.out).row (by omega)
      subst hio
      obtain ⟨ik, inm, itx, iio, iN, iicap, iko, iK, ikcap, ⟨c0, c1, c2, c3, c4⟩, ht⟩ := item_at hrow hkl
      have HBx := Hid.mk (below1 wr (.cells #[.int .i64 ik, .string inm, .string itx, .slice iio iN iicap, .slice iko iK ikcap] 25))
      have HB1' := Hid.mk (HB.out.trans (HBx.out.mono HB.out.size))
      rcases fmF_bd p k with ⟨hk0, hz⟩ | hz
      · obtain rfl : z = -1 := by rw [← HZ.out]; exact hz
        have HZ2 : Hid (fmF p (k + 1) = (k : Int)) := by show (if _ then _ else _) = _; rw [if_pos (.inl (by omega))]
        clear hz hrow hbl ht hkl HBx hk0
        go_wp2_with fail
        generalize wr.alloc (.cells #[.int .i64 ik, .string inm, .string itx, .slice iio iN iicap, .slice iko iK ikcap] 25) = wx at *
        refine wp_region_quiet_below (by kernel_rfl) (by kernel_rfl) ?_
        repeat (go_big_quiet_step (fail))
        refine wpQuiet_nil ?_
        intro w2 hw'
        have HB2 : Hid (Below w.heap.size w w2) := by
          obtain ⟨⟨dq, osq⟩, rfl⟩ := hw'
          exact HB1'.out.trans ((below_regrown wx dq osq).mono HB1'.out.size)
        clear hw'
        go_wp2_with fail
        go_roundw
        case rel => exact ⟨k + 1, by omega, by go_num, (k : Int), rfl, HZ2, HB2⟩
        case measure => simp [intOf]; omega
      · rw [HZ.out] at hz
        obtain ⟨m, rfl⟩ : ∃ m : Nat, z = (m : Int) := ⟨z.toNat, by omega⟩
        have hmk : m < k := by omega
        have hml : m < ts.length := by omega
        obtain ⟨jk, jnm, jtx, jio, jN, jicap, jko, jK, jkcap, ⟨d0, d1, d2, d3, d4⟩, hu⟩ := item_at hrow hml
        have HC := Hid.mk (fun (d : Nat) (os : Array Obj) => w_Least1 h ts[k] ts[m] _ _ _ _ _ _ _ _ _ _ (grow (redrawn (wr.alloc (.cells #[.int .i64 ik, .string inm, .string itx, .slice iio iN iicap, .slice iko iK ikcap] 25)) d) os) ((ht.keep HBx.out).keep (below_regrown _ d os)) ((hu.keep HBx.out).keep (below_regrown _ d os)))
        have HE : Hid (decide (cmpH h ts[k] ts[m] < 0) = p k m) := by show _ = _; rw [HP.out]; show decide (cmpH h ts[k] ts[m] < 0) = decide (cK h ts k m < 0); rw [cK_at hkl hml]
        rw [HE.out] at HC
        have x0 : (wr.alloc (.cells #[.int .i64 ik, .string inm, .string itx, .slice iio iN iicap, .slice iko iK ikcap] 25)).cell? ⟨wr.heap.size, 0, none⟩ = some (.int .i64 ik) := (vbx_new wr _ _ _ _ _).c0
        have x1 : (wr.alloc (.cells #[.int .i64 ik, .string inm, .string itx, .slice iio iN iicap, .slice iko iK ikcap] 25)).cell? ⟨wr.heap.size, 1, none⟩ = some (.string inm) := (vbx_new wr _ _ _ _ _).c1
        have x2 : (wr.alloc (.cells #[.int .i64 ik, .string inm, .string itx, .slice iio iN iicap, .slice iko iK ikcap] 25)).cell? ⟨wr.heap.size, 2, none⟩ = some (.string itx) := (vbx_new wr _ _ _ _ _).c2
        have x3 : (wr.alloc (.cells #[.int .i64 ik, .string inm, .string itx, .slice iio iN iicap, .slice iko iK ikcap] 25)).cell? ⟨wr.heap.size, 3, none⟩ = some (.slice iio iN iicap) := (vbx_new wr _ _ _ _ _).c3
        have x4 : (wr.alloc (.cells #[.int .i64 ik, .string inm, .string itx, .slice iio iN iicap, .slice iko iK ikcap] 25)).cell? ⟨wr.heap.size, 4, none⟩ = some (.slice iko iK ikcap) := (vbx_new wr _ _ _ _ _).c4
        have y0 := (HBx.out.cell (p := ⟨b, off + m * 5, none⟩) hbl).trans d0
        have y1 := (HBx.out.cell (p := ⟨b, off + m * 5 + 1, none⟩) hbl).trans d1
        have y2 := (HBx.out.cell (p := ⟨b, off + m * 5 + 2, none⟩) hbl).trans d2
        have y3 := (HBx.out.cell (p := ⟨b, off + m * 5 + 3, none⟩) hbl).trans d3
        have y4 := (HBx.out.cell (p := ⟨b, off + m * 5 + 4, none⟩) hbl).trans d4
        have hi1 : (m : Int) < (N : Int) := by omega
        have hi4 : (0 : Int) ≤ (m : Int) := by omega
        have hn4 : ¬ (m : Int) < 0 := by omega
        have g4 : decide ((m : Int) < 0) = false := decide_eq_false hn4
        have HZ2 : Hid (p k m = true → fmF p (k + 1) = (k : Int)) := fun e => by show (if _ then _ else _) = _; rw [HZ.out, if_pos (.inr e)]
        have HZ3 : Hid (p k m = false → fmF p (k + 1) = (m : Int)) := fun e => by
          show (if _ then _ else _) = _
          rw [HZ.out, if_neg (fun h => by rcases h with h | h; exact absurd h hn4; rw [show ((m : Int)).toNat = m from rfl, e] at h; cases h)]
        generalize p k m = t at *
        clear hz hrow hbl ht hu hkl hml d0 d1 d2 d3 d4 HBx HE
        go_wp2_with fail
        clear c0 c1 c2 c3 c4
        generalize wr.alloc (.cells #[.int .i64 ik, .string inm, .string itx, .slice iio iN iicap, .slice iko iK ikcap] 25) = wx at *
        generalize wr.heap.size = nb at *
        have R0 := fun d os => cell_regrown x0 d os
        have R1 := fun d os => cell_regrown x1 d os
        have R2 := fun d os => cell_regrown x2 d os
        have R3 := fun d os => cell_regrown x3 d os
        have R4 := fun d os => cell_regrown x4 d os
        have S0 := fun d os => cell_regrown y0 d os
        have S1 := fun d os => cell_regrown y1 d os
        have S2 := fun d os => cell_regrown y2 d os
        have S3 := fun d os => cell_regrown y3 d os
        have S4 := fun d os => cell_regrown y4 d os
        clear x0 x1 x2 x3 x4 y0 y1 y2 y3 y4
        refine wp_region_quiet_below (by kernel_rfl) (by kernel_rfl) ?_
        repeat (go_big_quiet_step (exact Calls.regrown_of (HC.out _ _)))
        refine wpQuiet_nil ?_
        intro w2 hw'
        have HB2 : Hid (Below w.heap.size w w2) := by
          obtain ⟨⟨dq, osq⟩, rfl⟩ := hw'
          exact HB1'.out.trans ((below_regrown wx dq osq).mono HB1'.out.size)
        clear hw' R0 R1 R2 R3 R4 S0 S1 S2 S3 S4 HC
        cases t with
        | true =>
          have HZ4 := Hid.mk (HZ2.out rfl)
          clear HZ2 HZ3
          go_wp2_with fail
          go_roundw
          case rel => exact ⟨k + 1, by omega, by go_num, (k : Int), rfl, HZ4, HB2⟩
          case measure => simp [intOf]; omega
        | false =>
          have HZ4 := Hid.mk (HZ3.out rfl)
          clear HZ2 HZ3
          go_wp2_with fail
          go_roundw
          case rel => exact ⟨k + 1, by omega, by go_num, (m : Int), rfl, HZ4, HB2⟩
          case measure => simp [intOf]; omega
    · have hl1 : ¬ (k : Int) < (N : Int) := by omega
      have HT : Hid (z = R) := by
        have e : k = N := by omega
        subst e
        exact HZ.out.symm.trans HR.out
      go_wp2_with fail
      go_ret2
      exact ⟨by rw [HT.out]; rfl, HB.out⟩

set_option maxRecDepth 100000 in
set_option maxHeartbeats 3200000 in
theorem w_foremostLeast0 (h : Nat) (io : Option Addr) (N icap : Nat) (ts : List VT) (w : World) (hi : IIn w h io ts) (hN : ts.length = N) (hcap : N ≤ icap) (hN2 : N ≤ 140737488355328) (hf : ts.all (formN h) = false) :
    Calls Try.prog 37 #[.slice io N icap, .func (.func 38) #[] #[]] w fun e w' => e = .returned (.tuple #[.int .i64 0, .int .i64 1]) ∧ Below w.heap.size w w' := by
  have HF0 := Hid.mk (w_oFormed h io N icap ts w hi hN hcap hN2)
  rw [hf] at HF0
  clear hi hN hf
  go_enter Try.func37, Try.ntmps37
  go_wp2_with fail
  refine HF0.out.mono ?_
  rintro e w1 ⟨rfl, hb1⟩
  have HB1 := Hid.mk hb1
  clear hb1 HF0
  go_wp2_with fail
  go_ret2
  exact ⟨rfl, HB1.out⟩

set_option maxRecDepth 100000 in
set_option maxHeartbeats 3200000 in
theorem w_foremostGreatest (h : Nat) (io : Option Addr) (N icap : Nat) (ts : List VT) (w : World) (hi : IIn w h io ts) (hN : ts.length = N) (hcap : N ≤ icap) (hN2 : N ≤ 140737488355328) (hf : ts.all (formN h) = true) :
    Calls Try.prog 37 #[.slice io N icap, .func (.func 39) #[] #[]] w fun e w' => e = .returned (.tuple #[.int .i64 (fmF (fun i j => decide (0 ≤ cK h ts i j)) N), .int .i64 0]) ∧ Below w.heap.size w w' := by
  have HF0 := Hid.mk (w_oFormed h io N icap ts w hi hN hcap hN2)
  rw [hf] at HF0
  have HI := Hid.mk hi
  have HNN := Hid.mk hN
  clear hi hN hf
  obtain ⟨p, HP⟩ : ∃ p : Nat → Nat → Bool, Hid (p = fun i j => decide (0 ≤ cK h ts i j)) := ⟨_, rfl⟩
  rw [← HP.out]
  obtain ⟨R, HR⟩ : ∃ R, Hid (fmF p N = R) := ⟨_, rfl⟩
  rw [HR.out]
  go_enter Try.func37, Try.ntmps37
  go_wp2_with fail
  refine HF0.out.mono ?_
  rintro e w1 ⟨rfl, hb1⟩
  have HB1 := Hid.mk hb1
  clear hb1 HF0
  go_wp2_with fail
  go_loopw [6, 14] (fun a i wr => ∃ k : Nat, k ≤ N ∧ i = .int .i64 (k : Int) ∧ ∃ z : Int, a = .int .i64 z ∧ Hid (fmF p k = z) ∧ Hid (Below w.heap.size w wr)) (fun _ i _ => N - (intOf i).toNat)
  case atStart => exact ⟨0, Nat.zero_le _, rfl, -1, rfl, rfl, HB1⟩
  case round =>
    obtain ⟨k, hk, rfl, z, rfl, HZ, HB⟩ := hrel
    by_cases hlt : k < N
    · have hl1 : (k : Int) < (N : Int) := by omega
      have hkl : k < ts.length := by rw [HNN.out]; exact hlt
      obtain ⟨b, off, hio, hbl, hrow⟩ := (HI.out.keep HB.out).row (by omega)
      subst hio
      obtain ⟨ik, inm, itx, iio, iN, iicap, iko, iK, ikcap, ⟨c0, c1, c2, c3, c4⟩, ht⟩ := item_at hrow hkl
      have HBx := Hid.mk (below1 wr (.cells #[.int .i64 ik, .string inm, .string itx, .slice iio iN iicap, .slice iko iK ikcap] 25))
      have HB1' := Hid.mk (HB.out.trans (HBx.out.mono HB.out.size))
      rcases fmF_bd p k with ⟨hk0, hz⟩ | hz
      · obtain rfl : z = -1 := by rw [← HZ.out]; exact hz
        have HZ2 : Hid (fmF p (k + 1) = (k : Int)) := by show (if _ then _ else _) = _; rw [if_pos (.inl (by omega))]
        clear hz hrow hbl ht hkl HBx hk0
        go_wp2_with fail
        generalize wr.alloc (.cells #[.int .i64 ik, .string inm, .string itx, .slice iio iN iicap, .slice iko iK ikcap] 25) = wx at *
        refine wp_region_quiet_below (by kernel_rfl) (by kernel_rfl) ?_
        repeat (go_big_quiet_step (fail))
        refine wpQuiet_nil ?_
        intro w2 hw'
        have HB2 : Hid (Below w.heap.size w w2) := by
          obtain ⟨⟨dq, osq⟩, rfl⟩ := hw'
          exact HB1'.out.trans ((below_regrown wx dq osq).mono HB1'.out.size)
        clear hw'
        go_wp2_with fail
        go_roundw
        case rel => exact ⟨k + 1, by omega, by go_num, (k : Int), rfl, HZ2, HB2⟩
        case measure => simp [intOf]; omega
      · rw [HZ.out] at hz
        obtain ⟨m, rfl⟩ : ∃ m : Nat, z = (m : Int) := ⟨z.toNat, by omega⟩
        have hmk : m < k := by omega
        have hml : m < ts.length := by omega
        obtain ⟨jk, jnm, jtx, jio, jN, jicap, jko, jK, jkcap, ⟨d0, d1, d2, d3, d4⟩, hu⟩ := item_at hrow hml
        have HC := Hid.mk (fun (d : Nat) (os : Array Obj) => w_Greatest1 h ts[k] ts[m] _ _ _ _ _ _ _ _ _ _ (grow (redrawn (wr.alloc (.cells #[.int .i64 ik, .string inm, .string itx, .slice iio iN iicap, .slice iko iK ikcap] 25)) d) os) ((ht.keep HBx.out).keep (below_regrown _ d os)) ((hu.keep HBx.out).keep (below_regrown _ d os)))
        have HE : Hid (decide (0 ≤ cmpH h ts[k] ts[m]) = p k m) := by show _ = _; rw [HP.out]; show decide (0 ≤ cmpH h ts[k] ts[m]) = decide (0 ≤ cK h ts k m); rw [cK_at hkl hml]
        rw [HE.out] at HC
        have x0 : (wr.alloc (.cells #[.int .i64 ik, .string inm, .string itx, .slice iio iN iicap, .slice iko iK ikcap] 25)).cell? ⟨wr.heap.size, 0, none⟩ = some (.int .i64 ik) := (vbx_new wr _ _ _ _ _).c0
        have x1 : (wr.alloc (.cells #[.int .i64 ik, .string inm, .string itx, .slice iio iN iicap, .slice iko iK ikcap] 25)).cell? ⟨wr.heap.size, 1, none⟩ = some (.string inm) := (vbx_new wr _ _ _ _ _).c1
        have x2 : (wr.alloc (.cells #[.int .i64 ik, .string inm, .string itx, .slice iio iN iicap, .slice iko iK ikcap] 25)).cell? ⟨wr.heap.size, 2, none⟩ = some (.string itx) := (vbx_new wr _ _ _ _ _).c2
        have x3 : (wr.alloc (.cells #[.int .i64 ik, .string inm, .string itx, .slice iio iN iicap, .slice iko iK ikcap] 25)).cell? ⟨wr.heap.size, 3, none⟩ = some (.slice iio iN iicap) := (vbx_new wr _ _ _ _ _).c3
        have x4 : (wr.alloc (.cells #[.int .i64 ik, .string inm, .string itx, .slice iio iN iicap, .slice iko iK ikcap] 25)).cell? ⟨wr.heap.size, 4, none⟩ = some (.slice iko iK ikcap) := (vbx_new wr _ _ _ _ _).c4
        have y0 := (HBx.out.cell (p := ⟨b, off + m * 5, none⟩) hbl).trans d0
        have y1 := (HBx.out.cell (p := ⟨b, off + m * 5 + 1, none⟩) hbl).trans d1
        have y2 := (HBx.out.cell (p := ⟨b, off + m * 5 + 2, none⟩) hbl).trans d2
        have y3 := (HBx.out.cell (p := ⟨b, off + m * 5 + 3, none⟩) hbl).trans d3
        have y4 := (HBx.out.cell (p := ⟨b, off + m * 5 + 4, none⟩) hbl).trans d4
        have hi1 : (m : Int) < (N : Int) := by omega
        have hi4 : (0 : Int) ≤ (m : Int) := by omega
        have hn4 : ¬ (m : Int) < 0 := by omega
        have g4 : decide ((m : Int) < 0) = false := decide_eq_false hn4
        have HZ2 : Hid (p k m = true → fmF p (k + 1) = (k : Int)) := fun e => by show (if _ then _ else _) = _; rw [HZ.out, if_pos (.inr e)]
        have HZ3 : Hid (p k m = false → fmF p (k + 1) = (m : Int)) := fun e => by
          show (if _ then _ else _) = _
          rw [HZ.out, if_neg (fun h => by rcases h with h | h; exact absurd h hn4; rw [show ((m : Int)).toNat = m from rfl, e] at h; cases h)]
        generalize p k m = t at *
        clear hz hrow hbl ht hu hkl hml d0 d1 d2 d3 d4 HBx HE
        go_wp2_with fail
        clear c0 c1 c2 c3 c4
        generalize wr.alloc (.cells #[.int .i64 ik, .string inm, .string itx, .slice iio iN iicap, .slice iko iK ikcap] 25) = wx at *
        generalize wr.heap.size = nb at *
        have R0 := fun d os => cell_regrown x0 d os
        have R1 := fun d os => cell_regrown x1 d os
        have R2 := fun d os => cell_regrown x2 d os
        have R3 := fun d os => cell_regrown x3 d os
        have R4 := fun d os => cell_regrown x4 d os
        have S0 := fun d os => cell_regrown y0 d os
        have S1 := fun d os => cell_regrown y1 d os
        have S2 := fun d os => cell_regrown y2 d os
        have S3 := fun d os => cell_regrown y3 d os
        have S4 := fun d os => cell_regrown y4 d os
        clear x0 x1 x2 x3 x4 y0 y1 y2 y3 y4
        refine wp_region_quiet_below (by kernel_rfl) (by kernel_rfl) ?_
        repeat (go_big_quiet_step (exact Calls.regrown_of (HC.out _ _)))
        refine wpQuiet_nil ?_
        intro w2 hw'
        have HB2 : Hid (Below w.heap.size w w2) := by
          obtain ⟨⟨dq, osq⟩, rfl⟩ := hw'
          exact HB1'.out.trans ((below_regrown wx dq osq).mono HB1'.out.size)
        clear hw' R0 R1 R2 R3 R4 S0 S1 S2 S3 S4 HC
        cases t with
        | true =>
          have HZ4 := Hid.mk (HZ2.out rfl)
          clear HZ2 HZ3
          go_wp2_with fail
          go_roundw
          case rel => exact ⟨k + 1, by omega, by go_num, (k : Int), rfl, HZ4, HB2⟩
          case measure => simp [intOf]; omega
        | false =>
          have HZ4 := Hid.mk (HZ3.out rfl)
          clear HZ2 HZ3
          go_wp2_with fail
          go_roundw
          case rel => exact ⟨k + 1, by omega, by go_num, (m : Int), rfl, HZ4, HB2⟩
          case measure => simp [intOf]; omega
    · have hl1 : ¬ (k : Int) < (N : Int) := by omega
      have HT : Hid (z = R) := by
        have e : k = N := by omega
        subst e
        exact HZ.out.symm.trans HR.out
      go_wp2_with fail
      go_ret2
      exact ⟨by rw [HT.out]; rfl, HB.out⟩

set_option maxRecDepth 100000 in
set_option maxHeartbeats 3200000 in
theorem w_foremostGreatest0 (h : Nat) (io : Option Addr) (N icap : Nat) (ts : List VT) (w : World) (hi : IIn w h io ts) (hN : ts.length = N) (hcap : N ≤ icap) (hN2 : N ≤ 140737488355328) (hf : ts.all (formN h) = false) :
    Calls Try.prog 37 #[.slice io N icap, .func (.func 39) #[] #[]] w fun e w' => e = .returned (.tuple #[.int .i64 0, .int .i64 1]) ∧ Below w.heap.size w w' := by
  have HF0 := Hid.mk (w_oFormed h io N icap ts w hi hN hcap hN2)
  rw [hf] at HF0
  clear hi hN hf
  go_enter Try.func37, Try.ntmps37
  go_wp2_with fail
  refine HF0.out.mono ?_
  rintro e w1 ⟨rfl, hb1⟩
  have HB1 := Hid.mk hb1
  clear hb1 HF0
  go_wp2_with fail
  go_ret2
  exact ⟨rfl, HB1.out⟩
end Go.Proofs.Ytmknelkgfnklfaa
namespace Go.Proofs.Ytmknelkgfnklfaa
open Go.RowKit Go.Shelf Go.Sort
set_option linter.unusedVariables false
set_option linter.unusedSimpArgs false
attribute [local go_sem] Oper.semAt_some

/-- an item of a row against a value -/
def cV (h : Nat) (ts : List VT) (V : VT) (i : Nat) : Int := match ts[i]? with
  | some a => cmpH h a V
  | none => 0
theorem cV_at {h : Nat} {ts : List VT} {V : VT} {i : Nat} (hi : i < ts.length) : cV h ts V i = cmpH h ts[i] V := by
  unfold cV; rw [List.getElem?_eq_getElem hi]

set_option maxRecDepth 100000 in
set_option maxHeartbeats 3200000 in
theorem w_BinSearch (h : Nat) (io : Option Addr) (N icap : Nat) (ts : List VT) (V : VT) (a0 a1 a2 a3 a4 : Value) (w : World) (hi : IIn w h io ts) (hN : ts.length = N) (hcap : N ≤ icap) (hN2 : N ≤ 140737488355328) (hV : InH w h V (.agg #[a0, a1, a2, a3, a4]))
    (m : Nat) (hm : m ≤ N) (h1 : ∀ k, k < m → cV h ts V k < 0) (h2 : ∀ k, m ≤ k → k < N → 0 ≤ cV h ts V k) :
    Calls Try.prog 41 #[.slice io N icap, .agg #[a0, a1, a2, a3, a4], .func (.func 35) #[] #[]] w fun e w' => e = .returned (.tuple #[.int .i64 (m : Int), .bool (decide (m < N) && decide (cV h ts V m = 0))]) ∧ Below w.heap.size w w' := by
  obtain ⟨tk, tnm, ttx, tio, tN, ticap, tko, tK, tkcap, rfl, rfl, rfl, rfl, rfl⟩ := hV.shape
  obtain ⟨w1, hw1⟩ : ∃ w1, w.alloc (.cells #[.int .i64 tk, .string tnm, .string ttx, .slice tio tN ticap, .slice tko tK tkcap] 25) = w1 := ⟨_, rfl⟩
  have HBx : Hid (Below w.heap.size w w1) := by subst hw1; exact below1 _ _
  have HX : Hid (VBx w w1 (.int .i64 tk) (.string tnm) (.string ttx) (.slice tio tN ticap) (.slice tko tK tkcap)) := by subst hw1; exact vbx_new _ _ _ _ _ _
  have HI := Hid.mk (hi.keep HBx.out)
  have HV := Hid.mk (hV.keep HBx.out)
  have HNN := Hid.mk hN
  have H1 := Hid.mk h1
  have H2 := Hid.mk h2
  clear hi hN hV h1 h2
  obtain ⟨R, HR⟩ : ∃ R, Hid ((decide (m < N) && decide (cV h ts V m = 0)) = R) := ⟨_, rfl⟩
  rw [HR.out]
  go_enter Try.func41, Try.ntmps41
  go_wp2_with fail
  try simp only [hw1]
  clear hw1
  go_loopw [9, 10] (fun i j wr => ∃ p q : Nat, p ≤ m ∧ m ≤ q ∧ q ≤ N ∧ i = .int .i64 (p : Int) ∧ j = .int .i64 (q : Int) ∧ Hid (Below w1.heap.size w1 wr)) (fun i j _ => (intOf j).toNat - (intOf i).toNat)
  case atStart => exact ⟨0, N, Nat.zero_le _, hm, Nat.le_refl _, rfl, rfl, Below.refl _ _⟩
  case round =>
    obtain ⟨p, q, hp, hq, hqN, rfl, rfl, HB⟩ := hrel
    by_cases hlt : p < q
    · have hl1 : (p : Int) < (q : Int) := by omega
      go_wp2_with fail
      obtain ⟨k, hk⟩ : ∃ k : Nat, ((p : Int) + (q : Int)) / 2 = (k : Int) := ⟨((p : Int) + (q : Int)).toNat / 2, by omega⟩
      have hkq : k < q := by omega
      have hpk : p ≤ k := by omega
      rw [hk]
      clear hk
      have hkl : k < ts.length := by rw [HNN.out]; omega
      obtain ⟨b, off, hio, hbl, hrow⟩ := (HI.out.keep HB.out).row (by omega)
      subst hio
      obtain ⟨ik, inm, itx, iio, iN, iicap, iko, iK, ikcap, ⟨c0, c1, c2, c3, c4⟩, ht⟩ := item_at hrow hkl
      have hv := HV.out.keep HB.out
      have hx := HX.out.keep HB.out
      have HC := Hid.mk (fun (d : Nat) (os : Array Obj) => w_vCmp h ts[k] V _ _ (grow (redrawn wr d) os) (ht.keep (below_regrown wr d os)) (hv.keep (below_regrown wr d os)))
      have HE := Hid.mk (cV_at (h := h) (V := V) hkl)
      rw [← HE.out] at HC
      have hi1 : (k : Int) < (N : Int) := by omega
      have hi4 : (0 : Int) ≤ (k : Int) := by omega
      have y0 := hx.c0
      have y1 := hx.c1
      have y2 := hx.c2
      have y3 := hx.c3
      have y4 := hx.c4
      have R0 := fun d os => cell_regrown c0 d os
      have R1 := fun d os => cell_regrown c1 d os
      have R2 := fun d os => cell_regrown c2 d os
      have R3 := fun d os => cell_regrown c3 d os
      have R4 := fun d os => cell_regrown c4 d os
      have S0 := fun d os => cell_regrown y0 d os
      have S1 := fun d os => cell_regrown y1 d os
      have S2 := fun d os => cell_regrown y2 d os
      have S3 := fun d os => cell_regrown y3 d os
      have S4 := fun d os => cell_regrown y4 d os
      have HP1 : Hid (cV h ts V k < 0 → k + 1 ≤ m) := fun e => by
        by_cases h' : m ≤ k
        · have := H2.out k h' (by omega); omega
        · omega
      have HP2 : Hid (¬ cV h ts V k < 0 → m ≤ k) := fun e => by
        by_cases h' : k < m
        · exact absurd (H1.out k h') e
        · omega
      generalize cV h ts V k = c at *
      clear hrow hbl ht hv hx hkl c0 c1 c2 c3 c4 y0 y1 y2 y3 y4 HE
      refine wp_region_quiet_below (by kernel_rfl) (by kernel_rfl) ?_
      repeat (go_big_quiet_step (exact Calls.regrown_of (HC.out _ _)))
      refine wpQuiet_nil ?_
      intro w2 hw'
      have HB2 : Hid (Below w1.heap.size w1 w2) := by
        obtain ⟨⟨dq, osq⟩, rfl⟩ := hw'
        exact HB.out.trans ((below_regrown wr dq osq).mono HB.out.size)
      clear hw' R0 R1 R2 R3 R4 S0 S1 S2 S3 S4 HC
      by_cases hc : c < 0
      · have hkm := HP1.out hc
        clear HP1 HP2
        go_wp2_with fail
        go_roundw
        case rel => exact ⟨k + 1, q, hkm, hq, hqN, by go_num, rfl, HB2⟩
        case measure => simp [intOf]; omega
      · have hkm := HP2.out hc
        clear HP1 HP2
        go_wp2_with fail
        go_roundw
        case rel => exact ⟨p, k, hp, hkm, by omega, rfl, rfl, HB2⟩
        case measure => simp [intOf]; omega
    · have hl1 : ¬ (p : Int) < (q : Int) := by omega
      obtain rfl : p = m := by omega
      by_cases hmN : p < N
      · have hn1 : (p : Int) < (N : Int) := by omega
        have hn4 : (0 : Int) ≤ (p : Int) := by omega
        have gt : decide ((p : Int) < (N : Int)) = true := decide_eq_true hn1
        have gt2 : decide (p < N) = true := decide_eq_true hmN
        have hkl : p < ts.length := by rw [HNN.out]; omega
        obtain ⟨b, off, hio, hbl, hrow⟩ := (HI.out.keep HB.out).row (by omega)
        subst hio
        obtain ⟨ik, inm, itx, iio, iN, iicap, iko, iK, ikcap, ⟨c0, c1, c2, c3, c4⟩, ht⟩ := item_at hrow hkl
        have hv := HV.out.keep HB.out
        have hx := HX.out.keep HB.out
        have HC := Hid.mk (fun (d : Nat) (os : Array Obj) => w_vCmp h ts[p] V _ _ (grow (redrawn wr d) os) (ht.keep (below_regrown wr d os)) (hv.keep (below_regrown wr d os)))
        have HE := Hid.mk (cV_at (h := h) (V := V) hkl)
        rw [← HE.out] at HC
        have y0 := hx.c0
        have y1 := hx.c1
        have y2 := hx.c2
        have y3 := hx.c3
        have y4 := hx.c4
        have R0 := fun d os => cell_regrown c0 d os
        have R1 := fun d os => cell_regrown c1 d os
        have R2 := fun d os => cell_regrown c2 d os
        have R3 := fun d os => cell_regrown c3 d os
        have R4 := fun d os => cell_regrown c4 d os
        have S0 := fun d os => cell_regrown y0 d os
        have S1 := fun d os => cell_regrown y1 d os
        have S2 := fun d os => cell_regrown y2 d os
        have S3 := fun d os => cell_regrown y3 d os
        have S4 := fun d os => cell_regrown y4 d os
        have HT : Hid (decide (cV h ts V p = 0) = R) := by
          have e := HR.out
          rw [gt2, Bool.true_and] at e
          exact e
        have HBw := Hid.mk (below_more HBx.out HB.out)
        generalize cV h ts V p = c at *
        clear hrow hbl ht hv hx hkl c0 c1 c2 c3 c4 y0 y1 y2 y3 y4 HE HR HX HV HI
        go_wp2_with fail
        refine wp_region_quiet_below (by kernel_rfl) (by kernel_rfl) ?_
        repeat (go_big_quiet_step (exact Calls.regrown_of (HC.out _ _)))
        refine wpQuiet_nil ?_
        intro w2 hw'
        have HB2 : Hid (Below w.heap.size w w2) := by
          obtain ⟨⟨dq, osq⟩, rfl⟩ := hw'
          exact HBw.out.trans ((below_regrown wr dq osq).mono HBw.out.size)
        clear hw' R0 R1 R2 R3 R4 S0 S1 S2 S3 S4 HC
        go_wp2_with fail
        go_ret2
        exact ⟨by rw [← HT.out]; rfl, HB2.out⟩
      · have hn1 : ¬ (p : Int) < (N : Int) := by omega
        have gt : decide ((p : Int) < (N : Int)) = false := decide_eq_false hn1
        have gt2 : decide (p < N) = false := decide_eq_false hmN
        have HT : Hid (R = false) := by
          have e := HR.out
          rw [gt2, Bool.false_and] at e
          exact e.symm
        have HBw := Hid.mk (below_more HBx.out HB.out)
        clear HR HX HV HI
        go_wp2_with fail
        refine wp_region_quiet_below (by kernel_rfl) (by kernel_rfl) ?_
        repeat (go_big_quiet_step (fail))
        refine wpQuiet_nil ?_
        intro w2 hw'
        have HB2 : Hid (Below w.heap.size w w2) := by
          obtain ⟨⟨dq, osq⟩, rfl⟩ := hw'
          exact HBw.out.trans ((below_regrown wr dq osq).mono HBw.out.size)
        clear hw'
        go_wp2_with fail
        go_ret2
        exact ⟨by rw [HT.out]; rfl, HB2.out⟩
end Go.Proofs.Ytmknelkgfnklfaa
namespace Go.Proofs.Ytmknelkgfnklfaa
open Go.RowKit Go.Shelf Go.Sort
set_option linter.unusedVariables false
set_option linter.unusedSimpArgs false

/-- Least's and Greatest's answers -/
def lstA (h : Nat) (ts : List VT) : Int := if ts.all (formN h) = true then fmF (fun i j => decide (cK h ts i j < 0)) ts.length else 0
def grtA (h : Nat) (ts : List VT) : Int := if ts.all (formN h) = true then fmF (fun i j => decide (0 ≤ cK h ts i j)) ts.length else 0
def shE (h : Nat) (ts : List VT) : Int := if ts.all (formN h) = true then 0 else 1

set_option maxRecDepth 100000 in
set_option maxHeartbeats 3200000 in
theorem w_oLeast (h : Nat) (io : Option Addr) (N icap : Nat) (ts : List VT) (w : World) (hi : IIn w h io ts) (hN : ts.length = N) (hcap : N ≤ icap) (hN2 : N ≤ 140737488355328) :
    Calls Try.prog 16 #[.slice io N icap] w fun e w' => e = .returned (.tuple #[.int .i64 (lstA h ts), .int .i64 (shE h ts)]) ∧ Below w.heap.size w w' := by
  have HC : Hid (Calls Try.prog 37 #[.slice io N icap, .func (.func 38) #[] #[]] w fun e w' => e = .returned (.tuple #[.int .i64 (lstA h ts), .int .i64 (shE h ts)]) ∧ Below w.heap.size w w') := by
    show Calls _ _ _ _ _
    unfold lstA shE
    cases hf : ts.all (formN h) with
    | true => rw [if_pos rfl, if_pos rfl, hN]; exact w_foremostLeast h io N icap ts w hi hN hcap hN2 hf
    | false => rw [if_neg (by simp), if_neg (by simp)]; exact w_foremostLeast0 h io N icap ts w hi hN hcap hN2 hf
  generalize lstA h ts = x at *
  generalize shE h ts = y at *
  clear hi hN
  go_enter Try.func16, Try.ntmps16
  go_wp2_with fail
  refine HC.out.mono ?_
  rintro e w2 ⟨rfl, hb2⟩
  have HB2 := Hid.mk hb2
  clear hb2
  go_wp2_with fail
  go_ret2
  exact ⟨rfl, HB2.out⟩

set_option maxRecDepth 100000 in
set_option maxHeartbeats 3200000 in
theorem w_oGreatest (h : Nat) (io : Option Addr) (N icap : Nat) (ts : List VT) (w : World) (hi : IIn w h io ts) (hN : ts.length = N) (hcap : N ≤ icap) (hN2 : N ≤ 140737488355328) :
    Calls Try.prog 17 #[.slice io N icap] w fun e w' => e = .returned (.tuple #[.int .i64 (grtA h ts), .int .i64 (shE h ts)]) ∧ Below w.heap.size w w' := by
  have HC : Hid (Calls Try.prog 37 #[.slice io N icap, .func (.func 39) #[] #[]] w fun e w' => e = .returned (.tuple #[.int .i64 (grtA h ts), .int .i64 (shE h ts)]) ∧ Below w.heap.size w w') := by
    show Calls _ _ _ _ _
    unfold grtA shE
    cases hf : ts.all (formN h) with
    | true => rw [if_pos rfl, if_pos rfl, hN]; exact w_foremostGreatest h io N icap ts w hi hN hcap hN2 hf
    | false => rw [if_neg (by simp), if_neg (by simp)]; exact w_foremostGreatest0 h io N icap ts w hi hN hcap hN2 hf
  generalize grtA h ts = x at *
  generalize shE h ts = y at *
  clear hi hN
  go_enter Try.func17, Try.ntmps17
  go_wp2_with fail
  refine HC.out.mono ?_
  rintro e w2 ⟨rfl, hb2⟩
  have HB2 := Hid.mk hb2
  clear hb2
  go_wp2_with fail
  go_ret2
  exact ⟨rfl, HB2.out⟩

/-- how many of a row are below a value -/
def bel (h : Nat) (ts : List VT) (V : VT) : Nat := (ts.filter fun t => decide (cmpH h t V < 0)).length
theorem bel_le (h : Nat) (ts : List VT) (V : VT) : bel h ts V ≤ ts.length := List.length_filter_le ..

/-- what rises is parted by a value -/
theorem rises_cut {h : Nat} {V : VT} (hV : formN h V = true) : ∀ (ts : List VT), (∀ T ∈ ts, formN h T = true) → (∀ j, (hj : j + 1 < ts.length) → 0 ≤ cmpH h ts[j + 1] ts[j]) → (∀ k, k < bel h ts V → cV h ts V k < 0) ∧ (∀ k, bel h ts V ≤ k → k < ts.length → 0 ≤ cV h ts V k)
  | [], _, _ => ⟨fun k hk => absurd hk (Nat.not_lt_zero _), fun k _ hk => absurd hk (Nat.not_lt_zero _)⟩
  | t :: ts, hf, hr => by
    have hrt : ∀ j, (hj : j + 1 < ts.length) → 0 ≤ cmpH h ts[j + 1] ts[j] := fun j hj => hr (j + 1) (by simpa using hj)
    obtain ⟨i1, i2⟩ := rises_cut hV ts (fun T hT => hf T (List.mem_cons_of_mem _ hT)) hrt
    have o := cmpH_ord h
    by_cases h0 : cmpH h t V < 0
    · have e : bel h (t :: ts) V = bel h ts V + 1 := by unfold bel; rw [List.filter_cons_of_pos (by simpa using h0), List.length_cons]
      rw [e]
      refine ⟨fun k hk => ?_, fun k hk hl => ?_⟩
      · cases k with
        | zero => exact h0
        | succ k => exact i1 k (by omega)
      · cases k with
        | zero => omega
        | succ k => exact i2 k (by omega) (by simpa using hl)
    · have ge : ∀ k, (hk : k < ts.length) → 0 ≤ cmpH h ts[k] V := by
        intro k hk
        induction k with
        | zero =>
          have a := hr 0 (by simpa using hk)
          have a' : 0 ≤ cmpH h ts[0] t := a
          have fx := hf t (List.mem_cons_self ..)
          have fy := hf _ (List.mem_cons_of_mem _ (List.getElem_mem hk))
          have s1 := o.sw _ _ fy fx
          have s2 := o.sw _ _ fx hV
          have s3 := o.sw _ _ fy hV
          have t1 := o.tr V t ts[0] hV fx fy (by omega) (by omega)
          omega
        | succ k ih =>
          have a := hrt k hk
          have b := ih (by omega)
          have fx := hf _ (List.mem_cons_of_mem _ (List.getElem_mem (show k < ts.length by omega)))
          have fy := hf _ (List.mem_cons_of_mem _ (List.getElem_mem hk))
          have s1 := o.sw _ _ fy fx
          have s2 := o.sw _ _ fx hV
          have s3 := o.sw _ _ fy hV
          have t1 := o.tr V ts[k] ts[k + 1] hV fx fy (by omega) (by omega)
          omega
      have e0 : bel h ts V = 0 := by
        unfold bel
        rw [List.length_eq_zero_iff, List.filter_eq_nil_iff]
        intro T hT
        obtain ⟨k, hk, rfl⟩ := List.mem_iff_getElem.1 hT
        have := ge k hk
        simp; omega
      have e : bel h (t :: ts) V = 0 := by unfold bel; rw [List.filter_cons_of_neg (by simpa using h0)]; exact e0
      rw [e]
      refine ⟨fun k hk => absurd hk (Nat.not_lt_zero _), fun k _ hl => ?_⟩
      cases k with
      | zero => show 0 ≤ cmpH h t V; omega
      | succ k =>
        have hk : k < ts.length := by simpa using hl
        show 0 ≤ cV h ts V k
        rw [cV_at hk]; exact ge k hk

theorem risB_iff {h : Nat} {ts : List VT} : risB (cK h ts) ts.length = true ↔ ∀ j, (hj : j + 1 < ts.length) → 0 ≤ cmpH h ts[j + 1] ts[j] := by
  unfold risB
  rw [List.all_eq_true]
  constructor
  · intro H j hj
    have := of_decide_eq_true (H j (List.mem_range.2 (by omega)))
    rwa [cK_at hj (by omega)] at this
  · intro H j hj
    have hj' : j + 1 < ts.length := by have := List.mem_range.1 hj; omega
    refine decide_eq_true ?_
    rw [cK_at hj' (by omega)]; exact H j hj'

/-- Search's answers -/
def seA (h : Nat) (ts : List VT) (V : VT) : Int × Bool × Int :=
  if (ts.all (formN h) && formN h V) = true then (if risB (cK h ts) ts.length = true then ((bel h ts V : Int), decide (bel h ts V < ts.length) && decide (cV h ts V (bel h ts V) = 0), 0) else (0, false, 2)) else (0, false, 1)

set_option maxRecDepth 100000 in
set_option maxHeartbeats 3200000 in
theorem w_oSearch (h : Nat) (io : Option Addr) (N icap : Nat) (ts : List VT) (V : VT) (a0 a1 a2 a3 a4 : Value) (w : World) (hi : IIn w h io ts) (hN : ts.length = N) (hcap : N ≤ icap) (hN2 : N ≤ 140737488355328) (hV : InH w h V (.agg #[a0, a1, a2, a3, a4])) :
    Calls Try.prog 18 #[.slice io N icap, .agg #[a0, a1, a2, a3, a4]] w fun e w' => e = .returned (.tuple #[.int .i64 (seA h ts V).1, .bool (seA h ts V).2.1, .int .i64 (seA h ts V).2.2]) ∧ Below w.heap.size w w' := by
  obtain ⟨tk, tnm, ttx, tio, tN, ticap, tko, tK, tkcap, rfl, rfl, rfl, rfl, rfl⟩ := hV.shape
  obtain ⟨w1, hw1⟩ : ∃ w1, w.alloc (.cells #[.int .i64 tk, .string tnm, .string ttx, .slice tio tN ticap, .slice tko tK tkcap] 25) = w1 := ⟨_, rfl⟩
  have HBx : Hid (Below w.heap.size w w1) := by subst hw1; exact below1 _ _
  have HX : Hid (VBx w w1 (.int .i64 tk) (.string tnm) (.string ttx) (.slice tio tN ticap) (.slice tko tK tkcap)) := by subst hw1; exact vbx_new _ _ _ _ _ _
  have HI := Hid.mk (hi.keep HBx.out)
  have HV := Hid.mk (hV.keep HBx.out)
  have HNN := Hid.mk hN
  have HF := Hid.mk (fun u (hb : Below w1.heap.size w1 u) => w_oFormed h io N icap ts u (HI.out.keep hb) HNN.out hcap hN2)
  have HG := Hid.mk (fun u (hb : Below w1.heap.size w1 u) => w_vFormed h V _ u (HV.out.keep hb))
  have HRi := Hid.mk (fun u (hb : Below w1.heap.size w1 u) => w_oRises h io N icap ts u (HI.out.keep hb) HNN.out hcap hN2)
  have HBs : Hid ((∀ T ∈ ts, formN h T = true) → formN h V = true → risB (cK h ts) ts.length = true → ∀ u, Below w1.heap.size w1 u → Calls Try.prog 41 #[.slice io N icap, .agg #[.int .i64 tk, .string tnm, .string ttx, .slice tio tN ticap, .slice tko tK tkcap], .func (.func 35) #[] #[]] u fun e w' => e = .returned (.tuple #[.int .i64 ((bel h ts V : Nat) : Int), .bool (decide (bel h ts V < ts.length) && decide (cV h ts V (bel h ts V) = 0))]) ∧ Below u.heap.size u w') := fun f1 f2 f3 u hb => by
    have c := rises_cut f2 ts f1 (risB_iff.1 f3)
    have := w_BinSearch h io N icap ts V _ _ _ _ _ u (HI.out.keep hb) HNN.out hcap hN2 (HV.out.keep hb) (bel h ts V) (by rw [← HNN.out]; exact bel_le ..) c.1 (fun k h1 h2 => c.2 k h1 (by rw [HNN.out]; exact h2))
    rw [HNN.out]
    exact this
  clear hi hN hV HI HV
  unfold seA
  have y0 := HX.out.c0
  have y1 := HX.out.c1
  have y2 := HX.out.c2
  have y3 := HX.out.c3
  have y4 := HX.out.c4
  cases hf : ts.all (formN h) with
  | false =>
    rw [hf] at HF
    rw [Bool.false_and, if_neg (by simp)]
    clear hf HG HRi HBs y0 y1 y2 y3 y4
    go_enter Try.func18, Try.ntmps18
    go_wp2_with fail
    try simp only [hw1]
    clear hw1
    refine (HF.out w1 (Below.refl _ _)).mono ?_
    rintro e w2 ⟨rfl, hb2⟩
    have HB2 := Hid.mk (below_more HBx.out hb2)
    clear hb2
    go_wp2_with fail
    refine bodyPost_ret (v := .tuple #[.int .i64 0, .bool false, .int .i64 1]) (by simp [results, Try.results18, go_sem]) rfl ?_
    exact ⟨rfl, HB2.out⟩
  | true =>
    rw [hf] at HF
    have HFA : Hid (∀ T ∈ ts, formN h T = true) := fun T hT => (List.all_eq_true.1 hf) T hT
    cases hg : formN h V with
    | false =>
      rw [hg] at HG
      rw [Bool.and_false, if_neg (by simp)]
      clear hf hg HRi HBs
      go_enter Try.func18, Try.ntmps18
      go_wp2_with fail
      try simp only [hw1]
      clear hw1
      refine (HF.out w1 (Below.refl _ _)).mono ?_
      rintro e w2 ⟨rfl, hb2⟩
      have HB1 := Hid.mk hb2
      have HX2 := Hid.mk (HX.out.keep hb2)
      clear hb2 y0 y1 y2 y3 y4
      have y0 := HX2.out.c0
      have y1 := HX2.out.c1
      have y2 := HX2.out.c2
      have y3 := HX2.out.c3
      have y4 := HX2.out.c4
      go_wp2_with fail
      refine (HG.out w2 HB1.out).mono ?_
      rintro e w3 ⟨rfl, hb3⟩
      have HB3 := Hid.mk (below_more HBx.out (HB1.out.trans (hb3.mono HB1.out.size)))
      clear hb3 y0 y1 y2 y3 y4
      go_wp2_with fail
      refine bodyPost_ret (v := .tuple #[.int .i64 0, .bool false, .int .i64 1]) (by simp [results, Try.results18, go_sem]) rfl ?_
      exact ⟨rfl, HB3.out⟩
    | true =>
      rw [hg] at HG
      rw [Bool.and_true, if_pos rfl]
      have HBs2 := Hid.mk (HBs.out HFA.out hg)
      clear HBs
      cases hr : risB (cK h ts) ts.length with
      | false =>
        rw [HNN.out] at hr
        rw [hr] at HRi
        rw [if_neg (by simp)]
        clear hf hg hr HBs2
        go_enter Try.func18, Try.ntmps18
        go_wp2_with fail
        try simp only [hw1]
        clear hw1
        refine (HF.out w1 (Below.refl _ _)).mono ?_
        rintro e w2 ⟨rfl, hb2⟩
        have HB1 := Hid.mk hb2
        have HX2 := Hid.mk (HX.out.keep hb2)
        clear hb2 y0 y1 y2 y3 y4
        have y0 := HX2.out.c0
        have y1 := HX2.out.c1
        have y2 := HX2.out.c2
        have y3 := HX2.out.c3
        have y4 := HX2.out.c4
        go_wp2_with fail
        refine (HG.out w2 HB1.out).mono ?_
        rintro e w3 ⟨rfl, hb3⟩
        have HB3 := Hid.mk (HB1.out.trans (hb3.mono HB1.out.size))
        clear hb3 y0 y1 y2 y3 y4
        go_wp2_with fail
        refine (HRi.out w3 HB3.out).mono ?_
        rintro e w4 ⟨rfl, hb4⟩
        have HB4 := Hid.mk (below_more HBx.out (HB3.out.trans (hb4.mono HB3.out.size)))
        clear hb4
        go_wp2_with fail
        refine bodyPost_ret (v := .tuple #[.int .i64 0, .bool false, .int .i64 2]) (by simp [results, Try.results18, go_sem]) rfl ?_
        exact ⟨rfl, HB4.out⟩
      | true =>
        have HBs3 := Hid.mk (HBs2.out hr)
        rw [HNN.out] at hr
        rw [hr] at HRi
        rw [if_pos rfl]
        clear hf hg hr HBs2
        generalize (decide (bel h ts V < ts.length) && decide (cV h ts V (bel h ts V) = 0)) = x at *
        generalize bel h ts V = m at *
        go_enter Try.func18, Try.ntmps18
        go_wp2_with fail
        try simp only [hw1]
        clear hw1
        refine (HF.out w1 (Below.refl _ _)).mono ?_
        rintro e w2 ⟨rfl, hb2⟩
        have HB1 := Hid.mk hb2
        have HX2 := Hid.mk (HX.out.keep hb2)
        clear hb2 y0 y1 y2 y3 y4
        have y0 := HX2.out.c0
        have y1 := HX2.out.c1
        have y2 := HX2.out.c2
        have y3 := HX2.out.c3
        have y4 := HX2.out.c4
        go_wp2_with fail
        refine (HG.out w2 HB1.out).mono ?_
        rintro e w3 ⟨rfl, hb3⟩
        have HB3 := Hid.mk (HB1.out.trans (hb3.mono HB1.out.size))
        clear hb3 y0 y1 y2 y3 y4
        go_wp2_with fail
        refine (HRi.out w3 HB3.out).mono ?_
        rintro e w4 ⟨rfl, hb4⟩
        have HB4 := Hid.mk (HB3.out.trans (hb4.mono HB3.out.size))
        have HX4 := Hid.mk (HX.out.keep HB4.out)
        clear hb4
        have y0 := HX4.out.c0
        have y1 := HX4.out.c1
        have y2 := HX4.out.c2
        have y3 := HX4.out.c3
        have y4 := HX4.out.c4
        go_wp2_with fail
        refine (HBs3.out w4 HB4.out).mono ?_
        rintro e w5 ⟨rfl, hb5⟩
        have HB5 := Hid.mk (below_more HBx.out (HB4.out.trans (hb5.mono HB4.out.size)))
        clear hb5 y0 y1 y2 y3 y4
        go_wp2_with fail
        refine bodyPost_ret (v := .tuple #[.int .i64 (m : Int), .bool x, .int .i64 0]) (by simp [results, Try.results18, go_sem]) rfl ?_
        exact ⟨rfl, HB5.out⟩
end Go.Proofs.Ytmknelkgfnklfaa
