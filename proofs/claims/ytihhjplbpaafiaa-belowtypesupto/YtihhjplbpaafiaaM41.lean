import Derived.Test.YtihhjplbpaafiaaM37
import Derived.Test.YtihhjplbpaafiaaM32
namespace Go.Proofs.Ytihhjplbpaafiaa
open Go.RowKit Go.Shelf Go.Sort
set_option linter.unusedVariables false
set_option linter.unusedSimpArgs false
attribute [local go_sem] Oper.semAt_some

theorem any_all {f : ByteArray → Bool} (xs : List ByteArray) : (!(List.range xs.length).any fun k => !f (xs.getD k .empty)) = xs.all f := by
  rw [Bool.eq_iff_iff, Bool.not_eq_true', List.any_eq_false, List.all_eq_true]
  constructor
  · intro h x hx
    obtain ⟨k, hk, rfl⟩ := List.getElem_of_mem hx
    have := h k (List.mem_range.2 hk)
    rw [List.getD_eq_getElem?_getD, List.getElem?_eq_getElem hk, Option.getD_some] at this
    simpa using this
  · intro h k hk
    have hk' := List.mem_range.1 hk
    rw [List.getD_eq_getElem?_getD, List.getElem?_eq_getElem hk', Option.getD_some, h _ (List.getElem_mem hk')]
    simp
theorem any_any {f : ByteArray → Bool} (xs : List ByteArray) : ((List.range xs.length).any fun k => f (xs.getD k .empty)) = xs.any f := by
  rw [Bool.eq_iff_iff, List.any_eq_true, List.any_eq_true]
  constructor
  · rintro ⟨k, hk, h⟩
    have hk' := List.mem_range.1 hk
    rw [List.getD_eq_getElem?_getD, List.getElem?_eq_getElem hk', Option.getD_some] at h
    exact ⟨_, List.getElem_mem hk', h⟩
  · rintro ⟨x, hx, h⟩
    obtain ⟨k, hk, rfl⟩ := List.getElem_of_mem hx
    exact ⟨k, List.mem_range.2 hk, by rw [List.getD_eq_getElem?_getD, List.getElem?_eq_getElem hk, Option.getD_some]; exact h⟩
set_option maxHeartbeats 1600000 in
theorem texts_lie1 (B bb ob : Nat) (yo : Option Addr) (N yc : Nat) (s : ByteArray) (r : Bool) (w : World) (p1 : w.cell? ⟨B, 1, none⟩ = some (.pointer (some ⟨bb, ob, none⟩))) (y6 : w.cell? ⟨bb, ob + 6, none⟩ = some (.slice yo N yc))
    (HC : Hid (Calls Try.prog 72 #[.string s, .slice yo N yc] w fun e w' => e = .returned (.bool r) ∧ w' = w)) : Calls Try.prog 71 #[.string s, .pointer (some ⟨B, 0, none⟩)] w fun e w' => e = .returned (.bool (!r)) ∧ w' = w := by
  go_enter Try.func71, Try.ntmps71
  go_wp2_with fail
  refine HC.out.mono ?_
  rintro e w2 ⟨rfl, rfl⟩
  go_wp2_with fail
  go_ret
  exact ⟨rfl, rfl⟩
set_option maxHeartbeats 1600000 in
theorem texts_met1 (B bb ob : Nat) (yo : Option Addr) (N yc : Nat) (s : ByteArray) (r : Bool) (w : World) (p1 : w.cell? ⟨B, 1, none⟩ = some (.pointer (some ⟨bb, ob, none⟩))) (y6 : w.cell? ⟨bb, ob + 6, none⟩ = some (.slice yo N yc))
    (HC : Hid (Calls Try.prog 72 #[.string s, .slice yo N yc] w fun e w' => e = .returned (.bool r) ∧ w' = w)) : Calls Try.prog 81 #[.string s, .pointer (some ⟨B, 0, none⟩)] w fun e w' => e = .returned (.bool (r)) ∧ w' = w := by
  go_enter Try.func81, Try.ntmps81
  go_wp2_with fail
  refine HC.out.mono ?_
  rintro e w2 ⟨rfl, rfl⟩
  go_wp2_with fail
  go_ret
  exact ⟨rfl, rfl⟩
set_option maxRecDepth 100000 in
set_option maxHeartbeats 6400000 in
theorem texts_lie (ba oa bb ob : Nat) (w : World) (la : ba < w.heap.size) (lb : bb < w.heap.size) (an bn : Bool) (xo : Option Addr) (M xc : Nat) (yo : Option Addr) (N yc : Nat) (xs ys : List ByteArray)  (X5 : w.cell? ⟨ba, oa + 5, none⟩ = some (.bool an)) (X6 : w.cell? ⟨ba, oa + 6, none⟩ = some (.slice xo M xc)) (Y5 : w.cell? ⟨bb, ob + 5, none⟩ = some (.bool bn)) (Y6 : w.cell? ⟨bb, ob + 6, none⟩ = some (.slice yo N yc)) (hx : KIn w xo xs) (hy : KIn w yo ys) (hM : xs.length = M) (hN : ys.length = N) (cM : M ≤ xc) (cN : N ≤ yc) (lM : M ≤ 140737488355328) (lN : N ≤ 140737488355328) (hr : rK ys ys.length = true) : Calls Try.prog 57 #[.agg #[.pointer (some ⟨ba, oa, none⟩), .pointer (some ⟨bb, ob, none⟩)]] w fun e w' => e = .returned (.bool (bn || (!an && xs.all fun s => hasK ys s))) ∧ Below w.heap.size w w' := by
  have HA : Hid (∀ u, Bx2c w u w.heap.size (.pointer (some ⟨ba, oa, none⟩)) (.pointer (some ⟨bb, ob, none⟩)) → Calls Try.prog 73 #[.slice xo M xc, .func (.func 71) #[] #[.pointer (some ⟨w.heap.size, 0, none⟩)]] u fun e w' => e = .returned (.bool ((List.range M).any fun k => !hasK ys (xs.getD k .empty))) ∧ Below u.heap.size u w') := fun u hu =>
    has_txl xo M xc (fun k => .string (xs.getD k .empty)) (fun k => !hasK ys (xs.getD k .empty)) w.heap.size u cM lM
      (Hid.mk fun u2 hu2 h0 => by
        obtain ⟨b, off, e, hl, hc⟩ := ((hx.keep hu.below).keep hu2).row (by omega)
        exact ⟨b, off, e, fun k hk => hc k (by omega)⟩)
      (Hid.mk fun k hk u2 hu2 => by
        have hx2 := hu.keep hu2
        have y6 := (hx2.below.cell (p := ⟨_, _, _⟩) lb).trans Y6
        exact (texts_lie1 w.heap.size bb ob yo N yc _ _ u2 hx2.c1 y6 (Hid.mk (w_among yo N yc ys _ u2 (hy.keep hx2.below) hN cN lN hr))).mono fun e w' ⟨he, hw⟩ => ⟨he, by rw [hw]; exact Below.refl _ _⟩)
      (Hid.mk fun k hk => ⟨_, rfl⟩)
  have HM : Hid ((!(List.range M).any fun k => !hasK ys (xs.getD k .empty)) = xs.all fun s => hasK ys s) := by rw [← hM]; exact any_all xs
  generalize ((List.range M).any fun k => !hasK ys (xs.getD k .empty)) = R at HA HM
  generalize (xs.all fun s => hasK ys s) = R2 at HM ⊢
  obtain rfl := HM.out
  clear hx hy hM hN hr HM
  obtain ⟨W0, hW0⟩ : ∃ W0, w.alloc (.cells #[.pointer (some ⟨ba, oa, none⟩), .pointer (some ⟨bb, ob, none⟩)] 63) = W0 := ⟨_, rfl⟩
  have HX : Hid (Bx2c w W0 w.heap.size (.pointer (some ⟨ba, oa, none⟩)) (.pointer (some ⟨bb, ob, none⟩))) := by rw [← hW0]; exact bx2c_new w _ _ _
  cases bn with
  | true =>
    have p0 := HX.out.c0
    have p1 := HX.out.c1
    have x5 := (HX.out.below.cell (p := ⟨_, _, _⟩) la).trans X5
    have x6 := (HX.out.below.cell (p := ⟨_, _, _⟩) la).trans X6
    have y5 := (HX.out.below.cell (p := ⟨_, _, _⟩) lb).trans Y5
    have y6 := (HX.out.below.cell (p := ⟨_, _, _⟩) lb).trans Y6
    go_enter Try.func57, Try.ntmps57
    go_wp2_with fail
    go_ret
    exact ⟨rfl, HX.out.below⟩
  | false =>
    cases an with
    | true =>
      have p0 := HX.out.c0
      have p1 := HX.out.c1
      have x5 := (HX.out.below.cell (p := ⟨_, _, _⟩) la).trans X5
      have x6 := (HX.out.below.cell (p := ⟨_, _, _⟩) la).trans X6
      have y5 := (HX.out.below.cell (p := ⟨_, _, _⟩) lb).trans Y5
      have y6 := (HX.out.below.cell (p := ⟨_, _, _⟩) lb).trans Y6
      go_enter Try.func57, Try.ntmps57
      go_wp2_with fail
      go_ret
      exact ⟨rfl, HX.out.below⟩
    | false =>
      have p0 := HX.out.c0
      have p1 := HX.out.c1
      have x5 := (HX.out.below.cell (p := ⟨_, _, _⟩) la).trans X5
      have x6 := (HX.out.below.cell (p := ⟨_, _, _⟩) la).trans X6
      have y5 := (HX.out.below.cell (p := ⟨_, _, _⟩) lb).trans Y5
      have y6 := (HX.out.below.cell (p := ⟨_, _, _⟩) lb).trans Y6
      go_enter Try.func57, Try.ntmps57
      go_wp2_with fail
      refine (HA.out _ HX.out).mono ?_
      rintro e w2 ⟨rfl, hq⟩
      have HX2 := Hid.mk (HX.out.keep hq)
      clear hq
      go_wp2_with fail
      go_ret
      exact ⟨rfl, HX2.out.below⟩
set_option maxRecDepth 100000 in
set_option maxHeartbeats 6400000 in
theorem texts_met (ba oa bb ob : Nat) (w : World) (la : ba < w.heap.size) (lb : bb < w.heap.size) (an bn : Bool) (xo : Option Addr) (M xc : Nat) (yo : Option Addr) (N yc : Nat) (xs ys : List ByteArray)  (X5 : w.cell? ⟨ba, oa + 5, none⟩ = some (.bool an)) (X6 : w.cell? ⟨ba, oa + 6, none⟩ = some (.slice xo M xc)) (Y5 : w.cell? ⟨bb, ob + 5, none⟩ = some (.bool bn)) (Y6 : w.cell? ⟨bb, ob + 6, none⟩ = some (.slice yo N yc)) (hx : KIn w xo xs) (hy : KIn w yo ys) (hM : xs.length = M) (hN : ys.length = N) (cM : M ≤ xc) (cN : N ≤ yc) (lM : M ≤ 140737488355328) (lN : N ≤ 140737488355328) (hr : rK ys ys.length = true) : Calls Try.prog 67 #[.agg #[.pointer (some ⟨ba, oa, none⟩), .pointer (some ⟨bb, ob, none⟩)]] w fun e w' => e = .returned (.bool (if an then bn || decide (0 < N) else if bn then decide (0 < M) else xs.any fun s => hasK ys s)) ∧ Below w.heap.size w w' := by
  have HA : Hid (∀ u, Bx2c w u w.heap.size (.pointer (some ⟨ba, oa, none⟩)) (.pointer (some ⟨bb, ob, none⟩)) → Calls Try.prog 73 #[.slice xo M xc, .func (.func 81) #[] #[.pointer (some ⟨w.heap.size, 0, none⟩)]] u fun e w' => e = .returned (.bool ((List.range M).any fun k => hasK ys (xs.getD k .empty))) ∧ Below u.heap.size u w') := fun u hu =>
    has_txm xo M xc (fun k => .string (xs.getD k .empty)) (fun k => hasK ys (xs.getD k .empty)) w.heap.size u cM lM
      (Hid.mk fun u2 hu2 h0 => by
        obtain ⟨b, off, e, hl, hc⟩ := ((hx.keep hu.below).keep hu2).row (by omega)
        exact ⟨b, off, e, fun k hk => hc k (by omega)⟩)
      (Hid.mk fun k hk u2 hu2 => by
        have hx2 := hu.keep hu2
        have y6 := (hx2.below.cell (p := ⟨_, _, _⟩) lb).trans Y6
        exact (texts_met1 w.heap.size bb ob yo N yc _ _ u2 hx2.c1 y6 (Hid.mk (w_among yo N yc ys _ u2 (hy.keep hx2.below) hN cN lN hr))).mono fun e w' ⟨he, hw⟩ => ⟨he, by rw [hw]; exact Below.refl _ _⟩)
      (Hid.mk fun k hk => ⟨_, rfl⟩)
  have HM : Hid (((List.range M).any fun k => hasK ys (xs.getD k .empty)) = xs.any fun s => hasK ys s) := by rw [← hM]; exact any_any xs
  generalize ((List.range M).any fun k => hasK ys (xs.getD k .empty)) = R at HA HM
  generalize (xs.any fun s => hasK ys s) = R2 at HM ⊢
  obtain rfl := HM.out
  clear hx hy hM hN hr HM
  obtain ⟨W0, hW0⟩ : ∃ W0, w.alloc (.cells #[.pointer (some ⟨ba, oa, none⟩), .pointer (some ⟨bb, ob, none⟩)] 63) = W0 := ⟨_, rfl⟩
  have HX : Hid (Bx2c w W0 w.heap.size (.pointer (some ⟨ba, oa, none⟩)) (.pointer (some ⟨bb, ob, none⟩))) := by rw [← hW0]; exact bx2c_new w _ _ _
  cases an with
  | true =>
    cases bn with
    | true =>
      have p0 := HX.out.c0
      have p1 := HX.out.c1
      have x5 := (HX.out.below.cell (p := ⟨_, _, _⟩) la).trans X5
      have x6 := (HX.out.below.cell (p := ⟨_, _, _⟩) la).trans X6
      have y5 := (HX.out.below.cell (p := ⟨_, _, _⟩) lb).trans Y5
      have y6 := (HX.out.below.cell (p := ⟨_, _, _⟩) lb).trans Y6
      go_enter Try.func67, Try.ntmps67
      go_wp2_with fail
      go_ret
      exact ⟨rfl, HX.out.below⟩
    | false =>
      have p0 := HX.out.c0
      have p1 := HX.out.c1
      have x5 := (HX.out.below.cell (p := ⟨_, _, _⟩) la).trans X5
      have x6 := (HX.out.below.cell (p := ⟨_, _, _⟩) la).trans X6
      have y5 := (HX.out.below.cell (p := ⟨_, _, _⟩) lb).trans Y5
      have y6 := (HX.out.below.cell (p := ⟨_, _, _⟩) lb).trans Y6
      go_enter Try.func67, Try.ntmps67
      go_wp2_with fail
      go_ret
      exact ⟨by first | rfl | simp, HX.out.below⟩
  | false =>
    cases bn with
    | true =>
      have p0 := HX.out.c0
      have p1 := HX.out.c1
      have x5 := (HX.out.below.cell (p := ⟨_, _, _⟩) la).trans X5
      have x6 := (HX.out.below.cell (p := ⟨_, _, _⟩) la).trans X6
      have y5 := (HX.out.below.cell (p := ⟨_, _, _⟩) lb).trans Y5
      have y6 := (HX.out.below.cell (p := ⟨_, _, _⟩) lb).trans Y6
      go_enter Try.func67, Try.ntmps67
      go_wp2_with fail
      go_ret
      exact ⟨by first | rfl | simp, HX.out.below⟩
    | false =>
      have p0 := HX.out.c0
      have p1 := HX.out.c1
      have x5 := (HX.out.below.cell (p := ⟨_, _, _⟩) la).trans X5
      have x6 := (HX.out.below.cell (p := ⟨_, _, _⟩) la).trans X6
      have y5 := (HX.out.below.cell (p := ⟨_, _, _⟩) lb).trans Y5
      have y6 := (HX.out.below.cell (p := ⟨_, _, _⟩) lb).trans Y6
      go_enter Try.func67, Try.ntmps67
      go_wp2_with fail
      refine (HA.out _ HX.out).mono ?_
      rintro e w2 ⟨rfl, hq⟩
      have HX2 := Hid.mk (HX.out.keep hq)
      clear hq
      go_wp2_with fail
      go_ret
      exact ⟨rfl, HX2.out.below⟩
end Go.Proofs.Ytihhjplbpaafiaa
