import Derived.Test.YtahknjhphbpmiaaZCM2
namespace Go.Proofs.Ytahknjhphbpmiaa
open Go.RowKit Go.Shelf Go.Sort
set_option linter.unusedVariables false
set_option linter.unusedSimpArgs false
attribute [local go_sem] Oper.semAt_some

/-- shape.Cmp, at a height -/
def FcT (h : Nat) : Prop := ∀ (A B : TT) (va vb : Value) (w : World), InT w h A va → InT w h B vb → Calls Try.prog 9 #[va, vb] w fun e w' => e = .returned (.int .i64 (cmpTy h A B)) ∧ Below w.heap.size w w'
/-- byArr, at a height -/
def FcA (h : Nat) : Prop := ∀ (a b : AR) (c0 c1 c2 c3 c4 c5 c6 c7 c8 d0 d1 d2 d3 d4 d5 d6 d7 d8 : Value) (w : World), InT w h a.item (.agg #[c0, c1, c2, c3, c4, c5, c6, c7, c8]) → InT w h b.item (.agg #[d0, d1, d2, d3, d4, d5, d6, d7, d8]) →
  Calls Try.prog 69 #[.agg #[c0, c1, c2, c3, c4, c5, c6, c7, c8, .int .i64 a.min, .int .i64 a.max], .agg #[d0, d1, d2, d3, d4, d5, d6, d7, d8, .int .i64 b.min, .int .i64 b.max]] w fun e w' => e = .returned (.int .i64 (arC (cmpTy h) a b)) ∧ Below w.heap.size w w'
/-- byObj, at a height -/
def FcO (h : Nat) : Prop := ∀ (a b : OB) (ko fo mo lo go po : Option Addr) (kc fc mc lc gc pc : Nat) (c0 c1 c2 c3 c4 c5 c6 c7 c8 d0 d1 d2 d3 d4 d5 d6 d7 d8 : Value) (w : World), InO w h a ko kc fo fc mo mc c0 c1 c2 c3 c4 c5 c6 c7 c8 → InO w h b lo lc go gc po pc d0 d1 d2 d3 d4 d5 d6 d7 d8 →
  Calls Try.prog 71 #[.agg #[.slice ko a.names.length kc, .slice fo a.fields.length fc, .slice mo a.must.length mc, c0, c1, c2, c3, c4, c5, c6, c7, c8], .agg #[.slice lo b.names.length lc, .slice go b.fields.length gc, .slice po b.must.length pc, d0, d1, d2, d3, d4, d5, d6, d7, d8]] w fun e w' => e = .returned (.int .i64 (obC (cmpTy h) a b)) ∧ Below w.heap.size w w'

set_option maxRecDepth 100000 in
set_option maxHeartbeats 3200000 in
theorem w_cfBool (ao : Option Addr) (M acap : Nat) (xs : List Bool) (bo : Option Addr) (N bcap : Nat) (ys : List Bool) (w : World) (ha : BoIn w ao xs) (hb : BoIn w bo ys) (hM : xs.length = M) (hN : ys.length = N) (hac : M ≤ acap) (hbc : N ≤ bcap) (hM2 : M ≤ 140737488355328) (hN2 : N ≤ 140737488355328) :
    Calls Try.prog 84 #[.slice ao M acap, .slice bo N bcap, .func (.func 64) #[] #[]] w fun e w' => e = .returned (.int .i64 (listC setC xs ys)) ∧ w' = w := by
  have HA := Hid.mk ha
  have HB := Hid.mk hb
  have HM := Hid.mk hM
  have HN := Hid.mk hN
  clear ha hb hM hN
  go_enter Try.func84, Try.ntmps84
  go_wp2_with fail
  go_loopw [13] (fun i wr => ∃ k : Nat, k ≤ M ∧ k ≤ N ∧ i = .int .i64 (k : Int) ∧ wr = w ∧ Hid (listC setC xs ys = listC setC (xs.drop k) (ys.drop k))) (fun i _ => M - (intOf i).toNat)
  case atStart => exact ⟨0, Nat.zero_le _, Nat.zero_le _, rfl, rfl, rfl⟩
  case round =>
    obtain ⟨k, hk, hk2, rfl, rfl, HQ⟩ := hrel
    by_cases hlt : k < M
    · have hl1 : (k : Int) < (M : Int) := by omega
      have hka : k < xs.length := by rw [HM.out]; exact hlt
      obtain ⟨b, off, hko, hbl, hrow⟩ := HA.out.row (by omega)
      subst hko
      have c0 := hrow k hka
      by_cases hlt2 : k < N
      · have hl2 : ¬ (N : Int) ≤ (k : Int) := by omega
        have hl3 : (k : Int) < (N : Int) := by omega
        have hkb : k < ys.length := by rw [HN.out]; exact hlt2
        obtain ⟨b2, off2, hko2, hbl2, hrow2⟩ := HB.out.row (by omega)
        subst hko2
        have c1 := hrow2 k hkb
        have HS := Hid.mk (listC_step (c := setC) hka hkb)
        have HC := Hid.mk (fun u => w_bySet xs[k] ys[k] u)
        generalize xs[k] = x at *
        generalize ys[k] = y at *
        clear hrow hrow2 hbl hbl2 hka hkb
        by_cases h0 : setC x y = 0
        · have HN2 : Hid (listC setC xs ys = listC setC (xs.drop (k + 1)) (ys.drop (k + 1))) := by show _ = _; rw [HQ.out, HS.out, if_pos h0]
          rw [h0] at HC
          clear h0 HS
          go_wp2_with fail
          refine (HC.out _).mono ?_
          rintro e w2 ⟨rfl, hw⟩
          obtain rfl := hw.symm
          go_wp2_with fail
          go_roundw
          case rel => exact ⟨k + 1, hlt, hlt2, by go_num, by first | trivial | rfl, HN2⟩
          case measure => simp [intOf]; omega
        · have HN2 : Hid (listC setC xs ys = setC x y) := by show _ = _; rw [HQ.out, HS.out, if_neg h0]
          have h0' : (setC x y != 0) = true := by simpa using h0
          generalize setC x y = c at *
          clear h0 HS
          go_wp2_with fail
          refine (HC.out _).mono ?_
          rintro e w2 ⟨rfl, hw⟩
          obtain rfl := hw.symm
          go_wp2_with fail
          go_ret
          exact ⟨by rw [HN2.out]; rfl, rfl⟩
      · have hl2 : (N : Int) ≤ (k : Int) := by omega
        have HF : Hid (listC setC xs ys = 1) := by show _ = _; rw [HQ.out]; exact listC_more hka (by rw [HN.out]; omega)
        generalize xs[k] = x at c0
        clear hrow hbl hka
        go_wp2_with fail
        go_ret
        exact ⟨by rw [HF.out]; rfl, rfl⟩
    · have hl1 : ¬ (k : Int) < (M : Int) := by omega
      by_cases hlt2 : M < N
      · have hl2 : (M : Int) < (N : Int) := by omega
        have HF : Hid (listC setC xs ys = -1) := by show _ = _; rw [HQ.out]; exact listC_less (by rw [HM.out]; omega) (by rw [HN.out]; omega)
        go_wp2_with fail
        go_ret
        exact ⟨by rw [HF.out]; rfl, rfl⟩
      · have hl2 : ¬ (M : Int) < (N : Int) := by omega
        have HF : Hid (listC setC xs ys = 0) := by show _ = _; rw [HQ.out]; exact listC_even (by rw [HM.out]; omega) (by rw [HN.out]; omega)
        go_wp2_with fail
        go_ret
        exact ⟨by rw [HF.out]; rfl, rfl⟩

end Go.Proofs.Ytahknjhphbpmiaa
namespace Go.Proofs.Ytahknjhphbpmiaa
open Go.RowKit Go.Shelf Go.Sort
set_option linter.unusedVariables false
set_option linter.unusedSimpArgs false
attribute [local go_sem] Oper.semAt_some

set_option maxRecDepth 100000 in
set_option maxHeartbeats 1600000 in
theorem w_bySpan (al ah bl bh : ByteArray) (w : World) (h1 : al.size ≤ 140737488355328) (h2 : ah.size ≤ 140737488355328) (h3 : bl.size ≤ 140737488355328) (h4 : bh.size ≤ 140737488355328) : Calls Try.prog 66 #[.agg #[.string al, .string ah], .agg #[.string bl, .string bh]] w fun e w' => e = .returned (.int .i64 (spC (al, ah) (bl, bh))) ∧ Below w.heap.size w w' := by
  have HX := Hid.mk (bx2_new w #[.string al, .string ah] #[.string bl, .string bh] 41)
  obtain ⟨W0, hW0⟩ : ∃ W0, (w.alloc (.cells #[.string al, .string ah] 41)).alloc (.cells #[.string bl, .string bh] 41) = W0 := ⟨_, rfl⟩
  rw [hW0] at HX
  have c0 : W0.cell? ⟨w.heap.size, 0, none⟩ = some (.string al) := HX.out.one 0
  have c1 : W0.cell? ⟨w.heap.size, 1, none⟩ = some (.string ah) := HX.out.one 1
  have c2 : W0.cell? ⟨w.heap.size + 1, 0, none⟩ = some (.string bl) := HX.out.two 0
  have c3 : W0.cell? ⟨w.heap.size + 1, 1, none⟩ = some (.string bh) := HX.out.two 1
  have HG : Hid (spC (al, ah) (bl, bh) = Pl.orI (bdC al bl (-1)) (bdC ah bh 1)) := rfl
  have C1 := Hid.mk (fun (d : Nat) (os : Array Obj) => w_byBound al bl (-1) (grow (redrawn W0 d) os) (.inl rfl) h1 h3)
  have C2 := Hid.mk (fun (d : Nat) (os : Array Obj) => w_byBound ah bh 1 (grow (redrawn W0 d) os) (.inr rfl) h2 h4)
  generalize bdC al bl (-1) = x at C1 HG
  generalize bdC ah bh 1 = y at C2 HG
  have A0 := fun d os => cell_regrown c0 d os
  have A1 := fun d os => cell_regrown c1 d os
  have A2 := fun d os => cell_regrown c2 d os
  have A3 := fun d os => cell_regrown c3 d os
  clear h1 h2 h3 h4
  go_enter Try.func66, Try.ntmps66
  go_wp2_with fail
  refine wp_region_quiet_at 10 (by kernel_rfl) (by kernel_rfl) (by kernel_rfl) (by kernel_rfl) (by kernel_rfl) ?_
  simp only [List.take_succ_cons, List.take_zero, List.drop_succ_cons, List.drop_zero]
  iterate 5 (go_big_quiet_step (exact Calls.regrown_of (C1.out _ _)))
  iterate 5 (go_big_quiet_step (exact Calls.regrown_of (C2.out _ _)))
  refine wpQuiet_nil ?_
  intro w9 hw'
  have hb9 : Below W0.heap.size W0 w9 := by
    obtain ⟨⟨dq, osq⟩, rfl⟩ := hw'
    exact below_regrown W0 dq osq
  have HX9 := Hid.mk (HX.out.keep hb9)
  clear hw' hb9 hW0 A0 A1 A2 A3 c0 c1 c2 c3 C1 C2
  go_wp2_with fail
  refine (w_Or2 w9.heap.size x y _ (by simp) (by simp)).mono ?_
  rintro e w1 ⟨rfl, rfl⟩
  go_wp2_with fail
  go_ret
  exact ⟨by rw [HG.out]; rfl, HX9.out.below.alloc HX9.out.below.size _⟩
end Go.Proofs.Ytahknjhphbpmiaa
