import Derived.Test.YtahknjhphbpmiaaZCM4
namespace Go.Proofs.Ytahknjhphbpmiaa
open Go.RowKit Go.Shelf Go.Sort
set_option linter.unusedVariables false
set_option linter.unusedSimpArgs false
attribute [local go_sem] Oper.semAt_some


set_option maxRecDepth 100000 in
set_option maxHeartbeats 6400000 in
theorem w_cfSpan (ao : Option Addr) (M acap : Nat) (xs : List (ByteArray × ByteArray)) (bo : Option Addr) (N bcap : Nat) (ys : List (ByteArray × ByteArray)) (w : World) (ha : SpIn w ao xs) (hb : SpIn w bo ys) (hM : xs.length = M) (hN : ys.length = N) (hac : M ≤ acap) (hbc : N ≤ bcap) (hM2 : M ≤ 140737488355328) (hN2 : N ≤ 140737488355328) (hsx : ∀ p ∈ xs, p.1.size ≤ 140737488355328 ∧ p.2.size ≤ 140737488355328) (hsy : ∀ p ∈ ys, p.1.size ≤ 140737488355328 ∧ p.2.size ≤ 140737488355328) :
    Calls Try.prog 65 #[.slice ao M acap, .slice bo N bcap, .func (.func 66) #[] #[]] w fun e w' => e = .returned (.int .i64 (listC spC xs ys)) ∧ Below w.heap.size w w' := by
  have HA := Hid.mk ha
  have HB := Hid.mk hb
  have HM := Hid.mk hM
  have HN := Hid.mk hN
  have HSX := Hid.mk hsx
  have HSY := Hid.mk hsy
  clear hsx hsy
  clear ha hb hM hN
  go_enter Try.func65, Try.ntmps65
  go_wp2_with fail
  go_loopw [13] (fun i wr => ∃ k : Nat, k ≤ M ∧ k ≤ N ∧ i = .int .i64 (k : Int) ∧ Hid (Below w.heap.size w wr) ∧ Hid (listC spC xs ys = listC spC (xs.drop k) (ys.drop k))) (fun i _ => M - (intOf i).toNat)
  case atStart => exact ⟨0, Nat.zero_le _, Nat.zero_le _, rfl, Below.refl _ _, rfl⟩
  case round =>
    obtain ⟨k, hk, hk2, rfl, HBw, HQ⟩ := hrel
    by_cases hlt : k < M
    · have hl1 : (k : Int) < (M : Int) := by omega
      have hka : k < xs.length := by rw [HM.out]; exact hlt
      obtain ⟨b, off, hko, hbl, hrow⟩ := (HA.out.keep HBw.out).row (by omega)
      subst hko
      obtain ⟨c0, c1⟩ := hrow k hka
      have hz1 := HSX.out _ (List.getElem_mem hka)
      by_cases hlt2 : k < N
      · have hl2 : ¬ (N : Int) ≤ (k : Int) := by omega
        have hl3 : (k : Int) < (N : Int) := by omega
        have hkb : k < ys.length := by rw [HN.out]; exact hlt2
        obtain ⟨b2, off2, hko2, hbl2, hrow2⟩ := (HB.out.keep HBw.out).row (by omega)
        subst hko2
        obtain ⟨d0, d1⟩ := hrow2 k hkb
        have hz2 := HSY.out _ (List.getElem_mem hkb)
        have HBx := Hid.mk (below2 wr (.cells #[.string xs[k].1, .string xs[k].2] 41) (.cells #[.string ys[k].1, .string ys[k].2] 41))
        have HS := Hid.mk (listC_step (c := spC) hka hkb)
        have HC := Hid.mk (w_bySpan xs[k].1 xs[k].2 ys[k].1 ys[k].2 ((wr.alloc (.cells #[.string xs[k].1, .string xs[k].2] 41)).alloc (.cells #[.string ys[k].1, .string ys[k].2] 41)) hz1.1 hz1.2 hz2.1 hz2.2)
        have e0 : ∀ j o, (wr.alloc o).cell? ⟨b2, j, none⟩ = wr.cell? ⟨b2, j, none⟩ := fun j o => (below1 wr o).cell (p := ⟨b2, j, none⟩) hbl2
        have d0' := fun o => (e0 _ o).trans d0
        have d1' := fun o => (e0 _ o).trans d1
        generalize spC xs[k] ys[k] = c at *
        generalize xs[k].1 = g0 at *
        generalize xs[k].2 = g1 at *
        generalize ys[k].1 = g2 at *
        generalize ys[k].2 = g3 at *
        clear hrow hrow2 hbl hbl2 hka hkb hz1 hz2 e0 d0 d1
        by_cases h0 : c = 0
        · have HN2 : Hid (listC spC xs ys = listC spC (xs.drop (k + 1)) (ys.drop (k + 1))) := by show _ = _; rw [HQ.out, HS.out, if_pos h0]
          subst h0
          clear HS
          go_wp2_with fail
          refine HC.out.mono ?_
          rintro e w2 ⟨rfl, hb2⟩
          have HB2 := Hid.mk (HBw.out.trans ((below_more HBx.out hb2).mono HBw.out.size))
          clear hb2 c0 c1 d0' d1'
          go_wp2_with fail
          go_roundw
          case rel => exact ⟨k + 1, hlt, hlt2, by go_num, HB2, HN2⟩
          case measure => simp [intOf]; omega
        · have HN2 : Hid (listC spC xs ys = c) := by show _ = _; rw [HQ.out, HS.out, if_neg h0]
          have h0' : (c != 0) = true := by simpa using h0
          clear h0 HS
          go_wp2_with fail
          refine HC.out.mono ?_
          rintro e w2 ⟨rfl, hb2⟩
          have HB2 := Hid.mk (HBw.out.trans ((below_more HBx.out hb2).mono HBw.out.size))
          clear hb2 c0 c1 d0' d1'
          go_wp2_with fail
          go_ret
          exact ⟨by rw [HN2.out]; rfl, HB2.out⟩
      · have hl2 : (N : Int) ≤ (k : Int) := by omega
        have HF : Hid (listC spC xs ys = 1) := by show _ = _; rw [HQ.out]; exact listC_more hka (by rw [HN.out]; omega)
        have HBx := Hid.mk (HBw.out.trans ((below1 wr (.cells #[.string xs[k].1, .string xs[k].2] 41)).mono HBw.out.size))
        clear hrow hbl hz1
        generalize xs[k].1 = g0 at *
        generalize xs[k].2 = g1 at *
        clear hka
        go_wp2_with fail
        go_ret
        exact ⟨by rw [HF.out]; rfl, HBx.out⟩
    · have hl1 : ¬ (k : Int) < (M : Int) := by omega
      by_cases hlt2 : M < N
      · have hl2 : (M : Int) < (N : Int) := by omega
        have HF : Hid (listC spC xs ys = -1) := by show _ = _; rw [HQ.out]; exact listC_less (by rw [HM.out]; omega) (by rw [HN.out]; omega)
        go_wp2_with fail
        go_ret
        exact ⟨by rw [HF.out]; rfl, HBw.out⟩
      · have hl2 : ¬ (M : Int) < (N : Int) := by omega
        have HF : Hid (listC spC xs ys = 0) := by show _ = _; rw [HQ.out]; exact listC_even (by rw [HM.out]; omega) (by rw [HN.out]; omega)
        go_wp2_with fail
        go_ret
        exact ⟨by rw [HF.out]; rfl, HBw.out⟩
end Go.Proofs.Ytahknjhphbpmiaa
