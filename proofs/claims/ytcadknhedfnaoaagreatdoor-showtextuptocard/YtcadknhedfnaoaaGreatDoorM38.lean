import Derived.Test.YtcadknhedfnaoaaGreatDoorM36
import Derived.Test.YtcadknhedfnaoaaGreatDoorM37
namespace Go.Proofs.YtcadknhedfnaoaaGreatDoor
open Go.RowKit Go.Shelf Go.Sort
set_option linter.unusedVariables false
set_option linter.unusedSimpArgs false
attribute [local go_sem] Oper.semAt_some

set_option maxRecDepth 100000 in
set_option maxHeartbeats 3200000 in
theorem w_index (w0 : World) (S h g o b off N kc : Nat) (K : Nat → NT) (t : Nat → List UInt8) (c9 : w0.cell? ⟨g, o + 9, none⟩ = some (.slice (some ⟨b, off, none⟩) N kc)) (hcap : N ≤ kc) (hbig : N ≤ 140737488355328) (hN : 2 ≤ N) (hz : (K 1).value.text.size ≤ 1048576) (hT : ∀ i, i < N → Say w0 S 15 #[.pointer (some ⟨S, 0, none⟩), .pointer (some ⟨b, off + i * 10, none⟩)] (t i)) (hA : ∀ i, i < N → NAt w0 (h + 1) (K i) b (off + i * 10) ∧ 0 ≤ (K i).op ∧ (K i).op < 44) : Say w0 S 70 #[.pointer (some ⟨S, 0, none⟩), .pointer (some ⟨g, o, none⟩)] (sIndex K t) := by
  have q0 : ((0 : Int) < (N : Int)) := by omega
  have q1 : ((1 : Int) < (N : Int)) := by omega
  have HT : Hid (∀ i, i < N → Say w0 S 15 #[.pointer (some ⟨S, 0, none⟩), .pointer (some ⟨b, off + i * 10, none⟩)] (t i)) := hT
  have HBs : Hid (∀ i, i < N → Say w0 S 108 #[.pointer (some ⟨S, 0, none⟩), .pointer (some ⟨b, off + i * 10, none⟩)] (pBs (t i) (K i))) := fun i hi => w_base w0 S h (K i) b (off + i * 10) (t i) (hA i hi).1 (hA i hi).2 (hT i hi)
  have HT1 := Hid.mk (HT.out 1 (by omega))
  have HBs0 := Hid.mk (HBs.out 0 (by omega))
  have HX : Hid (∀ u, Below w0.heap.size w0 u → Calls Tryz.prog 109 #[.pointer (some ⟨b, off + 1 * 10, none⟩)] u fun e w' => e = .returned (.bool (pTx (K 1))) ∧ w' = u) := fun u hu => w_isTextP h (K 1) b (off + 1 * 10) u ((hA 1 (by omega)).1.keep hu)
  have HNm := Hid.mk (fun u => w_Named (K 1).value.text u (by omega))
  obtain ⟨HC5, HC0⟩ : Hid (w0.cell? ⟨b, off + 10 + 5, none⟩ = some (.string (K 1).value.text)) ∧ Hid (w0.cell? ⟨b, off, none⟩ = some (.int .i64 (K 0).op)) := by
    obtain ⟨aio, aic, ayo, ayc, ano, anc, ako, akc, HA⟩ := (hA 0 (by omega)).1.open_
    obtain ⟨bio, bic, byo, byc, bno, bnc, bko, bkc, HB⟩ := (hA 1 (by omega)).1.open_
    exact ⟨by show _ = _; have := HB.c5; simpa using this, by show _ = _; have := HA.c0; simpa using this⟩
  have HC9 := Hid.mk c9
  have e10 : off + 1 * 10 = off + 10 := by omega
  have e00 : off + 0 * 10 = off := by omega
  rw [e10] at HX HT1
  rw [e00] at HBs0
  clear hT hA c9 HT HBs hz e10 e00
  unfold sIndex
  generalize (K 1).value.text = tx at *
  generalize pTx (K 1) = bt at *
  generalize (K 0).op = op0 at *
  generalize pBs (t 0) (K 0) = BS at *
  cases bt with
  | false =>
    rw [if_neg (fun h => by cases h.1)]
    intro w l hP hlen
    have HP0 := Hid.mk (And.intro hP (Lib.OthersKept.refl 5 (some S) w))
    have HL := Hid.mk hlen
    clear hP hlen
    go_enter Tryz.func70, Tryz.ntmps70
    have c90 := (HP0.out.1.low.cell (p := ⟨g, o + 9, none⟩) (block_lt_of_cell HC9.out)).trans HC9.out
    have c50 := (HP0.out.1.low.cell (p := ⟨b, off + 10 + 5, none⟩) (block_lt_of_cell HC5.out)).trans HC5.out
    have c00 := (HP0.out.1.low.cell (p := ⟨b, off, none⟩) (block_lt_of_cell HC0.out)).trans HC0.out
    go_wp2_with fail
    have C9r := fun d os => cell_regrown c90 d os
    refine wp_region_quiet_below (by kernel_rfl) (by kernel_rfl) ?_
    repeat (go_big_quiet_step (fail))
    refine wpQuiet_nil ?_
    intro wq hw'
    have HP1 : Hid (PS w0 S wq l ∧ Lib.OthersKept 5 (some S) w wq) := by
      obtain ⟨⟨dq, osq⟩, rfl⟩ := hw'
      exact ⟨HP0.out.1.keep (below_regrown w dq osq), ok_low (below_regrown w dq osq)⟩
    clear hw' C9r c90 c50 c00
    have c91 := (HP1.out.1.low.cell (p := ⟨g, o + 9, none⟩) (block_lt_of_cell HC9.out)).trans HC9.out
    have c51 := (HP1.out.1.low.cell (p := ⟨b, off + 10 + 5, none⟩) (block_lt_of_cell HC5.out)).trans HC5.out
    have c01 := (HP1.out.1.low.cell (p := ⟨b, off, none⟩) (block_lt_of_cell HC0.out)).trans HC0.out
    go_wp2_with fail
    refine (HBs0.out _ _ HP1.out.1 (by have := HL.out; (try simp only [List.length_append, List.length_cons, List.length_nil] at this ⊢); omega)).mono ?_
    rintro e w2 ⟨rfl, hp, hk⟩
    have HP2 : Hid (PS w0 S w2 (l ++ (BS)) ∧ Lib.OthersKept 5 (some S) w w2) := ⟨hp, HP1.out.2.trans hk⟩
    clear hp hk
    clear c91 c51 c01
    have c92 := (HP2.out.1.low.cell (p := ⟨g, o + 9, none⟩) (block_lt_of_cell HC9.out)).trans HC9.out
    have c52 := (HP2.out.1.low.cell (p := ⟨b, off + 10 + 5, none⟩) (block_lt_of_cell HC5.out)).trans HC5.out
    have c02 := (HP2.out.1.low.cell (p := ⟨b, off, none⟩) (block_lt_of_cell HC0.out)).trans HC0.out
    go_wp2_with fail
    refine (HX.out _ HP2.out.1.low).mono ?_
    rintro e wx ⟨rfl, hwx⟩
    obtain rfl := hwx.symm
    clear c92 c52 c02
    have c92 := (HP2.out.1.low.cell (p := ⟨g, o + 9, none⟩) (block_lt_of_cell HC9.out)).trans HC9.out
    have c52 := (HP2.out.1.low.cell (p := ⟨b, off + 10 + 5, none⟩) (block_lt_of_cell HC5.out)).trans HC5.out
    have c02 := (HP2.out.1.low.cell (p := ⟨b, off, none⟩) (block_lt_of_cell HC0.out)).trans HC0.out
    go_wp2_with fail
    refine (w_put1 HP2.out.1 _ ([91]) rfl (by have := HL.out; (try simp only [List.length_append, List.length_cons, List.length_nil] at this ⊢); omega)).mono ?_
    rintro e w3 ⟨rfl, hp, hk⟩
    have HP3 : Hid (PS w0 S w3 (l ++ (BS) ++ ([91])) ∧ Lib.OthersKept 5 (some S) w w3) := ⟨hp, HP2.out.2.trans hk⟩
    clear hp hk
    clear c92 c52 c02
    have c93 := (HP3.out.1.low.cell (p := ⟨g, o + 9, none⟩) (block_lt_of_cell HC9.out)).trans HC9.out
    have c53 := (HP3.out.1.low.cell (p := ⟨b, off + 10 + 5, none⟩) (block_lt_of_cell HC5.out)).trans HC5.out
    have c03 := (HP3.out.1.low.cell (p := ⟨b, off, none⟩) (block_lt_of_cell HC0.out)).trans HC0.out
    go_wp2_with fail
    refine (HT1.out _ _ HP3.out.1 (by have := HL.out; (try simp only [List.length_append, List.length_cons, List.length_nil] at this ⊢); omega)).mono ?_
    rintro e w4 ⟨rfl, hp, hk⟩
    have HP4 : Hid (PS w0 S w4 (l ++ (BS) ++ ([91]) ++ (t 1)) ∧ Lib.OthersKept 5 (some S) w w4) := ⟨hp, HP3.out.2.trans hk⟩
    clear hp hk
    clear c93 c53 c03
    have c94 := (HP4.out.1.low.cell (p := ⟨g, o + 9, none⟩) (block_lt_of_cell HC9.out)).trans HC9.out
    have c54 := (HP4.out.1.low.cell (p := ⟨b, off + 10 + 5, none⟩) (block_lt_of_cell HC5.out)).trans HC5.out
    have c04 := (HP4.out.1.low.cell (p := ⟨b, off, none⟩) (block_lt_of_cell HC0.out)).trans HC0.out
    go_wp2_with fail
    refine (w_put1 HP4.out.1 _ ([93]) rfl (by have := HL.out; (try simp only [List.length_append, List.length_cons, List.length_nil] at this ⊢); omega)).mono ?_
    rintro e w5 ⟨rfl, hp, hk⟩
    have HP5 : Hid (PS w0 S w5 (l ++ (BS) ++ ([91]) ++ (t 1) ++ ([93])) ∧ Lib.OthersKept 5 (some S) w w5) := ⟨hp, HP4.out.2.trans hk⟩
    clear hp hk
    clear c94 c54 c04
    have c95 := (HP5.out.1.low.cell (p := ⟨g, o + 9, none⟩) (block_lt_of_cell HC9.out)).trans HC9.out
    have c55 := (HP5.out.1.low.cell (p := ⟨b, off + 10 + 5, none⟩) (block_lt_of_cell HC5.out)).trans HC5.out
    have c05 := (HP5.out.1.low.cell (p := ⟨b, off, none⟩) (block_lt_of_cell HC0.out)).trans HC0.out
    go_wp2_with fail
    (try simp only [Exit.inBlock, Exit.then])
    refine bodyPost_ret (results_none rfl _ _ _) rfl ?_
    refine ⟨rfl, ?_, HP5.out.2⟩
    have hz := HP5.out.1
    try simp only [List.append_assoc, List.cons_append, List.nil_append] at hz ⊢
    exact hz
  | true =>
    cases hn : namedB tx.data.toList with
    | false =>
      rw [hn] at HNm
      rw [if_neg (fun h => by cases h.2)]
      intro w l hP hlen
      have HP0 := Hid.mk (And.intro hP (Lib.OthersKept.refl 5 (some S) w))
      have HL := Hid.mk hlen
      clear hP hlen
      go_enter Tryz.func70, Tryz.ntmps70
      have c90 := (HP0.out.1.low.cell (p := ⟨g, o + 9, none⟩) (block_lt_of_cell HC9.out)).trans HC9.out
      have c50 := (HP0.out.1.low.cell (p := ⟨b, off + 10 + 5, none⟩) (block_lt_of_cell HC5.out)).trans HC5.out
      have c00 := (HP0.out.1.low.cell (p := ⟨b, off, none⟩) (block_lt_of_cell HC0.out)).trans HC0.out
      go_wp2_with fail
      have C9r := fun d os => cell_regrown c90 d os
      refine wp_region_quiet_below (by kernel_rfl) (by kernel_rfl) ?_
      repeat (go_big_quiet_step (fail))
      refine wpQuiet_nil ?_
      intro wq hw'
      have HP1 : Hid (PS w0 S wq l ∧ Lib.OthersKept 5 (some S) w wq) := by
        obtain ⟨⟨dq, osq⟩, rfl⟩ := hw'
        exact ⟨HP0.out.1.keep (below_regrown w dq osq), ok_low (below_regrown w dq osq)⟩
      clear hw' C9r c90 c50 c00
      have c91 := (HP1.out.1.low.cell (p := ⟨g, o + 9, none⟩) (block_lt_of_cell HC9.out)).trans HC9.out
      have c51 := (HP1.out.1.low.cell (p := ⟨b, off + 10 + 5, none⟩) (block_lt_of_cell HC5.out)).trans HC5.out
      have c01 := (HP1.out.1.low.cell (p := ⟨b, off, none⟩) (block_lt_of_cell HC0.out)).trans HC0.out
      go_wp2_with fail
      refine (HBs0.out _ _ HP1.out.1 (by have := HL.out; (try simp only [List.length_append, List.length_cons, List.length_nil] at this ⊢); omega)).mono ?_
      rintro e w2 ⟨rfl, hp, hk⟩
      have HP2 : Hid (PS w0 S w2 (l ++ (BS)) ∧ Lib.OthersKept 5 (some S) w w2) := ⟨hp, HP1.out.2.trans hk⟩
      clear hp hk
      clear c91 c51 c01
      have c92 := (HP2.out.1.low.cell (p := ⟨g, o + 9, none⟩) (block_lt_of_cell HC9.out)).trans HC9.out
      have c52 := (HP2.out.1.low.cell (p := ⟨b, off + 10 + 5, none⟩) (block_lt_of_cell HC5.out)).trans HC5.out
      have c02 := (HP2.out.1.low.cell (p := ⟨b, off, none⟩) (block_lt_of_cell HC0.out)).trans HC0.out
      go_wp2_with fail
      refine (HX.out _ HP2.out.1.low).mono ?_
      rintro e wx ⟨rfl, hwx⟩
      obtain rfl := hwx.symm
      go_wp2_with fail
      refine (HNm.out _).mono ?_
      rintro e wx ⟨rfl, hwx⟩
      obtain rfl := hwx.symm
      clear c92 c52 c02
      have c92 := (HP2.out.1.low.cell (p := ⟨g, o + 9, none⟩) (block_lt_of_cell HC9.out)).trans HC9.out
      have c52 := (HP2.out.1.low.cell (p := ⟨b, off + 10 + 5, none⟩) (block_lt_of_cell HC5.out)).trans HC5.out
      have c02 := (HP2.out.1.low.cell (p := ⟨b, off, none⟩) (block_lt_of_cell HC0.out)).trans HC0.out
      go_wp2_with fail
      refine (w_put1 HP2.out.1 _ ([91]) rfl (by have := HL.out; (try simp only [List.length_append, List.length_cons, List.length_nil] at this ⊢); omega)).mono ?_
      rintro e w3 ⟨rfl, hp, hk⟩
      have HP3 : Hid (PS w0 S w3 (l ++ (BS) ++ ([91])) ∧ Lib.OthersKept 5 (some S) w w3) := ⟨hp, HP2.out.2.trans hk⟩
      clear hp hk
      clear c92 c52 c02
      have c93 := (HP3.out.1.low.cell (p := ⟨g, o + 9, none⟩) (block_lt_of_cell HC9.out)).trans HC9.out
      have c53 := (HP3.out.1.low.cell (p := ⟨b, off + 10 + 5, none⟩) (block_lt_of_cell HC5.out)).trans HC5.out
      have c03 := (HP3.out.1.low.cell (p := ⟨b, off, none⟩) (block_lt_of_cell HC0.out)).trans HC0.out
      go_wp2_with fail
      refine (HT1.out _ _ HP3.out.1 (by have := HL.out; (try simp only [List.length_append, List.length_cons, List.length_nil] at this ⊢); omega)).mono ?_
      rintro e w4 ⟨rfl, hp, hk⟩
      have HP4 : Hid (PS w0 S w4 (l ++ (BS) ++ ([91]) ++ (t 1)) ∧ Lib.OthersKept 5 (some S) w w4) := ⟨hp, HP3.out.2.trans hk⟩
      clear hp hk
      clear c93 c53 c03
      have c94 := (HP4.out.1.low.cell (p := ⟨g, o + 9, none⟩) (block_lt_of_cell HC9.out)).trans HC9.out
      have c54 := (HP4.out.1.low.cell (p := ⟨b, off + 10 + 5, none⟩) (block_lt_of_cell HC5.out)).trans HC5.out
      have c04 := (HP4.out.1.low.cell (p := ⟨b, off, none⟩) (block_lt_of_cell HC0.out)).trans HC0.out
      go_wp2_with fail
      refine (w_put1 HP4.out.1 _ ([93]) rfl (by have := HL.out; (try simp only [List.length_append, List.length_cons, List.length_nil] at this ⊢); omega)).mono ?_
      rintro e w5 ⟨rfl, hp, hk⟩
      have HP5 : Hid (PS w0 S w5 (l ++ (BS) ++ ([91]) ++ (t 1) ++ ([93])) ∧ Lib.OthersKept 5 (some S) w w5) := ⟨hp, HP4.out.2.trans hk⟩
      clear hp hk
      clear c94 c54 c04
      have c95 := (HP5.out.1.low.cell (p := ⟨g, o + 9, none⟩) (block_lt_of_cell HC9.out)).trans HC9.out
      have c55 := (HP5.out.1.low.cell (p := ⟨b, off + 10 + 5, none⟩) (block_lt_of_cell HC5.out)).trans HC5.out
      have c05 := (HP5.out.1.low.cell (p := ⟨b, off, none⟩) (block_lt_of_cell HC0.out)).trans HC0.out
      go_wp2_with fail
      (try simp only [Exit.inBlock, Exit.then])
      refine bodyPost_ret (results_none rfl _ _ _) rfl ?_
      refine ⟨rfl, ?_, HP5.out.2⟩
      have hz := HP5.out.1
      try simp only [List.append_assoc, List.cons_append, List.nil_append] at hz ⊢
      exact hz
    | true =>
      rw [hn] at HNm
      rw [if_pos ⟨rfl, rfl⟩]
      by_cases h1 : op0 = 1
      · subst h1
        rw [if_pos rfl, List.nil_append]
        intro w l hP hlen
        have HP0 := Hid.mk (And.intro hP (Lib.OthersKept.refl 5 (some S) w))
        have HL := Hid.mk hlen
        clear hP hlen
        go_enter Tryz.func70, Tryz.ntmps70
        have c90 := (HP0.out.1.low.cell (p := ⟨g, o + 9, none⟩) (block_lt_of_cell HC9.out)).trans HC9.out
        have c50 := (HP0.out.1.low.cell (p := ⟨b, off + 10 + 5, none⟩) (block_lt_of_cell HC5.out)).trans HC5.out
        have c00 := (HP0.out.1.low.cell (p := ⟨b, off, none⟩) (block_lt_of_cell HC0.out)).trans HC0.out
        go_wp2_with fail
        have C9r := fun d os => cell_regrown c90 d os
        refine wp_region_quiet_below (by kernel_rfl) (by kernel_rfl) ?_
        repeat (go_big_quiet_step (fail))
        refine wpQuiet_nil ?_
        intro wq hw'
        have HP1 : Hid (PS w0 S wq l ∧ Lib.OthersKept 5 (some S) w wq) := by
          obtain ⟨⟨dq, osq⟩, rfl⟩ := hw'
          exact ⟨HP0.out.1.keep (below_regrown w dq osq), ok_low (below_regrown w dq osq)⟩
        clear hw' C9r c90 c50 c00
        have c91 := (HP1.out.1.low.cell (p := ⟨g, o + 9, none⟩) (block_lt_of_cell HC9.out)).trans HC9.out
        have c51 := (HP1.out.1.low.cell (p := ⟨b, off + 10 + 5, none⟩) (block_lt_of_cell HC5.out)).trans HC5.out
        have c01 := (HP1.out.1.low.cell (p := ⟨b, off, none⟩) (block_lt_of_cell HC0.out)).trans HC0.out
        go_wp2_with fail
        refine (HBs0.out _ _ HP1.out.1 (by have := HL.out; (try simp only [List.length_append, List.length_cons, List.length_nil] at this ⊢); omega)).mono ?_
        rintro e w2 ⟨rfl, hp, hk⟩
        have HP2 : Hid (PS w0 S w2 (l ++ (BS)) ∧ Lib.OthersKept 5 (some S) w w2) := ⟨hp, HP1.out.2.trans hk⟩
        clear hp hk
        clear c91 c51 c01
        have c92 := (HP2.out.1.low.cell (p := ⟨g, o + 9, none⟩) (block_lt_of_cell HC9.out)).trans HC9.out
        have c52 := (HP2.out.1.low.cell (p := ⟨b, off + 10 + 5, none⟩) (block_lt_of_cell HC5.out)).trans HC5.out
        have c02 := (HP2.out.1.low.cell (p := ⟨b, off, none⟩) (block_lt_of_cell HC0.out)).trans HC0.out
        go_wp2_with fail
        refine (HX.out _ HP2.out.1.low).mono ?_
        rintro e wx ⟨rfl, hwx⟩
        obtain rfl := hwx.symm
        go_wp2_with fail
        refine (HNm.out _).mono ?_
        rintro e wx ⟨rfl, hwx⟩
        obtain rfl := hwx.symm
        clear c92 c52 c02
        have c92 := (HP2.out.1.low.cell (p := ⟨g, o + 9, none⟩) (block_lt_of_cell HC9.out)).trans HC9.out
        have c52 := (HP2.out.1.low.cell (p := ⟨b, off + 10 + 5, none⟩) (block_lt_of_cell HC5.out)).trans HC5.out
        have c02 := (HP2.out.1.low.cell (p := ⟨b, off, none⟩) (block_lt_of_cell HC0.out)).trans HC0.out
        go_wp2_with fail
        refine (w_put1 HP2.out.1 _ (tx.data.toList) rfl (by have := HL.out; (try simp only [List.length_append, List.length_cons, List.length_nil] at this ⊢); omega)).mono ?_
        rintro e w3 ⟨rfl, hp, hk⟩
        have HP3 : Hid (PS w0 S w3 (l ++ (BS) ++ (tx.data.toList)) ∧ Lib.OthersKept 5 (some S) w w3) := ⟨hp, HP2.out.2.trans hk⟩
        clear hp hk
        clear c92 c52 c02
        go_wp2_with fail
        go_end0
        refine ⟨rfl, ?_, HP3.out.2⟩
        have hz := HP3.out.1
        try simp only [List.append_assoc, List.cons_append, List.nil_append] at hz ⊢
        exact hz
      · have b1 : (op0 != 1) = true := by simpa using h1
        rw [if_neg h1]
        intro w l hP hlen
        have HP0 := Hid.mk (And.intro hP (Lib.OthersKept.refl 5 (some S) w))
        have HL := Hid.mk hlen
        clear hP hlen
        go_enter Tryz.func70, Tryz.ntmps70
        have c90 := (HP0.out.1.low.cell (p := ⟨g, o + 9, none⟩) (block_lt_of_cell HC9.out)).trans HC9.out
        have c50 := (HP0.out.1.low.cell (p := ⟨b, off + 10 + 5, none⟩) (block_lt_of_cell HC5.out)).trans HC5.out
        have c00 := (HP0.out.1.low.cell (p := ⟨b, off, none⟩) (block_lt_of_cell HC0.out)).trans HC0.out
        go_wp2_with fail
        have C9r := fun d os => cell_regrown c90 d os
        refine wp_region_quiet_below (by kernel_rfl) (by kernel_rfl) ?_
        repeat (go_big_quiet_step (fail))
        refine wpQuiet_nil ?_
        intro wq hw'
        have HP1 : Hid (PS w0 S wq l ∧ Lib.OthersKept 5 (some S) w wq) := by
          obtain ⟨⟨dq, osq⟩, rfl⟩ := hw'
          exact ⟨HP0.out.1.keep (below_regrown w dq osq), ok_low (below_regrown w dq osq)⟩
        clear hw' C9r c90 c50 c00
        have c91 := (HP1.out.1.low.cell (p := ⟨g, o + 9, none⟩) (block_lt_of_cell HC9.out)).trans HC9.out
        have c51 := (HP1.out.1.low.cell (p := ⟨b, off + 10 + 5, none⟩) (block_lt_of_cell HC5.out)).trans HC5.out
        have c01 := (HP1.out.1.low.cell (p := ⟨b, off, none⟩) (block_lt_of_cell HC0.out)).trans HC0.out
        go_wp2_with fail
        refine (HBs0.out _ _ HP1.out.1 (by have := HL.out; (try simp only [List.length_append, List.length_cons, List.length_nil] at this ⊢); omega)).mono ?_
        rintro e w2 ⟨rfl, hp, hk⟩
        have HP2 : Hid (PS w0 S w2 (l ++ (BS)) ∧ Lib.OthersKept 5 (some S) w w2) := ⟨hp, HP1.out.2.trans hk⟩
        clear hp hk
        clear c91 c51 c01
        have c92 := (HP2.out.1.low.cell (p := ⟨g, o + 9, none⟩) (block_lt_of_cell HC9.out)).trans HC9.out
        have c52 := (HP2.out.1.low.cell (p := ⟨b, off + 10 + 5, none⟩) (block_lt_of_cell HC5.out)).trans HC5.out
        have c02 := (HP2.out.1.low.cell (p := ⟨b, off, none⟩) (block_lt_of_cell HC0.out)).trans HC0.out
        go_wp2_with fail
        refine (HX.out _ HP2.out.1.low).mono ?_
        rintro e wx ⟨rfl, hwx⟩
        obtain rfl := hwx.symm
        go_wp2_with fail
        refine (HNm.out _).mono ?_
        rintro e wx ⟨rfl, hwx⟩
        obtain rfl := hwx.symm
        clear c92 c52 c02
        have c92 := (HP2.out.1.low.cell (p := ⟨g, o + 9, none⟩) (block_lt_of_cell HC9.out)).trans HC9.out
        have c52 := (HP2.out.1.low.cell (p := ⟨b, off + 10 + 5, none⟩) (block_lt_of_cell HC5.out)).trans HC5.out
        have c02 := (HP2.out.1.low.cell (p := ⟨b, off, none⟩) (block_lt_of_cell HC0.out)).trans HC0.out
        go_wp2_with fail
        refine (w_put1 HP2.out.1 _ ([46]) rfl (by have := HL.out; (try simp only [List.length_append, List.length_cons, List.length_nil] at this ⊢); omega)).mono ?_
        rintro e w3 ⟨rfl, hp, hk⟩
        have HP3 : Hid (PS w0 S w3 (l ++ (BS) ++ ([46])) ∧ Lib.OthersKept 5 (some S) w w3) := ⟨hp, HP2.out.2.trans hk⟩
        clear hp hk
        clear c92 c52 c02
        have c93 := (HP3.out.1.low.cell (p := ⟨g, o + 9, none⟩) (block_lt_of_cell HC9.out)).trans HC9.out
        have c53 := (HP3.out.1.low.cell (p := ⟨b, off + 10 + 5, none⟩) (block_lt_of_cell HC5.out)).trans HC5.out
        have c03 := (HP3.out.1.low.cell (p := ⟨b, off, none⟩) (block_lt_of_cell HC0.out)).trans HC0.out
        go_wp2_with fail
        refine (w_put1 HP3.out.1 _ (tx.data.toList) rfl (by have := HL.out; (try simp only [List.length_append, List.length_cons, List.length_nil] at this ⊢); omega)).mono ?_
        rintro e w4 ⟨rfl, hp, hk⟩
        have HP4 : Hid (PS w0 S w4 (l ++ (BS) ++ ([46]) ++ (tx.data.toList)) ∧ Lib.OthersKept 5 (some S) w w4) := ⟨hp, HP3.out.2.trans hk⟩
        clear hp hk
        clear c93 c53 c03
        go_wp2_with fail
        go_end0
        refine ⟨rfl, ?_, HP4.out.2⟩
        have hz := HP4.out.1
        try simp only [List.append_assoc, List.cons_append, List.nil_append] at hz ⊢
        exact hz
end Go.Proofs.YtcadknhedfnaoaaGreatDoor
namespace Go.Proofs.YtcadknhedfnaoaaGreatDoor
open Go.RowKit Go.Shelf Go.Sort
set_option linter.unusedVariables false
set_option linter.unusedSimpArgs false
attribute [local go_sem] Oper.semAt_some

def wayF (op : Int) : Nat := if op = 1 then 64 else if op = 2 then 65 else if op = 3 then 66 else if op = 4 then 67 else if op = 5 then 68 else if op = 6 then 69 else if op = 35 then 69 else if op = 7 then 70 else if op = 8 then 71 else if op = 9 then 72 else if op = 10 then 73 else if op = 11 then 74 else if op = 28 then 75 else if op = 29 then 76 else if op = 30 then 77 else if op = 31 then 77 else if op = 32 then 78 else if op = 33 then 79 else if op = 34 then 80 else 81

set_option maxRecDepth 100000 in
set_option maxHeartbeats 3200000 in
theorem w_way (S : Nat) (op : Int) (w : World) : Calls Tryz.prog 41 #[.pointer (some ⟨S, 0, none⟩), .int .i64 op] w fun e w' => e = .returned (.func (.func (wayF op)) #[.pointer (some ⟨S, 0, none⟩)] #[]) ∧ w' = w := by
  by_cases k1 : op = 1
  · subst k1
    go_enter Tryz.func41, Tryz.ntmps41
    go_wp2_with fail
    go_ret
    exact ⟨rfl, rfl⟩
  have b1 : (op == 1) = false := by rw [beq_eq_false_iff_ne]; exact k1
  by_cases k2 : op = 2
  · subst k2
    go_enter Tryz.func41, Tryz.ntmps41
    go_wp2_with fail
    go_ret
    exact ⟨rfl, rfl⟩
  have b2 : (op == 2) = false := by rw [beq_eq_false_iff_ne]; exact k2
  by_cases k3 : op = 3
  · subst k3
    go_enter Tryz.func41, Tryz.ntmps41
    go_wp2_with fail
    go_ret
    exact ⟨rfl, rfl⟩
  have b3 : (op == 3) = false := by rw [beq_eq_false_iff_ne]; exact k3
  by_cases k4 : op = 4
  · subst k4
    go_enter Tryz.func41, Tryz.ntmps41
    go_wp2_with fail
    go_ret
    exact ⟨rfl, rfl⟩
  have b4 : (op == 4) = false := by rw [beq_eq_false_iff_ne]; exact k4
  by_cases k5 : op = 5
  · subst k5
    go_enter Tryz.func41, Tryz.ntmps41
    go_wp2_with fail
    go_ret
    exact ⟨rfl, rfl⟩
  have b5 : (op == 5) = false := by rw [beq_eq_false_iff_ne]; exact k5
  by_cases k6 : op = 6
  · subst k6
    go_enter Tryz.func41, Tryz.ntmps41
    go_wp2_with fail
    go_ret
    exact ⟨rfl, rfl⟩
  have b6 : (op == 6) = false := by rw [beq_eq_false_iff_ne]; exact k6
  by_cases k35 : op = 35
  · subst k35
    go_enter Tryz.func41, Tryz.ntmps41
    go_wp2_with fail
    go_ret
    exact ⟨rfl, rfl⟩
  have b35 : (op == 35) = false := by rw [beq_eq_false_iff_ne]; exact k35
  by_cases k7 : op = 7
  · subst k7
    go_enter Tryz.func41, Tryz.ntmps41
    go_wp2_with fail
    go_ret
    exact ⟨rfl, rfl⟩
  have b7 : (op == 7) = false := by rw [beq_eq_false_iff_ne]; exact k7
  by_cases k8 : op = 8
  · subst k8
    go_enter Tryz.func41, Tryz.ntmps41
    go_wp2_with fail
    go_ret
    exact ⟨rfl, rfl⟩
  have b8 : (op == 8) = false := by rw [beq_eq_false_iff_ne]; exact k8
  by_cases k9 : op = 9
  · subst k9
    go_enter Tryz.func41, Tryz.ntmps41
    go_wp2_with fail
    go_ret
    exact ⟨rfl, rfl⟩
  have b9 : (op == 9) = false := by rw [beq_eq_false_iff_ne]; exact k9
  by_cases k10 : op = 10
  · subst k10
    go_enter Tryz.func41, Tryz.ntmps41
    go_wp2_with fail
    go_ret
    exact ⟨rfl, rfl⟩
  have b10 : (op == 10) = false := by rw [beq_eq_false_iff_ne]; exact k10
  by_cases k11 : op = 11
  · subst k11
    go_enter Tryz.func41, Tryz.ntmps41
    go_wp2_with fail
    go_ret
    exact ⟨rfl, rfl⟩
  have b11 : (op == 11) = false := by rw [beq_eq_false_iff_ne]; exact k11
  by_cases k28 : op = 28
  · subst k28
    go_enter Tryz.func41, Tryz.ntmps41
    go_wp2_with fail
    go_ret
    exact ⟨rfl, rfl⟩
  have b28 : (op == 28) = false := by rw [beq_eq_false_iff_ne]; exact k28
  by_cases k29 : op = 29
  · subst k29
    go_enter Tryz.func41, Tryz.ntmps41
    go_wp2_with fail
    go_ret
    exact ⟨rfl, rfl⟩
  have b29 : (op == 29) = false := by rw [beq_eq_false_iff_ne]; exact k29
  by_cases k30 : op = 30
  · subst k30
    go_enter Tryz.func41, Tryz.ntmps41
    go_wp2_with fail
    go_ret
    exact ⟨rfl, rfl⟩
  have b30 : (op == 30) = false := by rw [beq_eq_false_iff_ne]; exact k30
  by_cases k31 : op = 31
  · subst k31
    go_enter Tryz.func41, Tryz.ntmps41
    go_wp2_with fail
    go_ret
    exact ⟨rfl, rfl⟩
  have b31 : (op == 31) = false := by rw [beq_eq_false_iff_ne]; exact k31
  by_cases k32 : op = 32
  · subst k32
    go_enter Tryz.func41, Tryz.ntmps41
    go_wp2_with fail
    go_ret
    exact ⟨rfl, rfl⟩
  have b32 : (op == 32) = false := by rw [beq_eq_false_iff_ne]; exact k32
  by_cases k33 : op = 33
  · subst k33
    go_enter Tryz.func41, Tryz.ntmps41
    go_wp2_with fail
    go_ret
    exact ⟨rfl, rfl⟩
  have b33 : (op == 33) = false := by rw [beq_eq_false_iff_ne]; exact k33
  by_cases k34 : op = 34
  · subst k34
    go_enter Tryz.func41, Tryz.ntmps41
    go_wp2_with fail
    go_ret
    exact ⟨rfl, rfl⟩
  have b34 : (op == 34) = false := by rw [beq_eq_false_iff_ne]; exact k34
  have e : wayF op = 81 := by unfold wayF; simp [k1, k2, k3, k4, k5, k6, k35, k7, k8, k9, k10, k11, k28, k29, k30, k31, k32, k33, k34]
  rw [e]
  clear e k1 k2 k3 k4 k5 k6 k35 k7 k8 k9 k10 k11 k28 k29 k30 k31 k32 k33 k34
  go_enter Tryz.func41, Tryz.ntmps41
  go_wp2_with fail
  go_ret
  exact ⟨rfl, rfl⟩

set_option maxRecDepth 100000 in
set_option maxHeartbeats 3200000 in
theorem w_tell_self (w0 : World) (S g o : Nat) (op : Int) (X : List UInt8) (he : wayF op = 64) (c0 : w0.cell? ⟨g, o, none⟩ = some (.int .i64 op)) (hF : Say w0 S 64 #[.pointer (some ⟨S, 0, none⟩), .pointer (some ⟨g, o, none⟩)] X) : Say w0 S 15 #[.pointer (some ⟨S, 0, none⟩), .pointer (some ⟨g, o, none⟩)] X := by
  have HW := Hid.mk (fun u => w_way S op u)
  rw [he] at HW
  have HF := Hid.mk hF
  have HC0 := Hid.mk c0
  clear hF c0 he
  intro w l hP hlen
  have HP0 := Hid.mk (And.intro hP (Lib.OthersKept.refl 5 (some S) w))
  have HL := Hid.mk hlen
  clear hP hlen
  go_enter Tryz.func15, Tryz.ntmps15
  have c00 := (HP0.out.1.low.cell (p := ⟨g, o, none⟩) (block_lt_of_cell HC0.out)).trans HC0.out
  go_wp2_with fail
  refine (HW.out _).mono ?_
  rintro e wx ⟨rfl, hwx⟩
  obtain rfl := hwx.symm
  clear c00
  go_wp2_with fail
  refine (HF.out _ _ HP0.out.1 HL.out).mono ?_
  rintro e w1 ⟨rfl, hp, hk⟩
  have HP1 : Hid (PS w0 S w1 (l ++ (X)) ∧ Lib.OthersKept 5 (some S) w w1) := ⟨hp, HP0.out.2.trans hk⟩
  clear hp hk
  go_wp2_with fail
  go_end0
  refine ⟨rfl, ?_, HP1.out.2⟩
  have hz := HP1.out.1
  try simp only [List.append_assoc, List.cons_append, List.nil_append] at hz ⊢
  exact hz

set_option maxRecDepth 100000 in
set_option maxHeartbeats 3200000 in
theorem w_tell_constant (w0 : World) (S g o : Nat) (op : Int) (X : List UInt8) (he : wayF op = 65) (c0 : w0.cell? ⟨g, o, none⟩ = some (.int .i64 op)) (hF : Say w0 S 65 #[.pointer (some ⟨S, 0, none⟩), .pointer (some ⟨g, o, none⟩)] X) : Say w0 S 15 #[.pointer (some ⟨S, 0, none⟩), .pointer (some ⟨g, o, none⟩)] X := by
  have HW := Hid.mk (fun u => w_way S op u)
  rw [he] at HW
  have HF := Hid.mk hF
  have HC0 := Hid.mk c0
  clear hF c0 he
  intro w l hP hlen
  have HP0 := Hid.mk (And.intro hP (Lib.OthersKept.refl 5 (some S) w))
  have HL := Hid.mk hlen
  clear hP hlen
  go_enter Tryz.func15, Tryz.ntmps15
  have c00 := (HP0.out.1.low.cell (p := ⟨g, o, none⟩) (block_lt_of_cell HC0.out)).trans HC0.out
  go_wp2_with fail
  refine (HW.out _).mono ?_
  rintro e wx ⟨rfl, hwx⟩
  obtain rfl := hwx.symm
  clear c00
  go_wp2_with fail
  refine (HF.out _ _ HP0.out.1 HL.out).mono ?_
  rintro e w1 ⟨rfl, hp, hk⟩
  have HP1 : Hid (PS w0 S w1 (l ++ (X)) ∧ Lib.OthersKept 5 (some S) w w1) := ⟨hp, HP0.out.2.trans hk⟩
  clear hp hk
  go_wp2_with fail
  go_end0
  refine ⟨rfl, ?_, HP1.out.2⟩
  have hz := HP1.out.1
  try simp only [List.append_assoc, List.cons_append, List.nil_append] at hz ⊢
  exact hz

set_option maxRecDepth 100000 in
set_option maxHeartbeats 3200000 in
theorem w_tell_join (w0 : World) (S g o : Nat) (op : Int) (X : List UInt8) (he : wayF op = 66) (c0 : w0.cell? ⟨g, o, none⟩ = some (.int .i64 op)) (hF : Say w0 S 66 #[.pointer (some ⟨S, 0, none⟩), .pointer (some ⟨g, o, none⟩)] X) : Say w0 S 15 #[.pointer (some ⟨S, 0, none⟩), .pointer (some ⟨g, o, none⟩)] X := by
  have HW := Hid.mk (fun u => w_way S op u)
  rw [he] at HW
  have HF := Hid.mk hF
  have HC0 := Hid.mk c0
  clear hF c0 he
  intro w l hP hlen
  have HP0 := Hid.mk (And.intro hP (Lib.OthersKept.refl 5 (some S) w))
  have HL := Hid.mk hlen
  clear hP hlen
  go_enter Tryz.func15, Tryz.ntmps15
  have c00 := (HP0.out.1.low.cell (p := ⟨g, o, none⟩) (block_lt_of_cell HC0.out)).trans HC0.out
  go_wp2_with fail
  refine (HW.out _).mono ?_
  rintro e wx ⟨rfl, hwx⟩
  obtain rfl := hwx.symm
  clear c00
  go_wp2_with fail
  refine (HF.out _ _ HP0.out.1 HL.out).mono ?_
  rintro e w1 ⟨rfl, hp, hk⟩
  have HP1 : Hid (PS w0 S w1 (l ++ (X)) ∧ Lib.OthersKept 5 (some S) w w1) := ⟨hp, HP0.out.2.trans hk⟩
  clear hp hk
  go_wp2_with fail
  go_end0
  refine ⟨rfl, ?_, HP1.out.2⟩
  have hz := HP1.out.1
  try simp only [List.append_assoc, List.cons_append, List.nil_append] at hz ⊢
  exact hz

set_option maxRecDepth 100000 in
set_option maxHeartbeats 3200000 in
theorem w_tell_list (w0 : World) (S g o : Nat) (op : Int) (X : List UInt8) (he : wayF op = 67) (c0 : w0.cell? ⟨g, o, none⟩ = some (.int .i64 op)) (hF : Say w0 S 67 #[.pointer (some ⟨S, 0, none⟩), .pointer (some ⟨g, o, none⟩)] X) : Say w0 S 15 #[.pointer (some ⟨S, 0, none⟩), .pointer (some ⟨g, o, none⟩)] X := by
  have HW := Hid.mk (fun u => w_way S op u)
  rw [he] at HW
  have HF := Hid.mk hF
  have HC0 := Hid.mk c0
  clear hF c0 he
  intro w l hP hlen
  have HP0 := Hid.mk (And.intro hP (Lib.OthersKept.refl 5 (some S) w))
  have HL := Hid.mk hlen
  clear hP hlen
  go_enter Tryz.func15, Tryz.ntmps15
  have c00 := (HP0.out.1.low.cell (p := ⟨g, o, none⟩) (block_lt_of_cell HC0.out)).trans HC0.out
  go_wp2_with fail
  refine (HW.out _).mono ?_
  rintro e wx ⟨rfl, hwx⟩
  obtain rfl := hwx.symm
  clear c00
  go_wp2_with fail
  refine (HF.out _ _ HP0.out.1 HL.out).mono ?_
  rintro e w1 ⟨rfl, hp, hk⟩
  have HP1 : Hid (PS w0 S w1 (l ++ (X)) ∧ Lib.OthersKept 5 (some S) w w1) := ⟨hp, HP0.out.2.trans hk⟩
  clear hp hk
  go_wp2_with fail
  go_end0
  refine ⟨rfl, ?_, HP1.out.2⟩
  have hz := HP1.out.1
  try simp only [List.append_assoc, List.cons_append, List.nil_append] at hz ⊢
  exact hz

set_option maxRecDepth 100000 in
set_option maxHeartbeats 3200000 in
theorem w_tell_record (w0 : World) (S g o : Nat) (op : Int) (X : List UInt8) (he : wayF op = 68) (c0 : w0.cell? ⟨g, o, none⟩ = some (.int .i64 op)) (hF : Say w0 S 68 #[.pointer (some ⟨S, 0, none⟩), .pointer (some ⟨g, o, none⟩)] X) : Say w0 S 15 #[.pointer (some ⟨S, 0, none⟩), .pointer (some ⟨g, o, none⟩)] X := by
  have HW := Hid.mk (fun u => w_way S op u)
  rw [he] at HW
  have HF := Hid.mk hF
  have HC0 := Hid.mk c0
  clear hF c0 he
  intro w l hP hlen
  have HP0 := Hid.mk (And.intro hP (Lib.OthersKept.refl 5 (some S) w))
  have HL := Hid.mk hlen
  clear hP hlen
  go_enter Tryz.func15, Tryz.ntmps15
  have c00 := (HP0.out.1.low.cell (p := ⟨g, o, none⟩) (block_lt_of_cell HC0.out)).trans HC0.out
  go_wp2_with fail
  refine (HW.out _).mono ?_
  rintro e wx ⟨rfl, hwx⟩
  obtain rfl := hwx.symm
  clear c00
  go_wp2_with fail
  refine (HF.out _ _ HP0.out.1 HL.out).mono ?_
  rintro e w1 ⟨rfl, hp, hk⟩
  have HP1 : Hid (PS w0 S w1 (l ++ (X)) ∧ Lib.OthersKept 5 (some S) w w1) := ⟨hp, HP0.out.2.trans hk⟩
  clear hp hk
  go_wp2_with fail
  go_end0
  refine ⟨rfl, ?_, HP1.out.2⟩
  have hz := HP1.out.1
  try simp only [List.append_assoc, List.cons_append, List.nil_append] at hz ⊢
  exact hz

set_option maxRecDepth 100000 in
set_option maxHeartbeats 3200000 in
theorem w_tell_variable (w0 : World) (S g o : Nat) (op : Int) (X : List UInt8) (he : wayF op = 69) (c0 : w0.cell? ⟨g, o, none⟩ = some (.int .i64 op)) (hF : Say w0 S 69 #[.pointer (some ⟨S, 0, none⟩), .pointer (some ⟨g, o, none⟩)] X) : Say w0 S 15 #[.pointer (some ⟨S, 0, none⟩), .pointer (some ⟨g, o, none⟩)] X := by
  have HW := Hid.mk (fun u => w_way S op u)
  rw [he] at HW
  have HF := Hid.mk hF
  have HC0 := Hid.mk c0
  clear hF c0 he
  intro w l hP hlen
  have HP0 := Hid.mk (And.intro hP (Lib.OthersKept.refl 5 (some S) w))
  have HL := Hid.mk hlen
  clear hP hlen
  go_enter Tryz.func15, Tryz.ntmps15
  have c00 := (HP0.out.1.low.cell (p := ⟨g, o, none⟩) (block_lt_of_cell HC0.out)).trans HC0.out
  go_wp2_with fail
  refine (HW.out _).mono ?_
  rintro e wx ⟨rfl, hwx⟩
  obtain rfl := hwx.symm
  clear c00
  go_wp2_with fail
  refine (HF.out _ _ HP0.out.1 HL.out).mono ?_
  rintro e w1 ⟨rfl, hp, hk⟩
  have HP1 : Hid (PS w0 S w1 (l ++ (X)) ∧ Lib.OthersKept 5 (some S) w w1) := ⟨hp, HP0.out.2.trans hk⟩
  clear hp hk
  go_wp2_with fail
  go_end0
  refine ⟨rfl, ?_, HP1.out.2⟩
  have hz := HP1.out.1
  try simp only [List.append_assoc, List.cons_append, List.nil_append] at hz ⊢
  exact hz

set_option maxRecDepth 100000 in
set_option maxHeartbeats 3200000 in
theorem w_tell_index (w0 : World) (S g o : Nat) (op : Int) (X : List UInt8) (he : wayF op = 70) (c0 : w0.cell? ⟨g, o, none⟩ = some (.int .i64 op)) (hF : Say w0 S 70 #[.pointer (some ⟨S, 0, none⟩), .pointer (some ⟨g, o, none⟩)] X) : Say w0 S 15 #[.pointer (some ⟨S, 0, none⟩), .pointer (some ⟨g, o, none⟩)] X := by
  have HW := Hid.mk (fun u => w_way S op u)
  rw [he] at HW
  have HF := Hid.mk hF
  have HC0 := Hid.mk c0
  clear hF c0 he
  intro w l hP hlen
  have HP0 := Hid.mk (And.intro hP (Lib.OthersKept.refl 5 (some S) w))
  have HL := Hid.mk hlen
  clear hP hlen
  go_enter Tryz.func15, Tryz.ntmps15
  have c00 := (HP0.out.1.low.cell (p := ⟨g, o, none⟩) (block_lt_of_cell HC0.out)).trans HC0.out
  go_wp2_with fail
  refine (HW.out _).mono ?_
  rintro e wx ⟨rfl, hwx⟩
  obtain rfl := hwx.symm
  clear c00
  go_wp2_with fail
  refine (HF.out _ _ HP0.out.1 HL.out).mono ?_
  rintro e w1 ⟨rfl, hp, hk⟩
  have HP1 : Hid (PS w0 S w1 (l ++ (X)) ∧ Lib.OthersKept 5 (some S) w w1) := ⟨hp, HP0.out.2.trans hk⟩
  clear hp hk
  go_wp2_with fail
  go_end0
  refine ⟨rfl, ?_, HP1.out.2⟩
  have hz := HP1.out.1
  try simp only [List.append_assoc, List.cons_append, List.nil_append] at hz ⊢
  exact hz

set_option maxRecDepth 100000 in
set_option maxHeartbeats 3200000 in
theorem w_tell_slice (w0 : World) (S g o : Nat) (op : Int) (X : List UInt8) (he : wayF op = 71) (c0 : w0.cell? ⟨g, o, none⟩ = some (.int .i64 op)) (hF : Say w0 S 71 #[.pointer (some ⟨S, 0, none⟩), .pointer (some ⟨g, o, none⟩)] X) : Say w0 S 15 #[.pointer (some ⟨S, 0, none⟩), .pointer (some ⟨g, o, none⟩)] X := by
  have HW := Hid.mk (fun u => w_way S op u)
  rw [he] at HW
  have HF := Hid.mk hF
  have HC0 := Hid.mk c0
  clear hF c0 he
  intro w l hP hlen
  have HP0 := Hid.mk (And.intro hP (Lib.OthersKept.refl 5 (some S) w))
  have HL := Hid.mk hlen
  clear hP hlen
  go_enter Tryz.func15, Tryz.ntmps15
  have c00 := (HP0.out.1.low.cell (p := ⟨g, o, none⟩) (block_lt_of_cell HC0.out)).trans HC0.out
  go_wp2_with fail
  refine (HW.out _).mono ?_
  rintro e wx ⟨rfl, hwx⟩
  obtain rfl := hwx.symm
  clear c00
  go_wp2_with fail
  refine (HF.out _ _ HP0.out.1 HL.out).mono ?_
  rintro e w1 ⟨rfl, hp, hk⟩
  have HP1 : Hid (PS w0 S w1 (l ++ (X)) ∧ Lib.OthersKept 5 (some S) w w1) := ⟨hp, HP0.out.2.trans hk⟩
  clear hp hk
  go_wp2_with fail
  go_end0
  refine ⟨rfl, ?_, HP1.out.2⟩
  have hz := HP1.out.1
  try simp only [List.append_assoc, List.cons_append, List.nil_append] at hz ⊢
  exact hz

set_option maxRecDepth 100000 in
set_option maxHeartbeats 3200000 in
theorem w_tell_each (w0 : World) (S g o : Nat) (op : Int) (X : List UInt8) (he : wayF op = 72) (c0 : w0.cell? ⟨g, o, none⟩ = some (.int .i64 op)) (hF : Say w0 S 72 #[.pointer (some ⟨S, 0, none⟩), .pointer (some ⟨g, o, none⟩)] X) : Say w0 S 15 #[.pointer (some ⟨S, 0, none⟩), .pointer (some ⟨g, o, none⟩)] X := by
  have HW := Hid.mk (fun u => w_way S op u)
  rw [he] at HW
  have HF := Hid.mk hF
  have HC0 := Hid.mk c0
  clear hF c0 he
  intro w l hP hlen
  have HP0 := Hid.mk (And.intro hP (Lib.OthersKept.refl 5 (some S) w))
  have HL := Hid.mk hlen
  clear hP hlen
  go_enter Tryz.func15, Tryz.ntmps15
  have c00 := (HP0.out.1.low.cell (p := ⟨g, o, none⟩) (block_lt_of_cell HC0.out)).trans HC0.out
  go_wp2_with fail
  refine (HW.out _).mono ?_
  rintro e wx ⟨rfl, hwx⟩
  obtain rfl := hwx.symm
  clear c00
  go_wp2_with fail
  refine (HF.out _ _ HP0.out.1 HL.out).mono ?_
  rintro e w1 ⟨rfl, hp, hk⟩
  have HP1 : Hid (PS w0 S w1 (l ++ (X)) ∧ Lib.OthersKept 5 (some S) w w1) := ⟨hp, HP0.out.2.trans hk⟩
  clear hp hk
  go_wp2_with fail
  go_end0
  refine ⟨rfl, ?_, HP1.out.2⟩
  have hz := HP1.out.1
  try simp only [List.append_assoc, List.cons_append, List.nil_append] at hz ⊢
  exact hz

set_option maxRecDepth 100000 in
set_option maxHeartbeats 3200000 in
theorem w_tell_try (w0 : World) (S g o : Nat) (op : Int) (X : List UInt8) (he : wayF op = 73) (c0 : w0.cell? ⟨g, o, none⟩ = some (.int .i64 op)) (hF : Say w0 S 73 #[.pointer (some ⟨S, 0, none⟩), .pointer (some ⟨g, o, none⟩)] X) : Say w0 S 15 #[.pointer (some ⟨S, 0, none⟩), .pointer (some ⟨g, o, none⟩)] X := by
  have HW := Hid.mk (fun u => w_way S op u)
  rw [he] at HW
  have HF := Hid.mk hF
  have HC0 := Hid.mk c0
  clear hF c0 he
  intro w l hP hlen
  have HP0 := Hid.mk (And.intro hP (Lib.OthersKept.refl 5 (some S) w))
  have HL := Hid.mk hlen
  clear hP hlen
  go_enter Tryz.func15, Tryz.ntmps15
  have c00 := (HP0.out.1.low.cell (p := ⟨g, o, none⟩) (block_lt_of_cell HC0.out)).trans HC0.out
  go_wp2_with fail
  refine (HW.out _).mono ?_
  rintro e wx ⟨rfl, hwx⟩
  obtain rfl := hwx.symm
  clear c00
  go_wp2_with fail
  refine (HF.out _ _ HP0.out.1 HL.out).mono ?_
  rintro e w1 ⟨rfl, hp, hk⟩
  have HP1 : Hid (PS w0 S w1 (l ++ (X)) ∧ Lib.OthersKept 5 (some S) w w1) := ⟨hp, HP0.out.2.trans hk⟩
  clear hp hk
  go_wp2_with fail
  go_end0
  refine ⟨rfl, ?_, HP1.out.2⟩
  have hz := HP1.out.1
  try simp only [List.append_assoc, List.cons_append, List.nil_append] at hz ⊢
  exact hz

set_option maxRecDepth 100000 in
set_option maxHeartbeats 3200000 in
theorem w_tell_neg (w0 : World) (S g o : Nat) (op : Int) (X : List UInt8) (he : wayF op = 74) (c0 : w0.cell? ⟨g, o, none⟩ = some (.int .i64 op)) (hF : Say w0 S 74 #[.pointer (some ⟨S, 0, none⟩), .pointer (some ⟨g, o, none⟩)] X) : Say w0 S 15 #[.pointer (some ⟨S, 0, none⟩), .pointer (some ⟨g, o, none⟩)] X := by
  have HW := Hid.mk (fun u => w_way S op u)
  rw [he] at HW
  have HF := Hid.mk hF
  have HC0 := Hid.mk c0
  clear hF c0 he
  intro w l hP hlen
  have HP0 := Hid.mk (And.intro hP (Lib.OthersKept.refl 5 (some S) w))
  have HL := Hid.mk hlen
  clear hP hlen
  go_enter Tryz.func15, Tryz.ntmps15
  have c00 := (HP0.out.1.low.cell (p := ⟨g, o, none⟩) (block_lt_of_cell HC0.out)).trans HC0.out
  go_wp2_with fail
  refine (HW.out _).mono ?_
  rintro e wx ⟨rfl, hwx⟩
  obtain rfl := hwx.symm
  clear c00
  go_wp2_with fail
  refine (HF.out _ _ HP0.out.1 HL.out).mono ?_
  rintro e w1 ⟨rfl, hp, hk⟩
  have HP1 : Hid (PS w0 S w1 (l ++ (X)) ∧ Lib.OthersKept 5 (some S) w w1) := ⟨hp, HP0.out.2.trans hk⟩
  clear hp hk
  go_wp2_with fail
  go_end0
  refine ⟨rfl, ?_, HP1.out.2⟩
  have hz := HP1.out.1
  try simp only [List.append_assoc, List.cons_append, List.nil_append] at hz ⊢
  exact hz

set_option maxRecDepth 100000 in
set_option maxHeartbeats 3200000 in
theorem w_tell_choice (w0 : World) (S g o : Nat) (op : Int) (X : List UInt8) (he : wayF op = 75) (c0 : w0.cell? ⟨g, o, none⟩ = some (.int .i64 op)) (hF : Say w0 S 75 #[.pointer (some ⟨S, 0, none⟩), .pointer (some ⟨g, o, none⟩)] X) : Say w0 S 15 #[.pointer (some ⟨S, 0, none⟩), .pointer (some ⟨g, o, none⟩)] X := by
  have HW := Hid.mk (fun u => w_way S op u)
  rw [he] at HW
  have HF := Hid.mk hF
  have HC0 := Hid.mk c0
  clear hF c0 he
  intro w l hP hlen
  have HP0 := Hid.mk (And.intro hP (Lib.OthersKept.refl 5 (some S) w))
  have HL := Hid.mk hlen
  clear hP hlen
  go_enter Tryz.func15, Tryz.ntmps15
  have c00 := (HP0.out.1.low.cell (p := ⟨g, o, none⟩) (block_lt_of_cell HC0.out)).trans HC0.out
  go_wp2_with fail
  refine (HW.out _).mono ?_
  rintro e wx ⟨rfl, hwx⟩
  obtain rfl := hwx.symm
  clear c00
  go_wp2_with fail
  refine (HF.out _ _ HP0.out.1 HL.out).mono ?_
  rintro e w1 ⟨rfl, hp, hk⟩
  have HP1 : Hid (PS w0 S w1 (l ++ (X)) ∧ Lib.OthersKept 5 (some S) w w1) := ⟨hp, HP0.out.2.trans hk⟩
  clear hp hk
  go_wp2_with fail
  go_end0
  refine ⟨rfl, ?_, HP1.out.2⟩
  have hz := HP1.out.1
  try simp only [List.append_assoc, List.cons_append, List.nil_append] at hz ⊢
  exact hz

set_option maxRecDepth 100000 in
set_option maxHeartbeats 3200000 in
theorem w_tell_bind (w0 : World) (S g o : Nat) (op : Int) (X : List UInt8) (he : wayF op = 76) (c0 : w0.cell? ⟨g, o, none⟩ = some (.int .i64 op)) (hF : Say w0 S 76 #[.pointer (some ⟨S, 0, none⟩), .pointer (some ⟨g, o, none⟩)] X) : Say w0 S 15 #[.pointer (some ⟨S, 0, none⟩), .pointer (some ⟨g, o, none⟩)] X := by
  have HW := Hid.mk (fun u => w_way S op u)
  rw [he] at HW
  have HF := Hid.mk hF
  have HC0 := Hid.mk c0
  clear hF c0 he
  intro w l hP hlen
  have HP0 := Hid.mk (And.intro hP (Lib.OthersKept.refl 5 (some S) w))
  have HL := Hid.mk hlen
  clear hP hlen
  go_enter Tryz.func15, Tryz.ntmps15
  have c00 := (HP0.out.1.low.cell (p := ⟨g, o, none⟩) (block_lt_of_cell HC0.out)).trans HC0.out
  go_wp2_with fail
  refine (HW.out _).mono ?_
  rintro e wx ⟨rfl, hwx⟩
  obtain rfl := hwx.symm
  clear c00
  go_wp2_with fail
  refine (HF.out _ _ HP0.out.1 HL.out).mono ?_
  rintro e w1 ⟨rfl, hp, hk⟩
  have HP1 : Hid (PS w0 S w1 (l ++ (X)) ∧ Lib.OthersKept 5 (some S) w w1) := ⟨hp, HP0.out.2.trans hk⟩
  clear hp hk
  go_wp2_with fail
  go_end0
  refine ⟨rfl, ?_, HP1.out.2⟩
  have hz := HP1.out.1
  try simp only [List.append_assoc, List.cons_append, List.nil_append] at hz ⊢
  exact hz

set_option maxRecDepth 100000 in
set_option maxHeartbeats 3200000 in
theorem w_tell_loop (w0 : World) (S g o : Nat) (op : Int) (X : List UInt8) (he : wayF op = 77) (c0 : w0.cell? ⟨g, o, none⟩ = some (.int .i64 op)) (hF : Say w0 S 77 #[.pointer (some ⟨S, 0, none⟩), .pointer (some ⟨g, o, none⟩)] X) : Say w0 S 15 #[.pointer (some ⟨S, 0, none⟩), .pointer (some ⟨g, o, none⟩)] X := by
  have HW := Hid.mk (fun u => w_way S op u)
  rw [he] at HW
  have HF := Hid.mk hF
  have HC0 := Hid.mk c0
  clear hF c0 he
  intro w l hP hlen
  have HP0 := Hid.mk (And.intro hP (Lib.OthersKept.refl 5 (some S) w))
  have HL := Hid.mk hlen
  clear hP hlen
  go_enter Tryz.func15, Tryz.ntmps15
  have c00 := (HP0.out.1.low.cell (p := ⟨g, o, none⟩) (block_lt_of_cell HC0.out)).trans HC0.out
  go_wp2_with fail
  refine (HW.out _).mono ?_
  rintro e wx ⟨rfl, hwx⟩
  obtain rfl := hwx.symm
  clear c00
  go_wp2_with fail
  refine (HF.out _ _ HP0.out.1 HL.out).mono ?_
  rintro e w1 ⟨rfl, hp, hk⟩
  have HP1 : Hid (PS w0 S w1 (l ++ (X)) ∧ Lib.OthersKept 5 (some S) w w1) := ⟨hp, HP0.out.2.trans hk⟩
  clear hp hk
  go_wp2_with fail
  go_end0
  refine ⟨rfl, ?_, HP1.out.2⟩
  have hz := HP1.out.1
  try simp only [List.append_assoc, List.cons_append, List.nil_append] at hz ⊢
  exact hz

set_option maxRecDepth 100000 in
set_option maxHeartbeats 3200000 in
theorem w_tell_definition (w0 : World) (S g o : Nat) (op : Int) (X : List UInt8) (he : wayF op = 78) (c0 : w0.cell? ⟨g, o, none⟩ = some (.int .i64 op)) (hF : Say w0 S 78 #[.pointer (some ⟨S, 0, none⟩), .pointer (some ⟨g, o, none⟩)] X) : Say w0 S 15 #[.pointer (some ⟨S, 0, none⟩), .pointer (some ⟨g, o, none⟩)] X := by
  have HW := Hid.mk (fun u => w_way S op u)
  rw [he] at HW
  have HF := Hid.mk hF
  have HC0 := Hid.mk c0
  clear hF c0 he
  intro w l hP hlen
  have HP0 := Hid.mk (And.intro hP (Lib.OthersKept.refl 5 (some S) w))
  have HL := Hid.mk hlen
  clear hP hlen
  go_enter Tryz.func15, Tryz.ntmps15
  have c00 := (HP0.out.1.low.cell (p := ⟨g, o, none⟩) (block_lt_of_cell HC0.out)).trans HC0.out
  go_wp2_with fail
  refine (HW.out _).mono ?_
  rintro e wx ⟨rfl, hwx⟩
  obtain rfl := hwx.symm
  clear c00
  go_wp2_with fail
  refine (HF.out _ _ HP0.out.1 HL.out).mono ?_
  rintro e w1 ⟨rfl, hp, hk⟩
  have HP1 : Hid (PS w0 S w1 (l ++ (X)) ∧ Lib.OthersKept 5 (some S) w w1) := ⟨hp, HP0.out.2.trans hk⟩
  clear hp hk
  go_wp2_with fail
  go_end0
  refine ⟨rfl, ?_, HP1.out.2⟩
  have hz := HP1.out.1
  try simp only [List.append_assoc, List.cons_append, List.nil_append] at hz ⊢
  exact hz

set_option maxRecDepth 100000 in
set_option maxHeartbeats 3200000 in
theorem w_tell_call (w0 : World) (S g o : Nat) (op : Int) (X : List UInt8) (he : wayF op = 79) (c0 : w0.cell? ⟨g, o, none⟩ = some (.int .i64 op)) (hF : Say w0 S 79 #[.pointer (some ⟨S, 0, none⟩), .pointer (some ⟨g, o, none⟩)] X) : Say w0 S 15 #[.pointer (some ⟨S, 0, none⟩), .pointer (some ⟨g, o, none⟩)] X := by
  have HW := Hid.mk (fun u => w_way S op u)
  rw [he] at HW
  have HF := Hid.mk hF
  have HC0 := Hid.mk c0
  clear hF c0 he
  intro w l hP hlen
  have HP0 := Hid.mk (And.intro hP (Lib.OthersKept.refl 5 (some S) w))
  have HL := Hid.mk hlen
  clear hP hlen
  go_enter Tryz.func15, Tryz.ntmps15
  have c00 := (HP0.out.1.low.cell (p := ⟨g, o, none⟩) (block_lt_of_cell HC0.out)).trans HC0.out
  go_wp2_with fail
  refine (HW.out _).mono ?_
  rintro e wx ⟨rfl, hwx⟩
  obtain rfl := hwx.symm
  clear c00
  go_wp2_with fail
  refine (HF.out _ _ HP0.out.1 HL.out).mono ?_
  rintro e w1 ⟨rfl, hp, hk⟩
  have HP1 : Hid (PS w0 S w1 (l ++ (X)) ∧ Lib.OthersKept 5 (some S) w w1) := ⟨hp, HP0.out.2.trans hk⟩
  clear hp hk
  go_wp2_with fail
  go_end0
  refine ⟨rfl, ?_, HP1.out.2⟩
  have hz := HP1.out.1
  try simp only [List.append_assoc, List.cons_append, List.nil_append] at hz ⊢
  exact hz

set_option maxRecDepth 100000 in
set_option maxHeartbeats 3200000 in
theorem w_tell_label (w0 : World) (S g o : Nat) (op : Int) (X : List UInt8) (he : wayF op = 80) (c0 : w0.cell? ⟨g, o, none⟩ = some (.int .i64 op)) (hF : Say w0 S 80 #[.pointer (some ⟨S, 0, none⟩), .pointer (some ⟨g, o, none⟩)] X) : Say w0 S 15 #[.pointer (some ⟨S, 0, none⟩), .pointer (some ⟨g, o, none⟩)] X := by
  have HW := Hid.mk (fun u => w_way S op u)
  rw [he] at HW
  have HF := Hid.mk hF
  have HC0 := Hid.mk c0
  clear hF c0 he
  intro w l hP hlen
  have HP0 := Hid.mk (And.intro hP (Lib.OthersKept.refl 5 (some S) w))
  have HL := Hid.mk hlen
  clear hP hlen
  go_enter Tryz.func15, Tryz.ntmps15
  have c00 := (HP0.out.1.low.cell (p := ⟨g, o, none⟩) (block_lt_of_cell HC0.out)).trans HC0.out
  go_wp2_with fail
  refine (HW.out _).mono ?_
  rintro e wx ⟨rfl, hwx⟩
  obtain rfl := hwx.symm
  clear c00
  go_wp2_with fail
  refine (HF.out _ _ HP0.out.1 HL.out).mono ?_
  rintro e w1 ⟨rfl, hp, hk⟩
  have HP1 : Hid (PS w0 S w1 (l ++ (X)) ∧ Lib.OthersKept 5 (some S) w w1) := ⟨hp, HP0.out.2.trans hk⟩
  clear hp hk
  go_wp2_with fail
  go_end0
  refine ⟨rfl, ?_, HP1.out.2⟩
  have hz := HP1.out.1
  try simp only [List.append_assoc, List.cons_append, List.nil_append] at hz ⊢
  exact hz

set_option maxRecDepth 100000 in
set_option maxHeartbeats 3200000 in
theorem w_tell_operation (w0 : World) (S g o : Nat) (op : Int) (X : List UInt8) (he : wayF op = 81) (c0 : w0.cell? ⟨g, o, none⟩ = some (.int .i64 op)) (hF : Say w0 S 81 #[.pointer (some ⟨S, 0, none⟩), .pointer (some ⟨g, o, none⟩)] X) : Say w0 S 15 #[.pointer (some ⟨S, 0, none⟩), .pointer (some ⟨g, o, none⟩)] X := by
  have HW := Hid.mk (fun u => w_way S op u)
  rw [he] at HW
  have HF := Hid.mk hF
  have HC0 := Hid.mk c0
  clear hF c0 he
  intro w l hP hlen
  have HP0 := Hid.mk (And.intro hP (Lib.OthersKept.refl 5 (some S) w))
  have HL := Hid.mk hlen
  clear hP hlen
  go_enter Tryz.func15, Tryz.ntmps15
  have c00 := (HP0.out.1.low.cell (p := ⟨g, o, none⟩) (block_lt_of_cell HC0.out)).trans HC0.out
  go_wp2_with fail
  refine (HW.out _).mono ?_
  rintro e wx ⟨rfl, hwx⟩
  obtain rfl := hwx.symm
  clear c00
  go_wp2_with fail
  refine (HF.out _ _ HP0.out.1 HL.out).mono ?_
  rintro e w1 ⟨rfl, hp, hk⟩
  have HP1 : Hid (PS w0 S w1 (l ++ (X)) ∧ Lib.OthersKept 5 (some S) w w1) := ⟨hp, HP0.out.2.trans hk⟩
  clear hp hk
  go_wp2_with fail
  go_end0
  refine ⟨rfl, ?_, HP1.out.2⟩
  have hz := HP1.out.1
  try simp only [List.append_assoc, List.cons_append, List.nil_append] at hz ⊢
  exact hz
end Go.Proofs.YtcadknhedfnaoaaGreatDoor
namespace Go.Proofs.YtcadknhedfnaoaaGreatDoor
open Go.RowKit Go.Shelf Go.Sort
set_option linter.unusedVariables false
set_option linter.unusedSimpArgs false

/-- every text within is short -/
def TxB : Nat → NT → Prop
  | 0, _ => True
  | h + 1, A => A.value.text.size ≤ 1048576 ∧ ∀ i, i < A.kids.length → TxB h (A.kids.getD i nn0)
theorem fp_open {h : Nat} {A : NT} (hf : fpN (h + 1) A = true) : mfB A.op (A.kids.length : Int) = true ∧ ∀ i, i < A.kids.length → kfB (fpN h) A.op A.kids i (A.kids.getD i nn0) = true := by
  rw [fpN] at hf
  simp only [Bool.and_eq_true, List.all_eq_true, List.mem_range] at hf
  exact ⟨hf.1.1.1.1, hf.1.1.1.2⟩
theorem mf_rng {op m : Int} (h : mfB op m = true) : 1 ≤ op ∧ op ≤ 43 := by
  unfold mfB at h
  repeat' split at h
  all_goals first | omega | skip
  simp only [Bool.and_eq_true, Bool.or_eq_true, decide_eq_true_eq] at h
  omega
theorem kf_fm {fm : NT → Bool} {op : Int} {ks : List NT} {i : Nat} {k : NT} (h : kfB fm op ks i k = true) (hn : op = 8 → 0 < i → k.op ≠ 0) : fm k = true := by
  unfold kfB at h
  split at h
  · rename_i hc
    exact absurd (noneIff.1 (sq_iff.1 hc.2.2)).1 (hn hc.1 hc.2.1)
  · split at h
    · simp only [Bool.and_eq_true] at h
      exact h.2
    · exact h
def TlOk (w0 : World) (S h : Nat) : Prop := ∀ (A : NT) (g o : Nat), NAt w0 h A g o → fpN h A = true → TxB h A → Say w0 S 15 #[.pointer (some ⟨S, 0, none⟩), .pointer (some ⟨g, o, none⟩)] (shT h A)

set_option maxRecDepth 100000 in
set_option maxHeartbeats 3200000 in
theorem tl_step (w0 : World) (S h : Nat) (ih : TlOk w0 S h) : TlOk w0 S (h + 1) := by
  intro A g o hA hf ht
  obtain ⟨hm, hk⟩ := fp_open hf
  have hA' := hA
  obtain ⟨aio, aic, ayo, ayc, ano, anc, ako, akc, HA⟩ := hA.open_
  obtain ⟨r1, r2⟩ := mf_rng hm
  obtain ⟨K, hK⟩ : ∃ K, K = fun i => A.kids.getD i nn0 := ⟨_, rfl⟩
  obtain ⟨t, hT0⟩ : ∃ t, t = fun i => shT h (A.kids.getD i nn0) := ⟨_, rfl⟩
  have eK : ∀ i, A.kids.getD i nn0 = K i := fun i => by rw [hK]
  have eT : ∀ i, shT h (K i) = t i := fun i => by rw [hK, hT0]
  have hsh := shT_up h A
  simp only at hsh
  rw [← hK, ← hT0] at hsh
  obtain ⟨b, off, hko, hrow⟩ : ∃ b off, (0 < A.kids.length → ako = some ⟨b, off, none⟩) ∧ ∀ i, i < A.kids.length → NAt w0 h (K i) b (off + i * 10) := by
    by_cases h0 : 0 < A.kids.length
    · obtain ⟨b, off, e, hr⟩ := HA.kids h0
      exact ⟨b, off, fun _ => e, fun i hi => by rw [← eK, getD_kid hi]; exact hr i hi⟩
    · exact ⟨0, 0, fun h => absurd h h0, fun i hi => absurd (Nat.lt_of_le_of_lt (Nat.zero_le _) hi) h0⟩
  have hkf : ∀ i, i < A.kids.length → (A.op = 8 → 0 < i → (K i).op ≠ 0) → fpN h (K i) = true := fun i hi hn => kf_fm (by have := hk i hi; rw [eK] at this; exact this) hn
  have htx : ∀ i, i < A.kids.length → TxB h (K i) := fun i hi => by have := ht.2 i hi; rw [eK] at this; exact this
  have hT : ∀ i, i < A.kids.length → (A.op = 8 → 0 < i → (K i).op ≠ 0) → Say w0 S 15 #[.pointer (some ⟨S, 0, none⟩), .pointer (some ⟨b, off + i * 10, none⟩)] (t i) := fun i hi hn => by
    rw [← eT]
    exact ih (K i) b _ (hrow i hi) (hkf i hi hn) (htx i hi)
  have hTT : A.op ≠ 8 → ∀ i, i < A.kids.length → Say w0 S 15 #[.pointer (some ⟨S, 0, none⟩), .pointer (some ⟨b, off + i * 10, none⟩)] (t i) := fun h8 i hi => hT i hi (fun e => absurd e h8)
  have hup : ∀ i, i < A.kids.length → NAt w0 (h - 1 + 1) (K i) b (off + i * 10) := fun i hi => by
    have hr := hrow i hi
    obtain ⟨n, hn⟩ := hr.pos
    rw [show h - 1 + 1 = h by omega]
    exact hr
  have hkop : ∀ i, i < A.kids.length → (A.op = 8 → 0 < i → (K i).op ≠ 0) → 0 ≤ (K i).op ∧ (K i).op < 44 := fun i hi hn => by
    have hr := hkf i hi hn
    obtain ⟨n, rfl⟩ := (hrow i hi).pos
    have := mf_rng (fp_open hr).1
    omega
  have hsz : ∀ i, i < A.kids.length → (K i).value.text.size ≤ 1048576 := fun i hi => by
    have hr := htx i hi
    obtain ⟨n, rfl⟩ := (hrow i hi).pos
    exact hr.1
  have hAA : A.op ≠ 8 → ∀ i, i < A.kids.length → NAt w0 (h - 1 + 1) (K i) b (off + i * 10) ∧ 0 ≤ (K i).op ∧ (K i).op < 44 := fun h8 i hi => ⟨hup i hi, hkop i hi (fun e => absurd e h8)⟩
  have c9' : 0 < A.kids.length → w0.cell? ⟨g, o + 9, none⟩ = some (.slice (some ⟨b, off, none⟩) A.kids.length akc) := fun h0 => by rw [← hko h0]; exact HA.c9
  by_cases k1 : A.op = 1
  · have e : shT (h + 1) A = [46] := by rw [hsh]; simp only [k1]; rfl
    rw [e]
    refine w_tell_self w0 S g o A.op _ (by rw [k1]; rfl) HA.c0 ?_
    exact w_self w0 S g o
  by_cases k2 : A.op = 2
  · have e : shT (h + 1) A = pCn A.value := by rw [hsh]; simp only [k2]; rfl
    rw [e]
    refine w_tell_constant w0 S g o A.op _ (by rw [k2]; rfl) HA.c0 ?_
    exact w_constant w0 S h A g o hA' (by have := ht.1; omega)
  by_cases k3 : A.op = 3
  · have e : shT (h + 1) A = sJoin K t A.kids.length := by rw [hsh]; simp only [k3]; rfl
    rw [e]
    have hN : 3 ≤ A.kids.length := by
      rw [k3] at hm
      simp [mfB] at hm
      omega
    refine w_tell_join w0 S g o A.op _ (by rw [k3]; rfl) HA.c0 ?_
    exact w_join w0 S (h - 1) g o b off A.kids.length akc K t (c9' (by omega)) HA.kl.1 HA.kl.2 (by omega) (fun i hi => ⟨hup i hi, hsz i hi⟩) (hTT (by omega))
  by_cases k4 : A.op = 4
  · have e : shT (h + 1) A = sList t A.kids.length := by rw [hsh]; simp only [k4]; rfl
    rw [e]
    refine w_tell_list w0 S g o A.op _ (by rw [k4]; rfl) HA.c0 ?_
    exact w_list w0 S g o b off A.kids.length akc ako t hko HA.c9 HA.kl.1 HA.kl.2 (hTT (by omega))
  by_cases k5 : A.op = 5
  · have e : shT (h + 1) A = sRecord K t (A.kids.length / 2) := by rw [hsh]; simp only [k5]; rfl
    rw [e]
    have hN : A.kids.length = 2 * (A.kids.length / 2) := by
      rw [k5] at hm
      simp [mfB] at hm
      omega
    refine w_tell_record w0 S g o A.op _ (by rw [k5]; rfl) HA.c0 ?_
    exact w_record w0 S (h - 1) g o b off A.kids.length akc K t ako hko HA.c9 HA.kl.1 HA.kl.2 (A.kids.length / 2) hN (hTT (by omega)) (hAA (by omega)) hsz
  by_cases k6 : A.op = 6
  · have e : shT (h + 1) A = sVar A.op A.text := by rw [hsh]; simp only [k6]; rfl
    rw [e]
    refine w_tell_variable w0 S g o A.op _ (by rw [k6]; rfl) HA.c0 ?_
    exact w_variable w0 S g o A.op HA.c0 A.text HA.c2
  by_cases k35 : A.op = 35
  · have e : shT (h + 1) A = sVar A.op A.text := by rw [hsh]; simp only [k35]; rfl
    rw [e]
    refine w_tell_variable w0 S g o A.op _ (by rw [k35]; rfl) HA.c0 ?_
    exact w_variable w0 S g o A.op HA.c0 A.text HA.c2
  by_cases k7 : A.op = 7
  · have e : shT (h + 1) A = sIndex K t := by rw [hsh]; simp only [k7]; rfl
    rw [e]
    have hN : A.kids.length = 2 := by
      rw [k7] at hm
      simp [mfB] at hm
      omega
    refine w_tell_index w0 S g o A.op _ (by rw [k7]; rfl) HA.c0 ?_
    exact w_index w0 S (h - 1) g o b off A.kids.length akc K t (c9' (by omega)) HA.kl.1 HA.kl.2 (by omega) (hsz 1 (by omega)) (hTT (by omega)) (hAA (by omega))
  by_cases k8 : A.op = 8
  · have e : shT (h + 1) A = sSlice K t := by rw [hsh]; simp only [k8]; rfl
    rw [e]
    have hN : A.kids.length = 3 := by
      rw [k8] at hm
      simp [mfB] at hm
      omega
    refine w_tell_slice w0 S g o A.op _ (by rw [k8]; rfl) HA.c0 ?_
    exact w_slice w0 S (h - 1) g o b off A.kids.length akc K t (c9' (by omega)) HA.kl.1 HA.kl.2 (by omega) (w_base w0 S (h - 1) (K 0) b _ (t 0) (hup 0 (by omega)) (hkop 0 (by omega) (fun _ h0 => absurd h0 (Nat.lt_irrefl 0))) (hT 0 (by omega) (fun _ h0 => absurd h0 (Nat.lt_irrefl 0)))) (w_end w0 S (h - 1) (K 1) b _ (t 1) (hup 1 (by omega)) (fun hne => hT 1 (by omega) (fun _ _ => hne))) (w_end w0 S (h - 1) (K 2) b _ (t 2) (hup 2 (by omega)) (fun hne => hT 2 (by omega) (fun _ _ => hne)))
  by_cases k9 : A.op = 9
  · have e : shT (h + 1) A = sEach K t := by rw [hsh]; simp only [k9]; rfl
    rw [e]
    have hN : A.kids.length = 1 := by
      rw [k9] at hm
      simp [mfB] at hm
      omega
    refine w_tell_each w0 S g o A.op _ (by rw [k9]; rfl) HA.c0 ?_
    exact w_each w0 S (h - 1) g o b off A.kids.length akc K t (c9' (by omega)) HA.kl.1 HA.kl.2 (by omega) (hTT (by omega)) (hAA (by omega))
  by_cases k10 : A.op = 10
  · have e : shT (h + 1) A = sTry K t A.kids.length := by rw [hsh]; simp only [k10]; rfl
    rw [e]
    have hN : 1 ≤ A.kids.length ∧ A.kids.length ≤ 2 := by
      rw [k10] at hm
      simp [mfB] at hm
      omega
    refine w_tell_try w0 S g o A.op _ (by rw [k10]; rfl) HA.c0 ?_
    exact w_try w0 S (h - 1) g o b off A.kids.length akc K t (c9' (by omega)) HA.kl.1 HA.kl.2 (by omega) (by omega) (hTT (by omega)) (hAA (by omega))
  by_cases k11 : A.op = 11
  · have e : shT (h + 1) A = sNeg K t := by rw [hsh]; simp only [k11]; rfl
    rw [e]
    have hN : A.kids.length = 1 := by
      rw [k11] at hm
      simp [mfB] at hm
      omega
    refine w_tell_neg w0 S g o A.op _ (by rw [k11]; rfl) HA.c0 ?_
    exact w_neg w0 S (h - 1) g o b off A.kids.length akc K t (c9' (by omega)) HA.kl.1 HA.kl.2 (by omega) (hTT (by omega)) (hAA (by omega))
  by_cases k28 : A.op = 28
  · have e : shT (h + 1) A = sIf t := by rw [hsh]; simp only [k28]; rfl
    rw [e]
    have hN : A.kids.length = 3 := by
      rw [k28] at hm
      simp [mfB] at hm
      omega
    refine w_tell_choice w0 S g o A.op _ (by rw [k28]; rfl) HA.c0 ?_
    exact w_choice w0 S (h - 1) g o b off A.kids.length akc K t (c9' (by omega)) HA.kl.1 HA.kl.2 (by omega) (hTT (by omega))
  by_cases k29 : A.op = 29
  · have e : shT (h + 1) A = sBind K t A.text := by rw [hsh]; simp only [k29]; rfl
    rw [e]
    have hN : A.kids.length = 2 := by
      rw [k29] at hm
      simp [mfB] at hm
      omega
    refine w_tell_bind w0 S g o A.op _ (by rw [k29]; rfl) HA.c0 ?_
    exact w_bind w0 S (h - 1) g o b off A.kids.length akc K t (c9' (by omega)) HA.kl.1 HA.kl.2 (by omega) A.text HA.c2 (hTT (by omega)) (hAA (by omega))
  by_cases k30 : A.op = 30
  · have e : shT (h + 1) A = sLoop A.op K t A.text A.kids.length := by rw [hsh]; simp only [k30]; rfl
    rw [e]
    have hN : A.kids.length = 3 := by
      rw [k30] at hm
      simp [mfB] at hm
      omega
    refine w_tell_loop w0 S g o A.op _ (by rw [k30]; rfl) HA.c0 ?_
    exact w_loop w0 S (h - 1) g o b off A.kids.length akc K t (c9' (by omega)) HA.kl.1 HA.kl.2 (by omega) A.text HA.c2 A.op HA.c0 (hTT (by omega)) (hAA (by omega))
  by_cases k31 : A.op = 31
  · have e : shT (h + 1) A = sLoop A.op K t A.text A.kids.length := by rw [hsh]; simp only [k31]; rfl
    rw [e]
    have hN : A.kids.length = 3 ∨ A.kids.length = 4 := by
      rw [k31] at hm
      simp [mfB] at hm
      omega
    refine w_tell_loop w0 S g o A.op _ (by rw [k31]; rfl) HA.c0 ?_
    exact w_loop w0 S (h - 1) g o b off A.kids.length akc K t (c9' (by omega)) HA.kl.1 HA.kl.2 (by omega) A.text HA.c2 A.op HA.c0 (hTT (by omega)) (hAA (by omega))
  by_cases k32 : A.op = 32
  · have e : shT (h + 1) A = sDef t A.text A.names := by rw [hsh]; simp only [k32]; rfl
    rw [e]
    have hN : A.kids.length = 2 := by
      rw [k32] at hm
      simp [mfB] at hm
      omega
    refine w_tell_definition w0 S g o A.op _ (by rw [k32]; rfl) HA.c0 ?_
    exact w_definition w0 S g o b off akc t (by have := c9' (by omega); rw [hN] at this; exact this) (by have := HA.kl.1; omega) A.text HA.c2 ano anc A.names HA.c8 HA.names HA.nl.1 HA.nl.2.1 (fun i hi => hTT (by omega) i (by omega))
  by_cases k33 : A.op = 33
  · have e : shT (h + 1) A = sCall t A.text A.kids.length := by rw [hsh]; simp only [k33]; rfl
    rw [e]
    refine w_tell_call w0 S g o A.op _ (by rw [k33]; rfl) HA.c0 ?_
    exact w_call w0 S g o b off A.kids.length akc ako t hko HA.c9 HA.kl.1 HA.kl.2 A.text HA.c2 (hTT (by omega))
  by_cases k34 : A.op = 34
  · have e : shT (h + 1) A = sLabel t A.text := by rw [hsh]; simp only [k34]; rfl
    rw [e]
    have hN : A.kids.length = 1 := by
      rw [k34] at hm
      simp [mfB] at hm
      omega
    refine w_tell_label w0 S g o A.op _ (by rw [k34]; rfl) HA.c0 ?_
    exact w_label w0 S (h - 1) g o b off A.kids.length akc K t (c9' (by omega)) HA.kl.1 HA.kl.2 (by omega) A.text HA.c2 (hTT (by omega))
  have e : shT (h + 1) A = sOp A.op K t := by
    rw [hsh, if_neg k1, if_neg k2, if_neg k3, if_neg k4, if_neg k5, if_neg (by omega), if_neg k7, if_neg k8, if_neg k9, if_neg k10, if_neg k11, if_neg k28, if_neg k29, if_neg (by omega), if_neg k32, if_neg k33, if_neg k34]
  rw [e]
  have hN : A.kids.length = 2 := by
    unfold mfB at hm
    rw [if_neg (by omega), if_neg (by omega), if_neg (by omega), if_neg (by omega), if_neg (by omega), if_neg (by omega), if_neg (by omega), if_neg (by omega), if_neg (by omega), if_neg (by omega)] at hm
    simp only [Bool.and_eq_true] at hm
    have := eq_of_beq hm.1
    omega
  have hw : wayF A.op = 81 := by
    unfold wayF
    rw [if_neg k1, if_neg k2, if_neg k3, if_neg k4, if_neg k5, if_neg k6, if_neg k35, if_neg k7, if_neg k8, if_neg k9, if_neg k10, if_neg k11, if_neg k28, if_neg k29, if_neg k30, if_neg k31, if_neg k32, if_neg k33, if_neg k34]
  refine w_tell_operation w0 S g o A.op _ hw HA.c0 ?_
  obtain ⟨m, hm2⟩ : ∃ m : Nat, A.op = (m : Int) := ⟨A.op.toNat, by omega⟩
  have c0 := HA.c0
  have hTT' := hTT k8
  have hAA' := hAA k8
  rw [hm2] at c0 ⊢
  exact w_operation w0 S (h - 1) g o b off A.kids.length akc K t (c9' (by omega)) HA.kl.1 HA.kl.2 (by omega) m (by omega) c0 hTT' hAA'
theorem w_tell (w0 : World) (S : Nat) : ∀ h, TlOk w0 S h
  | 0 => fun _ _ _ ⟨_, _, hA⟩ => hA.elim
  | h + 1 => tl_step w0 S h (w_tell w0 S h)
end Go.Proofs.YtcadknhedfnaoaaGreatDoor
