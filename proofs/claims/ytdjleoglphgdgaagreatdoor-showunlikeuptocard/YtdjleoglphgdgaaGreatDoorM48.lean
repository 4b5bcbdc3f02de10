import Derived.Test.YtdjleoglphgdgaaGreatDoorM47
namespace Go.Proofs.YtdjleoglphgdgaaGreatDoor
open Go.RowKit Go.Shelf Go.Sort
set_option linter.unusedVariables false
set_option linter.unusedSimpArgs false
attribute [local go_sem] Oper.semAt_some

set_option maxRecDepth 100000 in
set_option maxHeartbeats 3200000 in
theorem w_selfP (w0 : World) (S g o : Nat) : Say w0 S 76 #[.pointer (some ⟨S, 0, none⟩), .pointer (some ⟨g, o, none⟩)] [46] := by
  intro w l hP hlen
  have HP0 := Hid.mk (And.intro hP (Lib.OthersKept.refl 5 (some S) w))
  have HL := Hid.mk hlen
  clear hP hlen
  go_enter Tryz.func76, Tryz.ntmps76
  go_wp2_with fail
  refine (w_put1 HP0.out.1 _ ([46]) rfl (by have := HL.out; omega)).mono ?_
  rintro e w1 ⟨rfl, hp, hk⟩
  have HP1 : Hid (PS w0 S w1 (l ++ ([46])) ∧ Lib.OthersKept 5 (some S) w w1) := ⟨hp, HP0.out.2.trans hk⟩
  clear hp hk
  go_wp2_with fail
  go_end0
  refine ⟨rfl, ?_, HP1.out.2⟩
  have hz := HP1.out.1
  try simp only [List.append_assoc, List.cons_append, List.nil_append] at hz ⊢
  exact hz

set_option maxRecDepth 100000 in
set_option maxHeartbeats 3200000 in
theorem w_constant (w0 : World) (S h : Nat) (A : NT) (g o : Nat) (hA : NAt w0 (h + 1) A g o) (hs : A.value.text.size ≤ 68719476736) : Say w0 S 77 #[.pointer (some ⟨S, 0, none⟩), .pointer (some ⟨g, o, none⟩)] (pCn A.value) := by
  have HQ := Hid.mk (fun u => w_Quote A.value.text u hs)
  obtain ⟨aio, aic, ayo, ayc, ano, anc, ako, akc, HA⟩ := hA.open_
  have HC3 := Hid.mk HA.c3
  have HC4 := Hid.mk HA.c4
  have HC5 := Hid.mk HA.c5
  clear HA hA hs
  unfold pCn pQt
  generalize A.value.kind = kd at *
  generalize A.value.text = tx at *
  generalize A.value.num = nu at *
  by_cases k0 : kd = 0
  · subst k0
    rw [if_pos rfl]
    intro w l hP hlen
    have HP0 := Hid.mk (And.intro hP (Lib.OthersKept.refl 5 (some S) w))
    have HL := Hid.mk hlen
    clear hP hlen
    go_enter Tryz.func77, Tryz.ntmps77
    have c30 := (HP0.out.1.low.cell (p := ⟨g, o + 3, none⟩) (block_lt_of_cell HC3.out)).trans HC3.out
    have c40 := (HP0.out.1.low.cell (p := ⟨g, o + 4, none⟩) (block_lt_of_cell HC4.out)).trans HC4.out
    have c50 := (HP0.out.1.low.cell (p := ⟨g, o + 5, none⟩) (block_lt_of_cell HC5.out)).trans HC5.out
    go_wp2_with fail
    refine (w_put1 HP0.out.1 _ ([110, 117, 108, 108]) rfl (by have := HL.out; omega)).mono ?_
    rintro e w1 ⟨rfl, hp, hk⟩
    have HP1 : Hid (PS w0 S w1 (l ++ ([110, 117, 108, 108])) ∧ Lib.OthersKept 5 (some S) w w1) := ⟨hp, HP0.out.2.trans hk⟩
    clear hp hk
    clear c30 c40 c50
    go_wp2_with fail
    go_end0
    refine ⟨rfl, ?_, HP1.out.2⟩
    have hz := HP1.out.1
    try simp only [List.append_assoc, List.cons_append, List.nil_append] at hz ⊢
    exact hz
  have b0 : (kd == 0) = false := by rw [beq_eq_false_iff_ne]; exact k0
  by_cases k1 : kd = 1
  · subst k1
    rw [if_neg (by decide), if_pos rfl]
    intro w l hP hlen
    have HP0 := Hid.mk (And.intro hP (Lib.OthersKept.refl 5 (some S) w))
    have HL := Hid.mk hlen
    clear hP hlen
    go_enter Tryz.func77, Tryz.ntmps77
    have c30 := (HP0.out.1.low.cell (p := ⟨g, o + 3, none⟩) (block_lt_of_cell HC3.out)).trans HC3.out
    have c40 := (HP0.out.1.low.cell (p := ⟨g, o + 4, none⟩) (block_lt_of_cell HC4.out)).trans HC4.out
    have c50 := (HP0.out.1.low.cell (p := ⟨g, o + 5, none⟩) (block_lt_of_cell HC5.out)).trans HC5.out
    go_wp2_with fail
    refine (w_put1 HP0.out.1 _ ([102, 97, 108, 115, 101]) rfl (by have := HL.out; omega)).mono ?_
    rintro e w1 ⟨rfl, hp, hk⟩
    have HP1 : Hid (PS w0 S w1 (l ++ ([102, 97, 108, 115, 101])) ∧ Lib.OthersKept 5 (some S) w w1) := ⟨hp, HP0.out.2.trans hk⟩
    clear hp hk
    clear c30 c40 c50
    go_wp2_with fail
    go_end0
    refine ⟨rfl, ?_, HP1.out.2⟩
    have hz := HP1.out.1
    try simp only [List.append_assoc, List.cons_append, List.nil_append] at hz ⊢
    exact hz
  have b1 : (kd == 1) = false := by rw [beq_eq_false_iff_ne]; exact k1
  by_cases k2 : kd = 2
  · subst k2
    rw [if_neg (by decide), if_neg (by decide), if_pos rfl]
    intro w l hP hlen
    have HP0 := Hid.mk (And.intro hP (Lib.OthersKept.refl 5 (some S) w))
    have HL := Hid.mk hlen
    clear hP hlen
    go_enter Tryz.func77, Tryz.ntmps77
    have c30 := (HP0.out.1.low.cell (p := ⟨g, o + 3, none⟩) (block_lt_of_cell HC3.out)).trans HC3.out
    have c40 := (HP0.out.1.low.cell (p := ⟨g, o + 4, none⟩) (block_lt_of_cell HC4.out)).trans HC4.out
    have c50 := (HP0.out.1.low.cell (p := ⟨g, o + 5, none⟩) (block_lt_of_cell HC5.out)).trans HC5.out
    go_wp2_with fail
    refine (w_put1 HP0.out.1 _ ([116, 114, 117, 101]) rfl (by have := HL.out; omega)).mono ?_
    rintro e w1 ⟨rfl, hp, hk⟩
    have HP1 : Hid (PS w0 S w1 (l ++ ([116, 114, 117, 101])) ∧ Lib.OthersKept 5 (some S) w w1) := ⟨hp, HP0.out.2.trans hk⟩
    clear hp hk
    clear c30 c40 c50
    go_wp2_with fail
    go_end0
    refine ⟨rfl, ?_, HP1.out.2⟩
    have hz := HP1.out.1
    try simp only [List.append_assoc, List.cons_append, List.nil_append] at hz ⊢
    exact hz
  have b2 : (kd == 2) = false := by rw [beq_eq_false_iff_ne]; exact k2
  by_cases k3 : kd = 3
  · subst k3
    rw [if_neg (by decide), if_neg (by decide), if_neg (by decide), if_pos rfl]
    intro w l hP hlen
    have HP0 := Hid.mk (And.intro hP (Lib.OthersKept.refl 5 (some S) w))
    have HL := Hid.mk hlen
    clear hP hlen
    go_enter Tryz.func77, Tryz.ntmps77
    have c30 := (HP0.out.1.low.cell (p := ⟨g, o + 3, none⟩) (block_lt_of_cell HC3.out)).trans HC3.out
    have c40 := (HP0.out.1.low.cell (p := ⟨g, o + 4, none⟩) (block_lt_of_cell HC4.out)).trans HC4.out
    have c50 := (HP0.out.1.low.cell (p := ⟨g, o + 5, none⟩) (block_lt_of_cell HC5.out)).trans HC5.out
    go_wp2_with fail
    refine (w_put1 HP0.out.1 _ (nu.data.toList) rfl (by have := HL.out; omega)).mono ?_
    rintro e w1 ⟨rfl, hp, hk⟩
    have HP1 : Hid (PS w0 S w1 (l ++ (nu.data.toList)) ∧ Lib.OthersKept 5 (some S) w w1) := ⟨hp, HP0.out.2.trans hk⟩
    clear hp hk
    clear c30 c40 c50
    go_wp2_with fail
    go_end0
    refine ⟨rfl, ?_, HP1.out.2⟩
    have hz := HP1.out.1
    try simp only [List.append_assoc, List.cons_append, List.nil_append] at hz ⊢
    exact hz
  have b3 : (kd == 3) = false := by rw [beq_eq_false_iff_ne]; exact k3
  rw [if_neg k0, if_neg k1, if_neg k2, if_neg k3]
  generalize hy : (34 :: (qb (runes tx.data.toList) ++ [34])) = Y at *
  clear k0 k1 k2 k3 hy
  intro w l hP hlen
  have HP0 := Hid.mk (And.intro hP (Lib.OthersKept.refl 5 (some S) w))
  have HL := Hid.mk hlen
  clear hP hlen
  go_enter Tryz.func77, Tryz.ntmps77
  have c30 := (HP0.out.1.low.cell (p := ⟨g, o + 3, none⟩) (block_lt_of_cell HC3.out)).trans HC3.out
  have c40 := (HP0.out.1.low.cell (p := ⟨g, o + 4, none⟩) (block_lt_of_cell HC4.out)).trans HC4.out
  have c50 := (HP0.out.1.low.cell (p := ⟨g, o + 5, none⟩) (block_lt_of_cell HC5.out)).trans HC5.out
  go_wp2_with fail
  refine (HQ.out _).mono ?_
  rintro e w1 ⟨rfl, hb1⟩
  have HP1 : Hid (PS w0 S w1 l ∧ Lib.OthersKept 5 (some S) w w1) := ⟨HP0.out.1.keep hb1, ok_low hb1⟩
  clear hb1 c30 c40 c50
  go_wp2_with fail
  refine (w_put1 HP1.out.1 _ (Y) rfl (by have := HL.out; omega)).mono ?_
  rintro e w2 ⟨rfl, hp, hk⟩
  have HP2 : Hid (PS w0 S w2 (l ++ (Y)) ∧ Lib.OthersKept 5 (some S) w w2) := ⟨hp, HP1.out.2.trans hk⟩
  clear hp hk
  go_wp2_with fail
  go_end0
  refine ⟨rfl, ?_, HP2.out.2⟩
  have hz := HP2.out.1
  try simp only [List.append_assoc, List.cons_append, List.nil_append] at hz ⊢
  exact hz

set_option maxRecDepth 100000 in
set_option maxHeartbeats 3200000 in
theorem w_list (w0 : World) (S g o b off N kc : Nat) (ko : Option Addr) (t : Nat → List UInt8) (hko : 0 < N → ko = some ⟨b, off, none⟩) (c9 : w0.cell? ⟨g, o + 9, none⟩ = some (.slice ko N kc)) (hcap : N ≤ kc) (hbig : N ≤ 140737488355328) (hT : ∀ i, i < N → Say w0 S 26 #[.pointer (some ⟨S, 0, none⟩), .pointer (some ⟨b, off + i * 10, none⟩)] (t i)) : Say w0 S 79 #[.pointer (some ⟨S, 0, none⟩), .pointer (some ⟨g, o, none⟩)] (sList t N) := by
  have HR := Hid.mk (w_row w0 S b off N kc ko t hko hcap hbig hT)
  have HC9 := Hid.mk c9
  clear hT c9 hko
  unfold sList
  intro w l hP hlen
  have HP0 := Hid.mk (And.intro hP (Lib.OthersKept.refl 5 (some S) w))
  have HL := Hid.mk hlen
  clear hP hlen
  go_enter Tryz.func79, Tryz.ntmps79
  have c90 := (HP0.out.1.low.cell (p := ⟨g, o + 9, none⟩) (block_lt_of_cell HC9.out)).trans HC9.out
  go_wp2_with fail
  refine (w_put1 HP0.out.1 _ ([91]) rfl (by have := HL.out; (try simp only [List.length_append, List.length_cons, List.length_nil] at this ⊢); omega)).mono ?_
  rintro e w1 ⟨rfl, hp, hk⟩
  have HP1 : Hid (PS w0 S w1 (l ++ ([91])) ∧ Lib.OthersKept 5 (some S) w w1) := ⟨hp, HP0.out.2.trans hk⟩
  clear hp hk
  clear c90
  have c91 := (HP1.out.1.low.cell (p := ⟨g, o + 9, none⟩) (block_lt_of_cell HC9.out)).trans HC9.out
  go_wp2_with fail
  refine (HR.out _ _ HP1.out.1 (by have := HL.out; (try simp only [List.length_append, List.length_cons, List.length_nil] at this ⊢); omega)).mono ?_
  rintro e w2 ⟨rfl, hp, hk⟩
  have HP2 : Hid (PS w0 S w2 (l ++ ([91]) ++ (pRw t N)) ∧ Lib.OthersKept 5 (some S) w w2) := ⟨hp, HP1.out.2.trans hk⟩
  clear hp hk
  clear c91
  have c92 := (HP2.out.1.low.cell (p := ⟨g, o + 9, none⟩) (block_lt_of_cell HC9.out)).trans HC9.out
  go_wp2_with fail
  refine (w_put1 HP2.out.1 _ ([93]) rfl (by have := HL.out; (try simp only [List.length_append, List.length_cons, List.length_nil] at this ⊢); omega)).mono ?_
  rintro e w3 ⟨rfl, hp, hk⟩
  have HP3 : Hid (PS w0 S w3 (l ++ ([91]) ++ (pRw t N) ++ ([93])) ∧ Lib.OthersKept 5 (some S) w w3) := ⟨hp, HP2.out.2.trans hk⟩
  clear hp hk
  clear c92
  go_wp2_with fail
  go_end0
  refine ⟨rfl, ?_, HP3.out.2⟩
  have hz := HP3.out.1
  try simp only [List.append_assoc, List.cons_append, List.nil_append] at hz ⊢
  exact hz

set_option maxRecDepth 100000 in
set_option maxHeartbeats 3200000 in
theorem w_variable (w0 : World) (S g o : Nat) (op : Int) (c0 : w0.cell? ⟨g, o, none⟩ = some (.int .i64 op)) (tx : ByteArray) (c2 : w0.cell? ⟨g, o + 2, none⟩ = some (.string tx)) : Say w0 S 81 #[.pointer (some ⟨S, 0, none⟩), .pointer (some ⟨g, o, none⟩)] (sVar op tx) := by
  have HC0 := Hid.mk c0
  have HC2 := Hid.mk c2
  clear c0 c2
  unfold sVar
  by_cases h35 : op = 35
  · subst h35
    rw [if_pos rfl]
    intro w l hP hlen
    have HP0 := Hid.mk (And.intro hP (Lib.OthersKept.refl 5 (some S) w))
    have HL := Hid.mk hlen
    clear hP hlen
    go_enter Tryz.func81, Tryz.ntmps81
    have c00 := (HP0.out.1.low.cell (p := ⟨g, o, none⟩) (block_lt_of_cell HC0.out)).trans HC0.out
    have c20 := (HP0.out.1.low.cell (p := ⟨g, o + 2, none⟩) (block_lt_of_cell HC2.out)).trans HC2.out
    go_wp2_with fail
    refine (w_put1 HP0.out.1 _ ([98, 114, 101, 97, 107, 32]) rfl (by have := HL.out; (try simp only [List.length_append, List.length_cons, List.length_nil] at this ⊢); omega)).mono ?_
    rintro e w1 ⟨rfl, hp, hk⟩
    have HP1 : Hid (PS w0 S w1 (l ++ ([98, 114, 101, 97, 107, 32])) ∧ Lib.OthersKept 5 (some S) w w1) := ⟨hp, HP0.out.2.trans hk⟩
    clear hp hk
    clear c00 c20
    have c01 := (HP1.out.1.low.cell (p := ⟨g, o, none⟩) (block_lt_of_cell HC0.out)).trans HC0.out
    have c21 := (HP1.out.1.low.cell (p := ⟨g, o + 2, none⟩) (block_lt_of_cell HC2.out)).trans HC2.out
    go_wp2_with fail
    refine (w_put2 HP1.out.1 _ _ ([36] ++ tx.data.toList) rfl (by have := HL.out; (try simp only [List.length_append, List.length_cons, List.length_nil] at this ⊢); omega)).mono ?_
    rintro e w2 ⟨rfl, hp, hk⟩
    have HP2 : Hid (PS w0 S w2 (l ++ ([98, 114, 101, 97, 107, 32]) ++ ([36] ++ tx.data.toList)) ∧ Lib.OthersKept 5 (some S) w w2) := ⟨hp, HP1.out.2.trans hk⟩
    clear hp hk
    clear c01 c21
    go_wp2_with fail
    go_end0
    refine ⟨rfl, ?_, HP2.out.2⟩
    have hz := HP2.out.1
    try simp only [List.append_assoc, List.cons_append, List.nil_append] at hz ⊢
    exact hz
  · have b35 : (op == 35) = false := by rw [beq_eq_false_iff_ne]; exact h35
    rw [if_neg h35, List.nil_append]
    intro w l hP hlen
    have HP0 := Hid.mk (And.intro hP (Lib.OthersKept.refl 5 (some S) w))
    have HL := Hid.mk hlen
    clear hP hlen
    go_enter Tryz.func81, Tryz.ntmps81
    have c00 := (HP0.out.1.low.cell (p := ⟨g, o, none⟩) (block_lt_of_cell HC0.out)).trans HC0.out
    have c20 := (HP0.out.1.low.cell (p := ⟨g, o + 2, none⟩) (block_lt_of_cell HC2.out)).trans HC2.out
    go_wp2_with fail
    refine (w_put2 HP0.out.1 _ _ ([36] ++ tx.data.toList) rfl (by have := HL.out; (try simp only [List.length_append, List.length_cons, List.length_nil] at this ⊢); omega)).mono ?_
    rintro e w1 ⟨rfl, hp, hk⟩
    have HP1 : Hid (PS w0 S w1 (l ++ ([36] ++ tx.data.toList)) ∧ Lib.OthersKept 5 (some S) w w1) := ⟨hp, HP0.out.2.trans hk⟩
    clear hp hk
    clear c00 c20
    go_wp2_with fail
    go_end0
    refine ⟨rfl, ?_, HP1.out.2⟩
    have hz := HP1.out.1
    try simp only [List.append_assoc, List.cons_append, List.nil_append] at hz ⊢
    exact hz

set_option maxRecDepth 100000 in
set_option maxHeartbeats 3200000 in
theorem w_slice (w0 : World) (S h g o b off N kc : Nat) (K : Nat → NT) (t : Nat → List UInt8) (c9 : w0.cell? ⟨g, o + 9, none⟩ = some (.slice (some ⟨b, off, none⟩) N kc)) (hcap : N ≤ kc) (hbig : N ≤ 140737488355328) (hN : 3 ≤ N) (hB : Say w0 S 141 #[.pointer (some ⟨S, 0, none⟩), .pointer (some ⟨b, off + 0 * 10, none⟩)] (pBs (t 0) (K 0))) (hE1 : Say w0 S 143 #[.pointer (some ⟨S, 0, none⟩), .pointer (some ⟨b, off + 1 * 10, none⟩)] (pEn (t 1) (K 1))) (hE2 : Say w0 S 143 #[.pointer (some ⟨S, 0, none⟩), .pointer (some ⟨b, off + 2 * 10, none⟩)] (pEn (t 2) (K 2))) : Say w0 S 83 #[.pointer (some ⟨S, 0, none⟩), .pointer (some ⟨g, o, none⟩)] (sSlice K t) := by
  have q0 : ((0 : Int) < (N : Int)) := by omega
  have q1 : ((1 : Int) < (N : Int)) := by omega
  have q2 : ((2 : Int) < (N : Int)) := by omega
  have H0 := Hid.mk hB
  have H1 := Hid.mk hE1
  have H2 := Hid.mk hE2
  have HC9 := Hid.mk c9
  clear hB hE1 hE2 c9
  unfold sSlice
  intro w l hP hlen
  have HP0 := Hid.mk (And.intro hP (Lib.OthersKept.refl 5 (some S) w))
  have HL := Hid.mk hlen
  clear hP hlen
  go_enter Tryz.func83, Tryz.ntmps83
  have c90 := (HP0.out.1.low.cell (p := ⟨g, o + 9, none⟩) (block_lt_of_cell HC9.out)).trans HC9.out
  go_wp2_with fail
  refine (H0.out _ _ HP0.out.1 (by have := HL.out; (try simp only [List.length_append, List.length_cons, List.length_nil] at this ⊢); omega)).mono ?_
  rintro e w1 ⟨rfl, hp, hk⟩
  have HP1 : Hid (PS w0 S w1 (l ++ (pBs (t 0) (K 0))) ∧ Lib.OthersKept 5 (some S) w w1) := ⟨hp, HP0.out.2.trans hk⟩
  clear hp hk
  clear c90
  have c91 := (HP1.out.1.low.cell (p := ⟨g, o + 9, none⟩) (block_lt_of_cell HC9.out)).trans HC9.out
  go_wp2_with fail
  refine (w_put1 HP1.out.1 _ ([91]) rfl (by have := HL.out; (try simp only [List.length_append, List.length_cons, List.length_nil] at this ⊢); omega)).mono ?_
  rintro e w2 ⟨rfl, hp, hk⟩
  have HP2 : Hid (PS w0 S w2 (l ++ (pBs (t 0) (K 0)) ++ ([91])) ∧ Lib.OthersKept 5 (some S) w w2) := ⟨hp, HP1.out.2.trans hk⟩
  clear hp hk
  clear c91
  have c92 := (HP2.out.1.low.cell (p := ⟨g, o + 9, none⟩) (block_lt_of_cell HC9.out)).trans HC9.out
  go_wp2_with fail
  refine (H1.out _ _ HP2.out.1 (by have := HL.out; (try simp only [List.length_append, List.length_cons, List.length_nil] at this ⊢); omega)).mono ?_
  rintro e w3 ⟨rfl, hp, hk⟩
  have HP3 : Hid (PS w0 S w3 (l ++ (pBs (t 0) (K 0)) ++ ([91]) ++ (pEn (t 1) (K 1))) ∧ Lib.OthersKept 5 (some S) w w3) := ⟨hp, HP2.out.2.trans hk⟩
  clear hp hk
  clear c92
  have c93 := (HP3.out.1.low.cell (p := ⟨g, o + 9, none⟩) (block_lt_of_cell HC9.out)).trans HC9.out
  go_wp2_with fail
  refine (w_put1 HP3.out.1 _ ([58]) rfl (by have := HL.out; (try simp only [List.length_append, List.length_cons, List.length_nil] at this ⊢); omega)).mono ?_
  rintro e w4 ⟨rfl, hp, hk⟩
  have HP4 : Hid (PS w0 S w4 (l ++ (pBs (t 0) (K 0)) ++ ([91]) ++ (pEn (t 1) (K 1)) ++ ([58])) ∧ Lib.OthersKept 5 (some S) w w4) := ⟨hp, HP3.out.2.trans hk⟩
  clear hp hk
  clear c93
  have c94 := (HP4.out.1.low.cell (p := ⟨g, o + 9, none⟩) (block_lt_of_cell HC9.out)).trans HC9.out
  go_wp2_with fail
  refine (H2.out _ _ HP4.out.1 (by have := HL.out; (try simp only [List.length_append, List.length_cons, List.length_nil] at this ⊢); omega)).mono ?_
  rintro e w5 ⟨rfl, hp, hk⟩
  have HP5 : Hid (PS w0 S w5 (l ++ (pBs (t 0) (K 0)) ++ ([91]) ++ (pEn (t 1) (K 1)) ++ ([58]) ++ (pEn (t 2) (K 2))) ∧ Lib.OthersKept 5 (some S) w w5) := ⟨hp, HP4.out.2.trans hk⟩
  clear hp hk
  clear c94
  have c95 := (HP5.out.1.low.cell (p := ⟨g, o + 9, none⟩) (block_lt_of_cell HC9.out)).trans HC9.out
  go_wp2_with fail
  refine (w_put1 HP5.out.1 _ ([93]) rfl (by have := HL.out; (try simp only [List.length_append, List.length_cons, List.length_nil] at this ⊢); omega)).mono ?_
  rintro e w6 ⟨rfl, hp, hk⟩
  have HP6 : Hid (PS w0 S w6 (l ++ (pBs (t 0) (K 0)) ++ ([91]) ++ (pEn (t 1) (K 1)) ++ ([58]) ++ (pEn (t 2) (K 2)) ++ ([93])) ∧ Lib.OthersKept 5 (some S) w w6) := ⟨hp, HP5.out.2.trans hk⟩
  clear hp hk
  clear c95
  go_wp2_with fail
  go_end0
  refine ⟨rfl, ?_, HP6.out.2⟩
  have hz := HP6.out.1
  try simp only [List.append_assoc, List.cons_append, List.nil_append] at hz ⊢
  exact hz

set_option maxRecDepth 100000 in
set_option maxHeartbeats 3200000 in
theorem w_each (w0 : World) (S h g o b off N kc : Nat) (K : Nat → NT) (t : Nat → List UInt8) (c9 : w0.cell? ⟨g, o + 9, none⟩ = some (.slice (some ⟨b, off, none⟩) N kc)) (hcap : N ≤ kc) (hbig : N ≤ 140737488355328) (hN : 1 ≤ N) (hT : ∀ i, i < N → Say w0 S 26 #[.pointer (some ⟨S, 0, none⟩), .pointer (some ⟨b, off + i * 10, none⟩)] (t i)) (hA : ∀ i, i < N → NAt w0 (h + 1) (K i) b (off + i * 10) ∧ 0 ≤ (K i).op ∧ (K i).op < 44) : Say w0 S 84 #[.pointer (some ⟨S, 0, none⟩), .pointer (some ⟨g, o, none⟩)] (sEach K t) := by
  have q0 : ((0 : Int) < (N : Int)) := by omega
  have HBs : Hid (∀ i, i < N → Say w0 S 141 #[.pointer (some ⟨S, 0, none⟩), .pointer (some ⟨b, off + i * 10, none⟩)] (pBs (t i) (K i))) := fun i hi => w_base w0 S h (K i) b (off + i * 10) (t i) (hA i hi).1 (hA i hi).2 (hT i hi)
  have HBs0 := Hid.mk (HBs.out 0 (by omega))
  have HC9 := Hid.mk c9
  clear hT hA c9 HBs
  unfold sEach
  intro w l hP hlen
  have HP0 := Hid.mk (And.intro hP (Lib.OthersKept.refl 5 (some S) w))
  have HL := Hid.mk hlen
  clear hP hlen
  go_enter Tryz.func84, Tryz.ntmps84
  have c90 := (HP0.out.1.low.cell (p := ⟨g, o + 9, none⟩) (block_lt_of_cell HC9.out)).trans HC9.out
  go_wp2_with fail
  refine (HBs0.out _ _ HP0.out.1 (by have := HL.out; (try simp only [List.length_append, List.length_cons, List.length_nil] at this ⊢); omega)).mono ?_
  rintro e w1 ⟨rfl, hp, hk⟩
  have HP1 : Hid (PS w0 S w1 (l ++ (pBs (t 0) (K 0))) ∧ Lib.OthersKept 5 (some S) w w1) := ⟨hp, HP0.out.2.trans hk⟩
  clear hp hk
  clear c90
  have c91 := (HP1.out.1.low.cell (p := ⟨g, o + 9, none⟩) (block_lt_of_cell HC9.out)).trans HC9.out
  go_wp2_with fail
  refine (w_put1 HP1.out.1 _ ([91, 93]) rfl (by have := HL.out; (try simp only [List.length_append, List.length_cons, List.length_nil] at this ⊢); omega)).mono ?_
  rintro e w2 ⟨rfl, hp, hk⟩
  have HP2 : Hid (PS w0 S w2 (l ++ (pBs (t 0) (K 0)) ++ ([91, 93])) ∧ Lib.OthersKept 5 (some S) w w2) := ⟨hp, HP1.out.2.trans hk⟩
  clear hp hk
  clear c91
  go_wp2_with fail
  go_end0
  refine ⟨rfl, ?_, HP2.out.2⟩
  have hz := HP2.out.1
  try simp only [List.append_assoc, List.cons_append, List.nil_append] at hz ⊢
  exact hz
end Go.Proofs.YtdjleoglphgdgaaGreatDoor
namespace Go.Proofs.YtdjleoglphgdgaaGreatDoor
open Go.RowKit Go.Shelf Go.Sort
set_option linter.unusedVariables false
set_option linter.unusedSimpArgs false
attribute [local go_sem] Oper.semAt_some

set_option maxRecDepth 100000 in
set_option maxHeartbeats 3200000 in
theorem w_try (w0 : World) (S h g o b off N kc : Nat) (K : Nat → NT) (t : Nat → List UInt8) (c9 : w0.cell? ⟨g, o + 9, none⟩ = some (.slice (some ⟨b, off, none⟩) N kc)) (hcap : N ≤ kc) (hbig : N ≤ 140737488355328) (hN : 1 ≤ N) (hN2 : N ≤ 2) (hT : ∀ i, i < N → Say w0 S 26 #[.pointer (some ⟨S, 0, none⟩), .pointer (some ⟨b, off + i * 10, none⟩)] (t i)) (hA : ∀ i, i < N → NAt w0 (h + 1) (K i) b (off + i * 10) ∧ 0 ≤ (K i).op ∧ (K i).op < 44) : Say w0 S 85 #[.pointer (some ⟨S, 0, none⟩), .pointer (some ⟨g, o, none⟩)] (sTry K t N) := by
  have mixed : Tryz.prog.follows .mixedOrders = true := by kernel_rfl
  have HBs : Hid (∀ i, i < N → Say w0 S 141 #[.pointer (some ⟨S, 0, none⟩), .pointer (some ⟨b, off + i * 10, none⟩)] (pBs (t i) (K i))) := fun i hi => w_base w0 S h (K i) b (off + i * 10) (t i) (hA i hi).1 (hA i hi).2 (hT i hi)
  have HH : Hid (∀ i, i < N → ∀ (k : Int) (bk bp : Nat) (w : World) (l : List UInt8), PS w0 S w l → w.heap[bk]? = some (.cells #[.int .i64 k] 3 (0, 0)) → w.heap[bp]? = some (.cells #[.pointer (some ⟨S, 0, none⟩)] 74 (0, 0)) → l.length + (pHd (t i) (K i) k).length ≤ 140737488355328 →
      Calls Tryz.prog 186 #[.pointer (some ⟨b, off + i * 10, none⟩), .pointer (some ⟨bk, 0, none⟩), .pointer (some ⟨bp, 0, none⟩)] w fun e w' => e = .returned (.tuple #[]) ∧ PS w0 S w' (l ++ pHd (t i) (K i) k) ∧ Lib.OthersKept 5 (some S) w w') := fun i hi k bk bp w l hP h1 h2 h3 => w_held1 w0 S h (K i) b (off + i * 10) k bk bp (t i) (hA i hi).1 (hA i hi).2 (hT i hi) w l hP h1 h2 h3
  have HBs0 := Hid.mk (HBs.out 0 (by omega))
  have HC9 := Hid.mk c9
  have q0 : ((0 : Int) < (N : Int)) := by omega
  clear hT hA c9 HBs
  unfold sTry
  by_cases h1 : N = 1
  · rw [if_pos h1]
    subst h1
    clear HH
    intro w l hP hlen
    have HP0 := Hid.mk (And.intro hP (Lib.OthersKept.refl 5 (some S) w))
    have HL := Hid.mk hlen
    clear hP hlen
    go_enter Tryz.func85, Tryz.ntmps85
    have c90 := (HP0.out.1.low.cell (p := ⟨g, o + 9, none⟩) (block_lt_of_cell HC9.out)).trans HC9.out
    go_wp2_with fail
    refine (HBs0.out _ _ HP0.out.1 (by have := HL.out; (try simp only [List.length_append, List.length_cons, List.length_nil] at this ⊢); omega)).mono ?_
    rintro e w1 ⟨rfl, hp, hk⟩
    have HP1 : Hid (PS w0 S w1 (l ++ (pBs (t 0) (K 0))) ∧ Lib.OthersKept 5 (some S) w w1) := ⟨hp, HP0.out.2.trans hk⟩
    clear hp hk
    clear c90
    have c91 := (HP1.out.1.low.cell (p := ⟨g, o + 9, none⟩) (block_lt_of_cell HC9.out)).trans HC9.out
    go_wp2_with fail
    refine (w_put1 HP1.out.1 _ ([63]) rfl (by have := HL.out; (try simp only [List.length_append, List.length_cons, List.length_nil] at this ⊢); omega)).mono ?_
    rintro e w2 ⟨rfl, hp, hk⟩
    have HP2 : Hid (PS w0 S w2 (l ++ (pBs (t 0) (K 0)) ++ ([63])) ∧ Lib.OthersKept 5 (some S) w w2) := ⟨hp, HP1.out.2.trans hk⟩
    clear hp hk
    clear c91
    have c92 := (HP2.out.1.low.cell (p := ⟨g, o + 9, none⟩) (block_lt_of_cell HC9.out)).trans HC9.out
    go_wp2_with fail
    (try simp only [Exit.inBlock, Exit.then])
    refine bodyPost_ret (results_none rfl _ _ _) rfl ?_
    refine ⟨rfl, ?_, HP2.out.2⟩
    have hz := HP2.out.1
    try simp only [List.append_assoc, List.cons_append, List.nil_append] at hz ⊢
    exact hz
  · rw [if_neg h1]
    have b1 : ((N : Int) == 1) = false := by rw [beq_eq_false_iff_ne]; omega
    have q1 : ((1 : Int) < (N : Int)) := by omega
    clear HBs0
    intro w l hP hlen
    have HP0 := Hid.mk (And.intro hP (Lib.OthersKept.refl 5 (some S) w))
    have HL := Hid.mk hlen
    clear hP hlen
    go_enter Tryz.func85, Tryz.ntmps85
    have c90 := (HP0.out.1.low.cell (p := ⟨g, o + 9, none⟩) (block_lt_of_cell HC9.out)).trans HC9.out
    go_wp2_with fail
    refine (w_put1 HP0.out.1 _ ([116, 114, 121, 32]) rfl (by have := HL.out; (try simp only [List.length_append, List.length_cons, List.length_nil] at this ⊢); omega)).mono ?_
    rintro e w1 ⟨rfl, hp, hk⟩
    have HP1 : Hid (PS w0 S w1 (l ++ ([116, 114, 121, 32])) ∧ Lib.OthersKept 5 (some S) w w1) := ⟨hp, HP0.out.2.trans hk⟩
    clear hp hk
    clear c90
    have c91 := (HP1.out.1.low.cell (p := ⟨g, o + 9, none⟩) (block_lt_of_cell HC9.out)).trans HC9.out
    go_wp2_with fail
    refine wp_region_held_drew (S := (fun u => u.cell? ⟨g, o + 9, none⟩ = some (.slice (some ⟨b, off, none⟩) N kc))) (by kernel_rfl) (by exact c91) (fun hHeld => ?_)
    refine wpAnyH_take (i := 0) (oi := _) (v := .pointer (some ⟨S, 0, none⟩)) rfl (by kernel_rfl) (by kernel_rfl) (by kernel_rfl) (fun _ _ _ h => h) (Or.inl ⟨by rfl, ?_⟩) (by assumption) ?_
    · intro w hSw
      go_simp
      try (intro hq; exfalso; omega)
    try simp only [Act.put, List.setIfInBounds_toArray, List.set_cons_zero, List.set_cons_succ]
    refine wpAnyH_take (i := 2) (oi := _) (v := .pointer (some ⟨g, o, none⟩)) rfl (by kernel_rfl) (by kernel_rfl) (by kernel_rfl) (fun _ _ _ h => h) (Or.inl ⟨by rfl, ?_⟩) (by assumption) ?_
    · intro w hSw
      go_simp
      try (intro hq; exfalso; omega)
    try simp only [Act.put, List.setIfInBounds_toArray, List.set_cons_zero, List.set_cons_succ]
    refine wpAnyH_take (i := 3) (oi := _) (v := .pointer (some ⟨g, o, none⟩)) rfl (by kernel_rfl) (by kernel_rfl) (by kernel_rfl) (fun _ _ _ h => h) (Or.inl ⟨by rfl, ?_⟩) (by assumption) ?_
    · intro w hSw
      go_simp
      try (intro hq; exfalso; omega)
    try simp only [Act.put, List.setIfInBounds_toArray, List.set_cons_zero, List.set_cons_succ]
    refine wpAnyH_take (i := 4) (oi := _) (v := .pointer (some ⟨g, o + 9, none⟩)) rfl (by kernel_rfl) (by kernel_rfl) (by kernel_rfl) (fun _ _ _ h => h) (Or.inl ⟨by rfl, ?_⟩) (by assumption) ?_
    · intro w hSw
      go_simp
      try (intro hq; exfalso; omega)
    try simp only [Act.put, List.setIfInBounds_toArray, List.set_cons_zero, List.set_cons_succ]
    refine wpAnyH_take (i := 5) (oi := _) (v := .slice (some ⟨b, off, none⟩) N kc) rfl (by kernel_rfl) (by kernel_rfl) (by kernel_rfl) (fun _ _ _ h => h) (Or.inl ⟨by rfl, ?_⟩) (by assumption) ?_
    · intro w hSw
      go_simp
      try (intro hq; exfalso; omega)
    try simp only [Act.put, List.setIfInBounds_toArray, List.set_cons_zero, List.set_cons_succ]
    refine wpAnyH_take (i := 6) (oi := _) (v := .pointer (some ⟨b, off + 0 * 10, none⟩)) rfl (by kernel_rfl) (by kernel_rfl) (by kernel_rfl) (fun _ _ _ h => h) (Or.inl ⟨by rfl, ?_⟩) (by assumption) ?_
    · intro w hSw
      go_simp
      try (intro hq; exfalso; omega)
    try simp only [Act.put, List.setIfInBounds_toArray, List.set_cons_zero, List.set_cons_succ]
    refine wpAnyH_ready (rs := [1]) (by kernel_rfl) (by simp) ?_
    refine AllReadyH.cons (o := _) rfl (fun K2 hK2 => ?_) AllReadyH.nil
    go_simp
    go_at_call 140
    refine (w_held S 10 _).mono ?_
    rintro e wh ⟨rfl, hwh⟩
    have HPh : Hid (PS w0 S wh (l ++ ([116, 114, 121, 32])) ∧ Lib.OthersKept 5 (some S) w wh) := by rw [hwh]; exact ⟨(HP1.out.1.drew.alloc _).alloc _, (Lib.OthersKept.drew HP1.out.2).alloc _ |>.alloc _⟩
    have HBk : Hid (wh.heap[w1.drew.heap.size + 1]? = some (.cells #[.int .i64 (10)] 3 (0, 0)) ∧ wh.heap[w1.drew.heap.size]? = some (.cells #[.pointer (some ⟨S, 0, none⟩)] 74 (0, 0))) := by rw [hwh]; exact ⟨by have := heap_alloc_new (w1.drew.alloc (.cells #[.pointer (some ⟨S, 0, none⟩)] 74)) (.cells #[.int .i64 (10)] 3); simpa using this, (Below.heap_alloc _ _ _ (by simp)).trans (heap_alloc_new _ _)⟩
    clear hwh
    have c9h := (HPh.out.1.low.cell (p := ⟨g, o + 9, none⟩) (block_lt_of_cell HC9.out)).trans HC9.out
    go_wp2_with fail
    refine hK2.out _ _ (by exact c9h) (fun hHeld => ?_)
    clear hK2 K2
    try simp only [Act.put, List.setIfInBounds_toArray, List.set_cons_zero, List.set_cons_succ]
    refine wpAnyH_ready (rs := [7]) (by kernel_rfl) (by simp) ?_
    refine AllReadyH.cons (o := _) rfl (fun K2 hK2 => ?_) AllReadyH.nil
    go_simp
    go_at_call 186
    refine (HH.out (0) (by omega) (10) _ _ _ _ HPh.out.1 HBk.out.1 HBk.out.2 (by have := HL.out; (try simp only [List.length_append, List.length_cons, List.length_nil] at this ⊢); omega)).mono ?_
    rintro e w2 ⟨rfl, hp, hk⟩
    have HP2 : Hid (PS w0 S w2 (l ++ ([116, 114, 121, 32]) ++ pHd (t (0)) (K (0)) (10)) ∧ Lib.OthersKept 5 (some S) w w2) := ⟨hp, HPh.out.2.trans hk⟩
    clear hp hk
    have c9j := (HP2.out.1.low.cell (p := ⟨g, o + 9, none⟩) (block_lt_of_cell HC9.out)).trans HC9.out
    go_wp2_with fail
    refine hK2.out _ _ (by exact c9j) (fun hHeld => ?_)
    clear hK2 K2 hHeld
    try simp only [Act.put, List.setIfInBounds_toArray, List.set_cons_zero, List.set_cons_succ]
    refine wpAnyH_done (by kernel_rfl) ?_ _
    clear HPh HBk c91 c9h c9j
    have c92 := (HP2.out.1.low.cell (p := ⟨g, o + 9, none⟩) (block_lt_of_cell HC9.out)).trans HC9.out
    go_wp2_with fail
    refine (w_put1 HP2.out.1 _ ([32, 99, 97, 116, 99, 104, 32]) rfl (by have := HL.out; (try simp only [List.length_append, List.length_cons, List.length_nil] at this ⊢); omega)).mono ?_
    rintro e w3 ⟨rfl, hp, hk⟩
    have HP3 : Hid (PS w0 S w3 (l ++ ([116, 114, 121, 32]) ++ pHd (t (0)) (K (0)) (10) ++ ([32, 99, 97, 116, 99, 104, 32])) ∧ Lib.OthersKept 5 (some S) w w3) := ⟨hp, HP2.out.2.trans hk⟩
    clear hp hk
    clear c92
    have c93 := (HP3.out.1.low.cell (p := ⟨g, o + 9, none⟩) (block_lt_of_cell HC9.out)).trans HC9.out
    go_wp2_with fail
    refine wp_region_held_drew (S := (fun u => u.cell? ⟨g, o + 9, none⟩ = some (.slice (some ⟨b, off, none⟩) N kc))) (by kernel_rfl) (by exact c93) (fun hHeld => ?_)
    refine wpAnyH_take (i := 0) (oi := _) (v := .pointer (some ⟨S, 0, none⟩)) rfl (by kernel_rfl) (by kernel_rfl) (by kernel_rfl) (fun _ _ _ h => h) (Or.inl ⟨by rfl, ?_⟩) (by assumption) ?_
    · intro w hSw
      go_simp
      try (intro hq; exfalso; omega)
    try simp only [Act.put, List.setIfInBounds_toArray, List.set_cons_zero, List.set_cons_succ]
    refine wpAnyH_take (i := 2) (oi := _) (v := .pointer (some ⟨g, o, none⟩)) rfl (by kernel_rfl) (by kernel_rfl) (by kernel_rfl) (fun _ _ _ h => h) (Or.inl ⟨by rfl, ?_⟩) (by assumption) ?_
    · intro w hSw
      go_simp
      try (intro hq; exfalso; omega)
    try simp only [Act.put, List.setIfInBounds_toArray, List.set_cons_zero, List.set_cons_succ]
    refine wpAnyH_take (i := 3) (oi := _) (v := .pointer (some ⟨g, o, none⟩)) rfl (by kernel_rfl) (by kernel_rfl) (by kernel_rfl) (fun _ _ _ h => h) (Or.inl ⟨by rfl, ?_⟩) (by assumption) ?_
    · intro w hSw
      go_simp
      try (intro hq; exfalso; omega)
    try simp only [Act.put, List.setIfInBounds_toArray, List.set_cons_zero, List.set_cons_succ]
    refine wpAnyH_take (i := 4) (oi := _) (v := .pointer (some ⟨g, o + 9, none⟩)) rfl (by kernel_rfl) (by kernel_rfl) (by kernel_rfl) (fun _ _ _ h => h) (Or.inl ⟨by rfl, ?_⟩) (by assumption) ?_
    · intro w hSw
      go_simp
      try (intro hq; exfalso; omega)
    try simp only [Act.put, List.setIfInBounds_toArray, List.set_cons_zero, List.set_cons_succ]
    refine wpAnyH_take (i := 5) (oi := _) (v := .slice (some ⟨b, off, none⟩) N kc) rfl (by kernel_rfl) (by kernel_rfl) (by kernel_rfl) (fun _ _ _ h => h) (Or.inl ⟨by rfl, ?_⟩) (by assumption) ?_
    · intro w hSw
      go_simp
      try (intro hq; exfalso; omega)
    try simp only [Act.put, List.setIfInBounds_toArray, List.set_cons_zero, List.set_cons_succ]
    refine wpAnyH_take (i := 6) (oi := _) (v := .pointer (some ⟨b, off + 1 * 10, none⟩)) rfl (by kernel_rfl) (by kernel_rfl) (by kernel_rfl) (fun _ _ _ h => h) (Or.inl ⟨by rfl, ?_⟩) (by assumption) ?_
    · intro w hSw
      go_simp
      try (intro hq; exfalso; omega)
    try simp only [Act.put, List.setIfInBounds_toArray, List.set_cons_zero, List.set_cons_succ]
    refine wpAnyH_ready (rs := [1]) (by kernel_rfl) (by simp) ?_
    refine AllReadyH.cons (o := _) rfl (fun K2 hK2 => ?_) AllReadyH.nil
    go_simp
    go_at_call 140
    refine (w_held S 10 _).mono ?_
    rintro e wh ⟨rfl, hwh⟩
    have HPh : Hid (PS w0 S wh (l ++ ([116, 114, 121, 32]) ++ pHd (t (0)) (K (0)) (10) ++ ([32, 99, 97, 116, 99, 104, 32])) ∧ Lib.OthersKept 5 (some S) w wh) := by rw [hwh]; exact ⟨(HP3.out.1.drew.alloc _).alloc _, (Lib.OthersKept.drew HP3.out.2).alloc _ |>.alloc _⟩
    have HBk : Hid (wh.heap[w3.drew.heap.size + 1]? = some (.cells #[.int .i64 (10)] 3 (0, 0)) ∧ wh.heap[w3.drew.heap.size]? = some (.cells #[.pointer (some ⟨S, 0, none⟩)] 74 (0, 0))) := by rw [hwh]; exact ⟨by have := heap_alloc_new (w3.drew.alloc (.cells #[.pointer (some ⟨S, 0, none⟩)] 74)) (.cells #[.int .i64 (10)] 3); simpa using this, (Below.heap_alloc _ _ _ (by simp)).trans (heap_alloc_new _ _)⟩
    clear hwh
    have c9h := (HPh.out.1.low.cell (p := ⟨g, o + 9, none⟩) (block_lt_of_cell HC9.out)).trans HC9.out
    go_wp2_with fail
    refine hK2.out _ _ (by exact c9h) (fun hHeld => ?_)
    clear hK2 K2
    try simp only [Act.put, List.setIfInBounds_toArray, List.set_cons_zero, List.set_cons_succ]
    refine wpAnyH_ready (rs := [7]) (by kernel_rfl) (by simp) ?_
    refine AllReadyH.cons (o := _) rfl (fun K2 hK2 => ?_) AllReadyH.nil
    go_simp
    go_at_call 186
    refine (HH.out (1) (by omega) (10) _ _ _ _ HPh.out.1 HBk.out.1 HBk.out.2 (by have := HL.out; (try simp only [List.length_append, List.length_cons, List.length_nil] at this ⊢); omega)).mono ?_
    rintro e w4 ⟨rfl, hp, hk⟩
    have HP4 : Hid (PS w0 S w4 (l ++ ([116, 114, 121, 32]) ++ pHd (t (0)) (K (0)) (10) ++ ([32, 99, 97, 116, 99, 104, 32]) ++ pHd (t (1)) (K (1)) (10)) ∧ Lib.OthersKept 5 (some S) w w4) := ⟨hp, HPh.out.2.trans hk⟩
    clear hp hk
    have c9j := (HP4.out.1.low.cell (p := ⟨g, o + 9, none⟩) (block_lt_of_cell HC9.out)).trans HC9.out
    go_wp2_with fail
    refine hK2.out _ _ (by exact c9j) (fun hHeld => ?_)
    clear hK2 K2 hHeld
    try simp only [Act.put, List.setIfInBounds_toArray, List.set_cons_zero, List.set_cons_succ]
    refine wpAnyH_done (by kernel_rfl) ?_ _
    clear HPh HBk c93 c9h c9j
    go_wp2_with fail
    go_end0
    refine ⟨rfl, ?_, HP4.out.2⟩
    have hz := HP4.out.1
    try simp only [List.append_assoc, List.cons_append, List.nil_append] at hz ⊢
    exact hz

set_option maxRecDepth 100000 in
set_option maxHeartbeats 3200000 in
theorem w_neg (w0 : World) (S h g o b off N kc : Nat) (K : Nat → NT) (t : Nat → List UInt8) (c9 : w0.cell? ⟨g, o + 9, none⟩ = some (.slice (some ⟨b, off, none⟩) N kc)) (hcap : N ≤ kc) (hbig : N ≤ 140737488355328) (hN : 1 ≤ N) (hT : ∀ i, i < N → Say w0 S 26 #[.pointer (some ⟨S, 0, none⟩), .pointer (some ⟨b, off + i * 10, none⟩)] (t i)) (hA : ∀ i, i < N → NAt w0 (h + 1) (K i) b (off + i * 10) ∧ 0 ≤ (K i).op ∧ (K i).op < 44) : Say w0 S 86 #[.pointer (some ⟨S, 0, none⟩), .pointer (some ⟨g, o, none⟩)] (sNeg K t) := by
  have mixed : Tryz.prog.follows .mixedOrders = true := by kernel_rfl
  have HH : Hid (∀ i, i < N → ∀ (k : Int) (bk bp : Nat) (w : World) (l : List UInt8), PS w0 S w l → w.heap[bk]? = some (.cells #[.int .i64 k] 3 (0, 0)) → w.heap[bp]? = some (.cells #[.pointer (some ⟨S, 0, none⟩)] 74 (0, 0)) → l.length + (pHd (t i) (K i) k).length ≤ 140737488355328 →
      Calls Tryz.prog 186 #[.pointer (some ⟨b, off + i * 10, none⟩), .pointer (some ⟨bk, 0, none⟩), .pointer (some ⟨bp, 0, none⟩)] w fun e w' => e = .returned (.tuple #[]) ∧ PS w0 S w' (l ++ pHd (t i) (K i) k) ∧ Lib.OthersKept 5 (some S) w w') := fun i hi k bk bp w l hP h1 h2 h3 => w_held1 w0 S h (K i) b (off + i * 10) k bk bp (t i) (hA i hi).1 (hA i hi).2 (hT i hi) w l hP h1 h2 h3
  have HC9 := Hid.mk c9
  have q0 : ((0 : Int) < (N : Int)) := by omega
  obtain ⟨aio, aic, ayo, ayc, ano, anc, ako, akc, HA⟩ := (hA 0 (by omega)).1.open_
  have HC0 : Hid (w0.cell? ⟨b, off, none⟩ = some (.int .i64 (K 0).op)) := by have := HA.c0; show _ = _; simpa using this
  clear hT hA c9 HA
  unfold sNeg
  generalize hko : (K 0).op = op at *
  clear hko
  by_cases h1 : op = 11
  · rw [if_pos h1]
    subst h1
    intro w l hP hlen
    have HP0 := Hid.mk (And.intro hP (Lib.OthersKept.refl 5 (some S) w))
    have HL := Hid.mk hlen
    clear hP hlen
    go_enter Tryz.func86, Tryz.ntmps86
    have c90 := (HP0.out.1.low.cell (p := ⟨g, o + 9, none⟩) (block_lt_of_cell HC9.out)).trans HC9.out
    have c00 := (HP0.out.1.low.cell (p := ⟨b, off, none⟩) (block_lt_of_cell HC0.out)).trans HC0.out
    go_wp2_with fail
    refine (w_put1 HP0.out.1 _ ([45]) rfl (by have := HL.out; (try simp only [List.length_append, List.length_cons, List.length_nil] at this ⊢); omega)).mono ?_
    rintro e w1 ⟨rfl, hp, hk⟩
    have HP1 : Hid (PS w0 S w1 (l ++ ([45])) ∧ Lib.OthersKept 5 (some S) w w1) := ⟨hp, HP0.out.2.trans hk⟩
    clear hp hk
    clear c90 c00
    have c91 := (HP1.out.1.low.cell (p := ⟨g, o + 9, none⟩) (block_lt_of_cell HC9.out)).trans HC9.out
    have c01 := (HP1.out.1.low.cell (p := ⟨b, off, none⟩) (block_lt_of_cell HC0.out)).trans HC0.out
    go_wp2_with fail
    refine (w_put1 HP1.out.1 _ ([32]) rfl (by have := HL.out; (try simp only [List.length_append, List.length_cons, List.length_nil] at this ⊢); omega)).mono ?_
    rintro e w2 ⟨rfl, hp, hk⟩
    have HP2 : Hid (PS w0 S w2 (l ++ ([45]) ++ ([32])) ∧ Lib.OthersKept 5 (some S) w w2) := ⟨hp, HP1.out.2.trans hk⟩
    clear hp hk
    clear c91 c01
    have c92 := (HP2.out.1.low.cell (p := ⟨g, o + 9, none⟩) (block_lt_of_cell HC9.out)).trans HC9.out
    have c02 := (HP2.out.1.low.cell (p := ⟨b, off, none⟩) (block_lt_of_cell HC0.out)).trans HC0.out
    go_wp2_with fail
    refine wp_region_held_drew (S := (fun u => u.cell? ⟨g, o + 9, none⟩ = some (.slice (some ⟨b, off, none⟩) N kc))) (by kernel_rfl) (by exact c92) (fun hHeld => ?_)
    refine wpAnyH_take (i := 0) (oi := _) (v := .pointer (some ⟨S, 0, none⟩)) rfl (by kernel_rfl) (by kernel_rfl) (by kernel_rfl) (fun _ _ _ h => h) (Or.inl ⟨by rfl, ?_⟩) (by assumption) ?_
    · intro w hSw
      go_simp
      try (intro hq; exfalso; omega)
    try simp only [Act.put, List.setIfInBounds_toArray, List.set_cons_zero, List.set_cons_succ]
    refine wpAnyH_take (i := 2) (oi := _) (v := .pointer (some ⟨g, o, none⟩)) rfl (by kernel_rfl) (by kernel_rfl) (by kernel_rfl) (fun _ _ _ h => h) (Or.inl ⟨by rfl, ?_⟩) (by assumption) ?_
    · intro w hSw
      go_simp
      try (intro hq; exfalso; omega)
    try simp only [Act.put, List.setIfInBounds_toArray, List.set_cons_zero, List.set_cons_succ]
    refine wpAnyH_take (i := 3) (oi := _) (v := .pointer (some ⟨g, o, none⟩)) rfl (by kernel_rfl) (by kernel_rfl) (by kernel_rfl) (fun _ _ _ h => h) (Or.inl ⟨by rfl, ?_⟩) (by assumption) ?_
    · intro w hSw
      go_simp
      try (intro hq; exfalso; omega)
    try simp only [Act.put, List.setIfInBounds_toArray, List.set_cons_zero, List.set_cons_succ]
    refine wpAnyH_take (i := 4) (oi := _) (v := .pointer (some ⟨g, o + 9, none⟩)) rfl (by kernel_rfl) (by kernel_rfl) (by kernel_rfl) (fun _ _ _ h => h) (Or.inl ⟨by rfl, ?_⟩) (by assumption) ?_
    · intro w hSw
      go_simp
      try (intro hq; exfalso; omega)
    try simp only [Act.put, List.setIfInBounds_toArray, List.set_cons_zero, List.set_cons_succ]
    refine wpAnyH_take (i := 5) (oi := _) (v := .slice (some ⟨b, off, none⟩) N kc) rfl (by kernel_rfl) (by kernel_rfl) (by kernel_rfl) (fun _ _ _ h => h) (Or.inl ⟨by rfl, ?_⟩) (by assumption) ?_
    · intro w hSw
      go_simp
      try (intro hq; exfalso; omega)
    try simp only [Act.put, List.setIfInBounds_toArray, List.set_cons_zero, List.set_cons_succ]
    refine wpAnyH_take (i := 6) (oi := _) (v := .pointer (some ⟨b, off + 0 * 10, none⟩)) rfl (by kernel_rfl) (by kernel_rfl) (by kernel_rfl) (fun _ _ _ h => h) (Or.inl ⟨by rfl, ?_⟩) (by assumption) ?_
    · intro w hSw
      go_simp
      try (intro hq; exfalso; omega)
    try simp only [Act.put, List.setIfInBounds_toArray, List.set_cons_zero, List.set_cons_succ]
    refine wpAnyH_ready (rs := [1]) (by kernel_rfl) (by simp) ?_
    refine AllReadyH.cons (o := _) rfl (fun K2 hK2 => ?_) AllReadyH.nil
    go_simp
    go_at_call 140
    refine (w_held S 9 _).mono ?_
    rintro e wh ⟨rfl, hwh⟩
    have HPh : Hid (PS w0 S wh (l ++ ([45]) ++ ([32])) ∧ Lib.OthersKept 5 (some S) w wh) := by rw [hwh]; exact ⟨(HP2.out.1.drew.alloc _).alloc _, (Lib.OthersKept.drew HP2.out.2).alloc _ |>.alloc _⟩
    have HBk : Hid (wh.heap[w2.drew.heap.size + 1]? = some (.cells #[.int .i64 (9)] 3 (0, 0)) ∧ wh.heap[w2.drew.heap.size]? = some (.cells #[.pointer (some ⟨S, 0, none⟩)] 74 (0, 0))) := by rw [hwh]; exact ⟨by have := heap_alloc_new (w2.drew.alloc (.cells #[.pointer (some ⟨S, 0, none⟩)] 74)) (.cells #[.int .i64 (9)] 3); simpa using this, (Below.heap_alloc _ _ _ (by simp)).trans (heap_alloc_new _ _)⟩
    clear hwh
    have c9h := (HPh.out.1.low.cell (p := ⟨g, o + 9, none⟩) (block_lt_of_cell HC9.out)).trans HC9.out
    have c0h := (HPh.out.1.low.cell (p := ⟨b, off, none⟩) (block_lt_of_cell HC0.out)).trans HC0.out
    go_wp2_with fail
    refine hK2.out _ _ (by exact c9h) (fun hHeld => ?_)
    clear hK2 K2
    try simp only [Act.put, List.setIfInBounds_toArray, List.set_cons_zero, List.set_cons_succ]
    refine wpAnyH_ready (rs := [7]) (by kernel_rfl) (by simp) ?_
    refine AllReadyH.cons (o := _) rfl (fun K2 hK2 => ?_) AllReadyH.nil
    go_simp
    go_at_call 186
    refine (HH.out (0) (by omega) (9) _ _ _ _ HPh.out.1 HBk.out.1 HBk.out.2 (by have := HL.out; (try simp only [List.length_append, List.length_cons, List.length_nil] at this ⊢); omega)).mono ?_
    rintro e w3 ⟨rfl, hp, hk⟩
    have HP3 : Hid (PS w0 S w3 (l ++ ([45]) ++ ([32]) ++ pHd (t (0)) (K (0)) (9)) ∧ Lib.OthersKept 5 (some S) w w3) := ⟨hp, HPh.out.2.trans hk⟩
    clear hp hk
    have c9j := (HP3.out.1.low.cell (p := ⟨g, o + 9, none⟩) (block_lt_of_cell HC9.out)).trans HC9.out
    have c0j := (HP3.out.1.low.cell (p := ⟨b, off, none⟩) (block_lt_of_cell HC0.out)).trans HC0.out
    go_wp2_with fail
    refine hK2.out _ _ (by exact c9j) (fun hHeld => ?_)
    clear hK2 K2 hHeld
    try simp only [Act.put, List.setIfInBounds_toArray, List.set_cons_zero, List.set_cons_succ]
    refine wpAnyH_done (by kernel_rfl) ?_ _
    clear HPh HBk c92 c9h c9j c02 c0h c0j
    go_wp2_with fail
    go_end0
    refine ⟨rfl, ?_, HP3.out.2⟩
    have hz := HP3.out.1
    try simp only [List.append_assoc, List.cons_append, List.nil_append] at hz ⊢
    exact hz
  · rw [if_neg h1, List.nil_append]
    have b1 : (op == 11) = false := by rw [beq_eq_false_iff_ne]; exact h1
    intro w l hP hlen
    have HP0 := Hid.mk (And.intro hP (Lib.OthersKept.refl 5 (some S) w))
    have HL := Hid.mk hlen
    clear hP hlen
    go_enter Tryz.func86, Tryz.ntmps86
    have c90 := (HP0.out.1.low.cell (p := ⟨g, o + 9, none⟩) (block_lt_of_cell HC9.out)).trans HC9.out
    have c00 := (HP0.out.1.low.cell (p := ⟨b, off, none⟩) (block_lt_of_cell HC0.out)).trans HC0.out
    go_wp2_with fail
    refine (w_put1 HP0.out.1 _ ([45]) rfl (by have := HL.out; (try simp only [List.length_append, List.length_cons, List.length_nil] at this ⊢); omega)).mono ?_
    rintro e w1 ⟨rfl, hp, hk⟩
    have HP1 : Hid (PS w0 S w1 (l ++ ([45])) ∧ Lib.OthersKept 5 (some S) w w1) := ⟨hp, HP0.out.2.trans hk⟩
    clear hp hk
    clear c90 c00
    have c91 := (HP1.out.1.low.cell (p := ⟨g, o + 9, none⟩) (block_lt_of_cell HC9.out)).trans HC9.out
    have c01 := (HP1.out.1.low.cell (p := ⟨b, off, none⟩) (block_lt_of_cell HC0.out)).trans HC0.out
    go_wp2_with fail
    refine wp_region_held_drew (S := (fun u => u.cell? ⟨g, o + 9, none⟩ = some (.slice (some ⟨b, off, none⟩) N kc))) (by kernel_rfl) (by exact c91) (fun hHeld => ?_)
    refine wpAnyH_take (i := 0) (oi := _) (v := .pointer (some ⟨S, 0, none⟩)) rfl (by kernel_rfl) (by kernel_rfl) (by kernel_rfl) (fun _ _ _ h => h) (Or.inl ⟨by rfl, ?_⟩) (by assumption) ?_
    · intro w hSw
      go_simp
      try (intro hq; exfalso; omega)
    try simp only [Act.put, List.setIfInBounds_toArray, List.set_cons_zero, List.set_cons_succ]
    refine wpAnyH_take (i := 2) (oi := _) (v := .pointer (some ⟨g, o, none⟩)) rfl (by kernel_rfl) (by kernel_rfl) (by kernel_rfl) (fun _ _ _ h => h) (Or.inl ⟨by rfl, ?_⟩) (by assumption) ?_
    · intro w hSw
      go_simp
      try (intro hq; exfalso; omega)
    try simp only [Act.put, List.setIfInBounds_toArray, List.set_cons_zero, List.set_cons_succ]
    refine wpAnyH_take (i := 3) (oi := _) (v := .pointer (some ⟨g, o, none⟩)) rfl (by kernel_rfl) (by kernel_rfl) (by kernel_rfl) (fun _ _ _ h => h) (Or.inl ⟨by rfl, ?_⟩) (by assumption) ?_
    · intro w hSw
      go_simp
      try (intro hq; exfalso; omega)
    try simp only [Act.put, List.setIfInBounds_toArray, List.set_cons_zero, List.set_cons_succ]
    refine wpAnyH_take (i := 4) (oi := _) (v := .pointer (some ⟨g, o + 9, none⟩)) rfl (by kernel_rfl) (by kernel_rfl) (by kernel_rfl) (fun _ _ _ h => h) (Or.inl ⟨by rfl, ?_⟩) (by assumption) ?_
    · intro w hSw
      go_simp
      try (intro hq; exfalso; omega)
    try simp only [Act.put, List.setIfInBounds_toArray, List.set_cons_zero, List.set_cons_succ]
    refine wpAnyH_take (i := 5) (oi := _) (v := .slice (some ⟨b, off, none⟩) N kc) rfl (by kernel_rfl) (by kernel_rfl) (by kernel_rfl) (fun _ _ _ h => h) (Or.inl ⟨by rfl, ?_⟩) (by assumption) ?_
    · intro w hSw
      go_simp
      try (intro hq; exfalso; omega)
    try simp only [Act.put, List.setIfInBounds_toArray, List.set_cons_zero, List.set_cons_succ]
    refine wpAnyH_take (i := 6) (oi := _) (v := .pointer (some ⟨b, off + 0 * 10, none⟩)) rfl (by kernel_rfl) (by kernel_rfl) (by kernel_rfl) (fun _ _ _ h => h) (Or.inl ⟨by rfl, ?_⟩) (by assumption) ?_
    · intro w hSw
      go_simp
      try (intro hq; exfalso; omega)
    try simp only [Act.put, List.setIfInBounds_toArray, List.set_cons_zero, List.set_cons_succ]
    refine wpAnyH_ready (rs := [1]) (by kernel_rfl) (by simp) ?_
    refine AllReadyH.cons (o := _) rfl (fun K2 hK2 => ?_) AllReadyH.nil
    go_simp
    go_at_call 140
    refine (w_held S 9 _).mono ?_
    rintro e wh ⟨rfl, hwh⟩
    have HPh : Hid (PS w0 S wh (l ++ ([45])) ∧ Lib.OthersKept 5 (some S) w wh) := by rw [hwh]; exact ⟨(HP1.out.1.drew.alloc _).alloc _, (Lib.OthersKept.drew HP1.out.2).alloc _ |>.alloc _⟩
    have HBk : Hid (wh.heap[w1.drew.heap.size + 1]? = some (.cells #[.int .i64 (9)] 3 (0, 0)) ∧ wh.heap[w1.drew.heap.size]? = some (.cells #[.pointer (some ⟨S, 0, none⟩)] 74 (0, 0))) := by rw [hwh]; exact ⟨by have := heap_alloc_new (w1.drew.alloc (.cells #[.pointer (some ⟨S, 0, none⟩)] 74)) (.cells #[.int .i64 (9)] 3); simpa using this, (Below.heap_alloc _ _ _ (by simp)).trans (heap_alloc_new _ _)⟩
    clear hwh
    have c9h := (HPh.out.1.low.cell (p := ⟨g, o + 9, none⟩) (block_lt_of_cell HC9.out)).trans HC9.out
    have c0h := (HPh.out.1.low.cell (p := ⟨b, off, none⟩) (block_lt_of_cell HC0.out)).trans HC0.out
    go_wp2_with fail
    refine hK2.out _ _ (by exact c9h) (fun hHeld => ?_)
    clear hK2 K2
    try simp only [Act.put, List.setIfInBounds_toArray, List.set_cons_zero, List.set_cons_succ]
    refine wpAnyH_ready (rs := [7]) (by kernel_rfl) (by simp) ?_
    refine AllReadyH.cons (o := _) rfl (fun K2 hK2 => ?_) AllReadyH.nil
    go_simp
    go_at_call 186
    refine (HH.out (0) (by omega) (9) _ _ _ _ HPh.out.1 HBk.out.1 HBk.out.2 (by have := HL.out; (try simp only [List.length_append, List.length_cons, List.length_nil] at this ⊢); omega)).mono ?_
    rintro e w2 ⟨rfl, hp, hk⟩
    have HP2 : Hid (PS w0 S w2 (l ++ ([45]) ++ pHd (t (0)) (K (0)) (9)) ∧ Lib.OthersKept 5 (some S) w w2) := ⟨hp, HPh.out.2.trans hk⟩
    clear hp hk
    have c9j := (HP2.out.1.low.cell (p := ⟨g, o + 9, none⟩) (block_lt_of_cell HC9.out)).trans HC9.out
    have c0j := (HP2.out.1.low.cell (p := ⟨b, off, none⟩) (block_lt_of_cell HC0.out)).trans HC0.out
    go_wp2_with fail
    refine hK2.out _ _ (by exact c9j) (fun hHeld => ?_)
    clear hK2 K2 hHeld
    try simp only [Act.put, List.setIfInBounds_toArray, List.set_cons_zero, List.set_cons_succ]
    refine wpAnyH_done (by kernel_rfl) ?_ _
    clear HPh HBk c91 c9h c9j c01 c0h c0j
    go_wp2_with fail
    go_end0
    refine ⟨rfl, ?_, HP2.out.2⟩
    have hz := HP2.out.1
    try simp only [List.append_assoc, List.cons_append, List.nil_append] at hz ⊢
    exact hz
end Go.Proofs.YtdjleoglphgdgaaGreatDoor
namespace Go.Proofs.YtdjleoglphgdgaaGreatDoor
open Go.RowKit Go.Shelf Go.Sort
set_option linter.unusedVariables false
set_option linter.unusedSimpArgs false
attribute [local go_sem] Oper.semAt_some

set_option maxRecDepth 100000 in
set_option maxHeartbeats 3200000 in
theorem w_choice (w0 : World) (S h g o b off N kc : Nat) (K : Nat → NT) (t : Nat → List UInt8) (c9 : w0.cell? ⟨g, o + 9, none⟩ = some (.slice (some ⟨b, off, none⟩) N kc)) (hcap : N ≤ kc) (hbig : N ≤ 140737488355328) (hN : 3 ≤ N) (hT : ∀ i, i < N → Say w0 S 26 #[.pointer (some ⟨S, 0, none⟩), .pointer (some ⟨b, off + i * 10, none⟩)] (t i)) : Say w0 S 87 #[.pointer (some ⟨S, 0, none⟩), .pointer (some ⟨g, o, none⟩)] (sIf t) := by
  have q0 : ((0 : Int) < (N : Int)) := by omega
  have q1 : ((1 : Int) < (N : Int)) := by omega
  have q2 : ((2 : Int) < (N : Int)) := by omega
  have HT : Hid (∀ i, i < N → Say w0 S 26 #[.pointer (some ⟨S, 0, none⟩), .pointer (some ⟨b, off + i * 10, none⟩)] (t i)) := hT
  have HT0 := Hid.mk (HT.out 0 (by omega))
  have HT1 := Hid.mk (HT.out 1 (by omega))
  have HT2 := Hid.mk (HT.out 2 (by omega))
  have HC9 := Hid.mk c9
  clear hT c9 HT
  unfold sIf
  intro w l hP hlen
  have HP0 := Hid.mk (And.intro hP (Lib.OthersKept.refl 5 (some S) w))
  have HL := Hid.mk hlen
  clear hP hlen
  go_enter Tryz.func87, Tryz.ntmps87
  have c90 := (HP0.out.1.low.cell (p := ⟨g, o + 9, none⟩) (block_lt_of_cell HC9.out)).trans HC9.out
  go_wp2_with fail
  refine (w_put1 HP0.out.1 _ ([105, 102, 32]) rfl (by have := HL.out; (try simp only [List.length_append, List.length_cons, List.length_nil] at this ⊢); omega)).mono ?_
  rintro e w1 ⟨rfl, hp, hk⟩
  have HP1 : Hid (PS w0 S w1 (l ++ ([105, 102, 32])) ∧ Lib.OthersKept 5 (some S) w w1) := ⟨hp, HP0.out.2.trans hk⟩
  clear hp hk
  clear c90
  have c91 := (HP1.out.1.low.cell (p := ⟨g, o + 9, none⟩) (block_lt_of_cell HC9.out)).trans HC9.out
  go_wp2_with fail
  refine (HT0.out _ _ HP1.out.1 (by have := HL.out; (try simp only [List.length_append, List.length_cons, List.length_nil] at this ⊢); omega)).mono ?_
  rintro e w2 ⟨rfl, hp, hk⟩
  have HP2 : Hid (PS w0 S w2 (l ++ ([105, 102, 32]) ++ (t 0)) ∧ Lib.OthersKept 5 (some S) w w2) := ⟨hp, HP1.out.2.trans hk⟩
  clear hp hk
  clear c91
  have c92 := (HP2.out.1.low.cell (p := ⟨g, o + 9, none⟩) (block_lt_of_cell HC9.out)).trans HC9.out
  go_wp2_with fail
  refine (w_put1 HP2.out.1 _ ([32, 116, 104, 101, 110, 32]) rfl (by have := HL.out; (try simp only [List.length_append, List.length_cons, List.length_nil] at this ⊢); omega)).mono ?_
  rintro e w3 ⟨rfl, hp, hk⟩
  have HP3 : Hid (PS w0 S w3 (l ++ ([105, 102, 32]) ++ (t 0) ++ ([32, 116, 104, 101, 110, 32])) ∧ Lib.OthersKept 5 (some S) w w3) := ⟨hp, HP2.out.2.trans hk⟩
  clear hp hk
  clear c92
  have c93 := (HP3.out.1.low.cell (p := ⟨g, o + 9, none⟩) (block_lt_of_cell HC9.out)).trans HC9.out
  go_wp2_with fail
  refine (HT1.out _ _ HP3.out.1 (by have := HL.out; (try simp only [List.length_append, List.length_cons, List.length_nil] at this ⊢); omega)).mono ?_
  rintro e w4 ⟨rfl, hp, hk⟩
  have HP4 : Hid (PS w0 S w4 (l ++ ([105, 102, 32]) ++ (t 0) ++ ([32, 116, 104, 101, 110, 32]) ++ (t 1)) ∧ Lib.OthersKept 5 (some S) w w4) := ⟨hp, HP3.out.2.trans hk⟩
  clear hp hk
  clear c93
  have c94 := (HP4.out.1.low.cell (p := ⟨g, o + 9, none⟩) (block_lt_of_cell HC9.out)).trans HC9.out
  go_wp2_with fail
  refine (w_put1 HP4.out.1 _ ([32, 101, 108, 115, 101, 32]) rfl (by have := HL.out; (try simp only [List.length_append, List.length_cons, List.length_nil] at this ⊢); omega)).mono ?_
  rintro e w5 ⟨rfl, hp, hk⟩
  have HP5 : Hid (PS w0 S w5 (l ++ ([105, 102, 32]) ++ (t 0) ++ ([32, 116, 104, 101, 110, 32]) ++ (t 1) ++ ([32, 101, 108, 115, 101, 32])) ∧ Lib.OthersKept 5 (some S) w w5) := ⟨hp, HP4.out.2.trans hk⟩
  clear hp hk
  clear c94
  have c95 := (HP5.out.1.low.cell (p := ⟨g, o + 9, none⟩) (block_lt_of_cell HC9.out)).trans HC9.out
  go_wp2_with fail
  refine (HT2.out _ _ HP5.out.1 (by have := HL.out; (try simp only [List.length_append, List.length_cons, List.length_nil] at this ⊢); omega)).mono ?_
  rintro e w6 ⟨rfl, hp, hk⟩
  have HP6 : Hid (PS w0 S w6 (l ++ ([105, 102, 32]) ++ (t 0) ++ ([32, 116, 104, 101, 110, 32]) ++ (t 1) ++ ([32, 101, 108, 115, 101, 32]) ++ (t 2)) ∧ Lib.OthersKept 5 (some S) w w6) := ⟨hp, HP5.out.2.trans hk⟩
  clear hp hk
  clear c95
  have c96 := (HP6.out.1.low.cell (p := ⟨g, o + 9, none⟩) (block_lt_of_cell HC9.out)).trans HC9.out
  go_wp2_with fail
  refine (w_put1 HP6.out.1 _ ([32, 101, 110, 100]) rfl (by have := HL.out; (try simp only [List.length_append, List.length_cons, List.length_nil] at this ⊢); omega)).mono ?_
  rintro e w7 ⟨rfl, hp, hk⟩
  have HP7 : Hid (PS w0 S w7 (l ++ ([105, 102, 32]) ++ (t 0) ++ ([32, 116, 104, 101, 110, 32]) ++ (t 1) ++ ([32, 101, 108, 115, 101, 32]) ++ (t 2) ++ ([32, 101, 110, 100])) ∧ Lib.OthersKept 5 (some S) w w7) := ⟨hp, HP6.out.2.trans hk⟩
  clear hp hk
  clear c96
  go_wp2_with fail
  go_end0
  refine ⟨rfl, ?_, HP7.out.2⟩
  have hz := HP7.out.1
  try simp only [List.append_assoc, List.cons_append, List.nil_append] at hz ⊢
  exact hz

set_option maxRecDepth 100000 in
set_option maxHeartbeats 3200000 in
theorem w_bind (w0 : World) (S h g o b off N kc : Nat) (K : Nat → NT) (t : Nat → List UInt8) (c9 : w0.cell? ⟨g, o + 9, none⟩ = some (.slice (some ⟨b, off, none⟩) N kc)) (hcap : N ≤ kc) (hbig : N ≤ 140737488355328) (hN : 2 ≤ N) (tx : ByteArray) (c2 : w0.cell? ⟨g, o + 2, none⟩ = some (.string tx)) (hT : ∀ i, i < N → Say w0 S 26 #[.pointer (some ⟨S, 0, none⟩), .pointer (some ⟨b, off + i * 10, none⟩)] (t i)) (hA : ∀ i, i < N → NAt w0 (h + 1) (K i) b (off + i * 10) ∧ 0 ≤ (K i).op ∧ (K i).op < 44) : Say w0 S 88 #[.pointer (some ⟨S, 0, none⟩), .pointer (some ⟨g, o, none⟩)] (sBind K t tx) := by
  have q0 : ((0 : Int) < (N : Int)) := by omega
  have q1 : ((1 : Int) < (N : Int)) := by omega
  have HSr := Hid.mk (w_source w0 S h g o b off N kc K t c9 hcap hbig (by omega) tx c2 hT hA)
  have HT : Hid (∀ i, i < N → Say w0 S 26 #[.pointer (some ⟨S, 0, none⟩), .pointer (some ⟨b, off + i * 10, none⟩)] (t i)) := hT
  have HT1 := Hid.mk (HT.out 1 (by omega))
  have HC9 := Hid.mk c9
  clear hT hA c9 c2 HT
  unfold sBind
  intro w l hP hlen
  have HP0 := Hid.mk (And.intro hP (Lib.OthersKept.refl 5 (some S) w))
  have HL := Hid.mk hlen
  clear hP hlen
  go_enter Tryz.func88, Tryz.ntmps88
  have c90 := (HP0.out.1.low.cell (p := ⟨g, o + 9, none⟩) (block_lt_of_cell HC9.out)).trans HC9.out
  go_wp2_with fail
  refine (HSr.out _ _ HP0.out.1 (by have := HL.out; (try simp only [List.length_append, List.length_cons, List.length_nil] at this ⊢); omega)).mono ?_
  rintro e w1 ⟨rfl, hp, hk⟩
  have HP1 : Hid (PS w0 S w1 (l ++ (sSrc K t tx)) ∧ Lib.OthersKept 5 (some S) w w1) := ⟨hp, HP0.out.2.trans hk⟩
  clear hp hk
  clear c90
  have c91 := (HP1.out.1.low.cell (p := ⟨g, o + 9, none⟩) (block_lt_of_cell HC9.out)).trans HC9.out
  go_wp2_with fail
  refine (w_put1 HP1.out.1 _ ([124, 32]) rfl (by have := HL.out; (try simp only [List.length_append, List.length_cons, List.length_nil] at this ⊢); omega)).mono ?_
  rintro e w2 ⟨rfl, hp, hk⟩
  have HP2 : Hid (PS w0 S w2 (l ++ (sSrc K t tx) ++ ([124, 32])) ∧ Lib.OthersKept 5 (some S) w w2) := ⟨hp, HP1.out.2.trans hk⟩
  clear hp hk
  clear c91
  have c92 := (HP2.out.1.low.cell (p := ⟨g, o + 9, none⟩) (block_lt_of_cell HC9.out)).trans HC9.out
  go_wp2_with fail
  refine (HT1.out _ _ HP2.out.1 (by have := HL.out; (try simp only [List.length_append, List.length_cons, List.length_nil] at this ⊢); omega)).mono ?_
  rintro e w3 ⟨rfl, hp, hk⟩
  have HP3 : Hid (PS w0 S w3 (l ++ (sSrc K t tx) ++ ([124, 32]) ++ (t 1)) ∧ Lib.OthersKept 5 (some S) w w3) := ⟨hp, HP2.out.2.trans hk⟩
  clear hp hk
  clear c92
  go_wp2_with fail
  go_end0
  refine ⟨rfl, ?_, HP3.out.2⟩
  have hz := HP3.out.1
  try simp only [List.append_assoc, List.cons_append, List.nil_append] at hz ⊢
  exact hz

set_option maxRecDepth 100000 in
set_option maxHeartbeats 3200000 in
theorem w_loop (w0 : World) (S h g o b off N kc : Nat) (K : Nat → NT) (t : Nat → List UInt8) (c9 : w0.cell? ⟨g, o + 9, none⟩ = some (.slice (some ⟨b, off, none⟩) N kc)) (hcap : N ≤ kc) (hbig : N ≤ 140737488355328) (hN : 2 ≤ N) (tx : ByteArray) (c2 : w0.cell? ⟨g, o + 2, none⟩ = some (.string tx)) (op : Int) (c0 : w0.cell? ⟨g, o, none⟩ = some (.int .i64 op)) (hT : ∀ i, i < N → Say w0 S 26 #[.pointer (some ⟨S, 0, none⟩), .pointer (some ⟨b, off + i * 10, none⟩)] (t i)) (hA : ∀ i, i < N → NAt w0 (h + 1) (K i) b (off + i * 10) ∧ 0 ≤ (K i).op ∧ (K i).op < 44) : Say w0 S 89 #[.pointer (some ⟨S, 0, none⟩), .pointer (some ⟨g, o, none⟩)] (sLoop op K t tx N) := by
  have HSr := Hid.mk (w_source w0 S h g o b off N kc K t c9 hcap hbig (by omega) tx c2 hT hA)
  have HR : Hid (Say w0 S 138 #[.pointer (some ⟨S, 0, none⟩), .slice (some ⟨b, off + 10, none⟩) (N - 1) (kc - 1)] (pRw (fun i => t (i + 1)) (N - 1))) := w_row w0 S b (off + 10) (N - 1) (kc - 1) _ _ (fun _ => rfl) (by omega) (by omega) (fun i hi => by
    have := hT (i + 1) (by omega)
    rw [show off + 10 + i * 10 = off + (i + 1) * 10 by omega]
    exact this)
  have hN1 : (1 : Int) ≤ (N : Int) := by omega
  have e1 : ((N : Int) - 1).toNat = N - 1 := by omega
  have e2 : ((kc : Int) - 1).toNat = kc - 1 := by omega
  have HC9 := Hid.mk c9
  have HC0 := Hid.mk c0
  clear hT hA c9 c2 c0
  unfold sLoop
  by_cases h31 : op = 31
  · rw [if_pos h31]
    subst h31
    intro w l hP hlen
    have HP0 := Hid.mk (And.intro hP (Lib.OthersKept.refl 5 (some S) w))
    have HL := Hid.mk hlen
    clear hP hlen
    go_enter Tryz.func89, Tryz.ntmps89
    have c90 := (HP0.out.1.low.cell (p := ⟨g, o + 9, none⟩) (block_lt_of_cell HC9.out)).trans HC9.out
    have c00 := (HP0.out.1.low.cell (p := ⟨g, o, none⟩) (block_lt_of_cell HC0.out)).trans HC0.out
    go_wp2_with fail
    refine (w_put1 HP0.out.1 _ ([102, 111, 114, 101, 97, 99, 104, 32]) rfl (by have := HL.out; (try simp only [List.length_append, List.length_cons, List.length_nil] at this ⊢); omega)).mono ?_
    rintro e w1 ⟨rfl, hp, hk⟩
    have HP1 : Hid (PS w0 S w1 (l ++ ([102, 111, 114, 101, 97, 99, 104, 32])) ∧ Lib.OthersKept 5 (some S) w w1) := ⟨hp, HP0.out.2.trans hk⟩
    clear hp hk
    clear c90 c00
    have c91 := (HP1.out.1.low.cell (p := ⟨g, o + 9, none⟩) (block_lt_of_cell HC9.out)).trans HC9.out
    have c01 := (HP1.out.1.low.cell (p := ⟨g, o, none⟩) (block_lt_of_cell HC0.out)).trans HC0.out
    go_wp2_with fail
    refine (HSr.out _ _ HP1.out.1 (by have := HL.out; (try simp only [List.length_append, List.length_cons, List.length_nil] at this ⊢); omega)).mono ?_
    rintro e w2 ⟨rfl, hp, hk⟩
    have HP2 : Hid (PS w0 S w2 (l ++ ([102, 111, 114, 101, 97, 99, 104, 32]) ++ (sSrc K t tx)) ∧ Lib.OthersKept 5 (some S) w w2) := ⟨hp, HP1.out.2.trans hk⟩
    clear hp hk
    clear c91 c01
    have c92 := (HP2.out.1.low.cell (p := ⟨g, o + 9, none⟩) (block_lt_of_cell HC9.out)).trans HC9.out
    have c02 := (HP2.out.1.low.cell (p := ⟨g, o, none⟩) (block_lt_of_cell HC0.out)).trans HC0.out
    go_wp2_with fail
    refine (w_put1 HP2.out.1 _ ([40]) rfl (by have := HL.out; (try simp only [List.length_append, List.length_cons, List.length_nil] at this ⊢); omega)).mono ?_
    rintro e w3 ⟨rfl, hp, hk⟩
    have HP3 : Hid (PS w0 S w3 (l ++ ([102, 111, 114, 101, 97, 99, 104, 32]) ++ (sSrc K t tx) ++ ([40])) ∧ Lib.OthersKept 5 (some S) w w3) := ⟨hp, HP2.out.2.trans hk⟩
    clear hp hk
    clear c92 c02
    have c93 := (HP3.out.1.low.cell (p := ⟨g, o + 9, none⟩) (block_lt_of_cell HC9.out)).trans HC9.out
    have c03 := (HP3.out.1.low.cell (p := ⟨g, o, none⟩) (block_lt_of_cell HC0.out)).trans HC0.out
    go_wp2_with fail
    refine (HR.out _ _ HP3.out.1 (by have := HL.out; (try simp only [List.length_append, List.length_cons, List.length_nil] at this ⊢); omega)).mono ?_
    rintro e w4 ⟨rfl, hp, hk⟩
    have HP4 : Hid (PS w0 S w4 (l ++ ([102, 111, 114, 101, 97, 99, 104, 32]) ++ (sSrc K t tx) ++ ([40]) ++ (pRw (fun i => t (i + 1)) (N - 1))) ∧ Lib.OthersKept 5 (some S) w w4) := ⟨hp, HP3.out.2.trans hk⟩
    clear hp hk
    clear c93 c03
    have c94 := (HP4.out.1.low.cell (p := ⟨g, o + 9, none⟩) (block_lt_of_cell HC9.out)).trans HC9.out
    have c04 := (HP4.out.1.low.cell (p := ⟨g, o, none⟩) (block_lt_of_cell HC0.out)).trans HC0.out
    go_wp2_with fail
    refine (w_put1 HP4.out.1 _ ([41]) rfl (by have := HL.out; (try simp only [List.length_append, List.length_cons, List.length_nil] at this ⊢); omega)).mono ?_
    rintro e w5 ⟨rfl, hp, hk⟩
    have HP5 : Hid (PS w0 S w5 (l ++ ([102, 111, 114, 101, 97, 99, 104, 32]) ++ (sSrc K t tx) ++ ([40]) ++ (pRw (fun i => t (i + 1)) (N - 1)) ++ ([41])) ∧ Lib.OthersKept 5 (some S) w w5) := ⟨hp, HP4.out.2.trans hk⟩
    clear hp hk
    clear c94 c04
    go_wp2_with fail
    go_end0
    refine ⟨rfl, ?_, HP5.out.2⟩
    have hz := HP5.out.1
    try simp only [List.append_assoc, List.cons_append, List.nil_append] at hz ⊢
    exact hz
  · rw [if_neg h31]
    have b31 : (op == 31) = false := by rw [beq_eq_false_iff_ne]; exact h31
    intro w l hP hlen
    have HP0 := Hid.mk (And.intro hP (Lib.OthersKept.refl 5 (some S) w))
    have HL := Hid.mk hlen
    clear hP hlen
    go_enter Tryz.func89, Tryz.ntmps89
    have c90 := (HP0.out.1.low.cell (p := ⟨g, o + 9, none⟩) (block_lt_of_cell HC9.out)).trans HC9.out
    have c00 := (HP0.out.1.low.cell (p := ⟨g, o, none⟩) (block_lt_of_cell HC0.out)).trans HC0.out
    go_wp2_with fail
    refine (w_put1 HP0.out.1 _ ([114, 101, 100, 117, 99, 101, 32]) rfl (by have := HL.out; (try simp only [List.length_append, List.length_cons, List.length_nil] at this ⊢); omega)).mono ?_
    rintro e w1 ⟨rfl, hp, hk⟩
    have HP1 : Hid (PS w0 S w1 (l ++ ([114, 101, 100, 117, 99, 101, 32])) ∧ Lib.OthersKept 5 (some S) w w1) := ⟨hp, HP0.out.2.trans hk⟩
    clear hp hk
    clear c90 c00
    have c91 := (HP1.out.1.low.cell (p := ⟨g, o + 9, none⟩) (block_lt_of_cell HC9.out)).trans HC9.out
    have c01 := (HP1.out.1.low.cell (p := ⟨g, o, none⟩) (block_lt_of_cell HC0.out)).trans HC0.out
    go_wp2_with fail
    refine (HSr.out _ _ HP1.out.1 (by have := HL.out; (try simp only [List.length_append, List.length_cons, List.length_nil] at this ⊢); omega)).mono ?_
    rintro e w2 ⟨rfl, hp, hk⟩
    have HP2 : Hid (PS w0 S w2 (l ++ ([114, 101, 100, 117, 99, 101, 32]) ++ (sSrc K t tx)) ∧ Lib.OthersKept 5 (some S) w w2) := ⟨hp, HP1.out.2.trans hk⟩
    clear hp hk
    clear c91 c01
    have c92 := (HP2.out.1.low.cell (p := ⟨g, o + 9, none⟩) (block_lt_of_cell HC9.out)).trans HC9.out
    have c02 := (HP2.out.1.low.cell (p := ⟨g, o, none⟩) (block_lt_of_cell HC0.out)).trans HC0.out
    go_wp2_with fail
    refine (w_put1 HP2.out.1 _ ([40]) rfl (by have := HL.out; (try simp only [List.length_append, List.length_cons, List.length_nil] at this ⊢); omega)).mono ?_
    rintro e w3 ⟨rfl, hp, hk⟩
    have HP3 : Hid (PS w0 S w3 (l ++ ([114, 101, 100, 117, 99, 101, 32]) ++ (sSrc K t tx) ++ ([40])) ∧ Lib.OthersKept 5 (some S) w w3) := ⟨hp, HP2.out.2.trans hk⟩
    clear hp hk
    clear c92 c02
    have c93 := (HP3.out.1.low.cell (p := ⟨g, o + 9, none⟩) (block_lt_of_cell HC9.out)).trans HC9.out
    have c03 := (HP3.out.1.low.cell (p := ⟨g, o, none⟩) (block_lt_of_cell HC0.out)).trans HC0.out
    go_wp2_with fail
    refine (HR.out _ _ HP3.out.1 (by have := HL.out; (try simp only [List.length_append, List.length_cons, List.length_nil] at this ⊢); omega)).mono ?_
    rintro e w4 ⟨rfl, hp, hk⟩
    have HP4 : Hid (PS w0 S w4 (l ++ ([114, 101, 100, 117, 99, 101, 32]) ++ (sSrc K t tx) ++ ([40]) ++ (pRw (fun i => t (i + 1)) (N - 1))) ∧ Lib.OthersKept 5 (some S) w w4) := ⟨hp, HP3.out.2.trans hk⟩
    clear hp hk
    clear c93 c03
    have c94 := (HP4.out.1.low.cell (p := ⟨g, o + 9, none⟩) (block_lt_of_cell HC9.out)).trans HC9.out
    have c04 := (HP4.out.1.low.cell (p := ⟨g, o, none⟩) (block_lt_of_cell HC0.out)).trans HC0.out
    go_wp2_with fail
    refine (w_put1 HP4.out.1 _ ([41]) rfl (by have := HL.out; (try simp only [List.length_append, List.length_cons, List.length_nil] at this ⊢); omega)).mono ?_
    rintro e w5 ⟨rfl, hp, hk⟩
    have HP5 : Hid (PS w0 S w5 (l ++ ([114, 101, 100, 117, 99, 101, 32]) ++ (sSrc K t tx) ++ ([40]) ++ (pRw (fun i => t (i + 1)) (N - 1)) ++ ([41])) ∧ Lib.OthersKept 5 (some S) w w5) := ⟨hp, HP4.out.2.trans hk⟩
    clear hp hk
    clear c94 c04
    go_wp2_with fail
    go_end0
    refine ⟨rfl, ?_, HP5.out.2⟩
    have hz := HP5.out.1
    try simp only [List.append_assoc, List.cons_append, List.nil_append] at hz ⊢
    exact hz

set_option maxRecDepth 100000 in
set_option maxHeartbeats 3200000 in
theorem w_definition (w0 : World) (S g o b off kc : Nat) (t : Nat → List UInt8) (c9 : w0.cell? ⟨g, o + 9, none⟩ = some (.slice (some ⟨b, off, none⟩) 2 kc)) (hcap : 2 ≤ kc) (tx : ByteArray) (c2 : w0.cell? ⟨g, o + 2, none⟩ = some (.string tx)) (no : Option Addr) (nc : Nat) (ns : List ByteArray) (c8 : w0.cell? ⟨g, o + 8, none⟩ = some (.slice no ns.length nc)) (hns : KIn w0 no ns) (hnc : ns.length ≤ nc) (hnb : ns.length ≤ 140737488355328) (hT : ∀ i, i < 2 → Say w0 S 26 #[.pointer (some ⟨S, 0, none⟩), .pointer (some ⟨b, off + i * 10, none⟩)] (t i)) : Say w0 S 90 #[.pointer (some ⟨S, 0, none⟩), .pointer (some ⟨g, o, none⟩)] (sDef t tx ns) := by
  have HR := Hid.mk (w_row w0 S b off 2 kc (some ⟨b, off, none⟩) t (fun _ => rfl) hcap (by omega) hT)
  have HC9 := Hid.mk c9
  have HC2 := Hid.mk c2
  have HC8 := Hid.mk c8
  have HNs := Hid.mk hns
  clear hT c9 c2 c8 hns
  unfold sDef
  by_cases hz : ns.length = 0
  · rw [if_pos hz, List.nil_append]
    rw [hz] at HC8
    clear HNs
    intro w l hP hlen
    have HP0 := Hid.mk (And.intro hP (Lib.OthersKept.refl 5 (some S) w))
    have HL := Hid.mk hlen
    clear hP hlen
    go_enter Tryz.func90, Tryz.ntmps90
    have c90 := (HP0.out.1.low.cell (p := ⟨g, o + 9, none⟩) (block_lt_of_cell HC9.out)).trans HC9.out
    have c20 := (HP0.out.1.low.cell (p := ⟨g, o + 2, none⟩) (block_lt_of_cell HC2.out)).trans HC2.out
    have c80 := (HP0.out.1.low.cell (p := ⟨g, o + 8, none⟩) (block_lt_of_cell HC8.out)).trans HC8.out
    go_wp2_with fail
    refine (w_put2 HP0.out.1 _ _ ([100, 101, 102, 32] ++ tx.data.toList) rfl (by have := HL.out; (try simp only [List.length_append, List.length_cons, List.length_nil] at this ⊢); omega)).mono ?_
    rintro e w1 ⟨rfl, hp, hk⟩
    have HP1 : Hid (PS w0 S w1 (l ++ ([100, 101, 102, 32] ++ tx.data.toList)) ∧ Lib.OthersKept 5 (some S) w w1) := ⟨hp, HP0.out.2.trans hk⟩
    clear hp hk
    clear c90 c20 c80
    have c91 := (HP1.out.1.low.cell (p := ⟨g, o + 9, none⟩) (block_lt_of_cell HC9.out)).trans HC9.out
    have c21 := (HP1.out.1.low.cell (p := ⟨g, o + 2, none⟩) (block_lt_of_cell HC2.out)).trans HC2.out
    have c81 := (HP1.out.1.low.cell (p := ⟨g, o + 8, none⟩) (block_lt_of_cell HC8.out)).trans HC8.out
    go_wp2_with fail
    refine (w_put1 HP1.out.1 _ ([58, 32]) rfl (by have := HL.out; (try simp only [List.length_append, List.length_cons, List.length_nil] at this ⊢); omega)).mono ?_
    rintro e w2 ⟨rfl, hp, hk⟩
    have HP2 : Hid (PS w0 S w2 (l ++ ([100, 101, 102, 32] ++ tx.data.toList) ++ ([58, 32])) ∧ Lib.OthersKept 5 (some S) w w2) := ⟨hp, HP1.out.2.trans hk⟩
    clear hp hk
    clear c91 c21 c81
    have c92 := (HP2.out.1.low.cell (p := ⟨g, o + 9, none⟩) (block_lt_of_cell HC9.out)).trans HC9.out
    have c22 := (HP2.out.1.low.cell (p := ⟨g, o + 2, none⟩) (block_lt_of_cell HC2.out)).trans HC2.out
    have c82 := (HP2.out.1.low.cell (p := ⟨g, o + 8, none⟩) (block_lt_of_cell HC8.out)).trans HC8.out
    go_wp2_with fail
    refine (HR.out _ _ HP2.out.1 (by have := HL.out; (try simp only [List.length_append, List.length_cons, List.length_nil] at this ⊢); omega)).mono ?_
    rintro e w3 ⟨rfl, hp, hk⟩
    have HP3 : Hid (PS w0 S w3 (l ++ ([100, 101, 102, 32] ++ tx.data.toList) ++ ([58, 32]) ++ (pRw t 2)) ∧ Lib.OthersKept 5 (some S) w w3) := ⟨hp, HP2.out.2.trans hk⟩
    clear hp hk
    clear c92 c22 c82
    go_wp2_with fail
    go_end0
    refine ⟨rfl, ?_, HP3.out.2⟩
    have hz := HP3.out.1
    try simp only [List.append_assoc, List.cons_append, List.nil_append] at hz ⊢
    exact hz
  · rw [if_neg hz]
    have hz1 : (0 : Int) < (ns.length : Int) := by omega
    obtain ⟨nb, nof, rfl, hnl, hnr⟩ := HNs.out.row (by omega)
    have HJ : Hid (∀ u, Below w0.heap.size w0 u → (pNm ns).length ≤ 140737488355328 → Calls Tryz.prog 145 #[.slice (some ⟨nb, nof, none⟩) ns.length nc, .string ⟨#[59, 32]⟩] u fun e w' => e = .returned (.string ⟨(pNm ns).toArray⟩) ∧ Below u.heap.size u w') := fun u hu hl => Tryz.strings_Join nb nof nc ns ⟨#[59, 32]⟩ u (fun j x hj => by
      have hjl : j < ns.length := (List.getElem?_eq_some_iff.1 hj).1
      have hc := hnr j hjl
      rw [List.getD_eq_getElem?_getD, hj] at hc
      exact (hu.cell (p := ⟨nb, nof + j, none⟩) hnl).trans hc) (Nat.lt_of_lt_of_le hnl hu.size) hnb hnc hl
    clear hnr HNs
    generalize pNm ns = nm at *
    generalize ns.length = Nn at *
    intro w l hP hlen
    have HP0 := Hid.mk (And.intro hP (Lib.OthersKept.refl 5 (some S) w))
    have HL := Hid.mk hlen
    clear hP hlen
    go_enter Tryz.func90, Tryz.ntmps90
    have c90 := (HP0.out.1.low.cell (p := ⟨g, o + 9, none⟩) (block_lt_of_cell HC9.out)).trans HC9.out
    have c20 := (HP0.out.1.low.cell (p := ⟨g, o + 2, none⟩) (block_lt_of_cell HC2.out)).trans HC2.out
    have c80 := (HP0.out.1.low.cell (p := ⟨g, o + 8, none⟩) (block_lt_of_cell HC8.out)).trans HC8.out
    go_wp2_with fail
    refine (w_put2 HP0.out.1 _ _ ([100, 101, 102, 32] ++ tx.data.toList) rfl (by have := HL.out; (try simp only [List.length_append, List.length_cons, List.length_nil] at this ⊢); omega)).mono ?_
    rintro e w1 ⟨rfl, hp, hk⟩
    have HP1 : Hid (PS w0 S w1 (l ++ ([100, 101, 102, 32] ++ tx.data.toList)) ∧ Lib.OthersKept 5 (some S) w w1) := ⟨hp, HP0.out.2.trans hk⟩
    clear hp hk
    clear c90 c20 c80
    have c91 := (HP1.out.1.low.cell (p := ⟨g, o + 9, none⟩) (block_lt_of_cell HC9.out)).trans HC9.out
    have c21 := (HP1.out.1.low.cell (p := ⟨g, o + 2, none⟩) (block_lt_of_cell HC2.out)).trans HC2.out
    have c81 := (HP1.out.1.low.cell (p := ⟨g, o + 8, none⟩) (block_lt_of_cell HC8.out)).trans HC8.out
    go_wp2_with fail
    refine (HJ.out _ HP1.out.1.low (by have := HL.out; (try simp only [List.length_append, List.length_cons, List.length_nil] at this ⊢); omega)).mono ?_
    rintro e w2 ⟨rfl, hb2⟩
    have HP2 : Hid (PS w0 S w2 (l ++ ([100, 101, 102, 32] ++ tx.data.toList)) ∧ Lib.OthersKept 5 (some S) w w2) := ⟨HP1.out.1.keep hb2, HP1.out.2.trans (ok_low hb2)⟩
    clear hb2
    clear c91 c21 c81
    have c92 := (HP2.out.1.low.cell (p := ⟨g, o + 9, none⟩) (block_lt_of_cell HC9.out)).trans HC9.out
    have c22 := (HP2.out.1.low.cell (p := ⟨g, o + 2, none⟩) (block_lt_of_cell HC2.out)).trans HC2.out
    have c82 := (HP2.out.1.low.cell (p := ⟨g, o + 8, none⟩) (block_lt_of_cell HC8.out)).trans HC8.out
    go_wp2_with fail
    refine (w_put3 HP2.out.1 _ _ _ ([40] ++ (nm ++ [41])) rfl (by have := HL.out; (try simp only [List.length_append, List.length_cons, List.length_nil] at this ⊢); omega)).mono ?_
    rintro e w3 ⟨rfl, hp, hk⟩
    have HP3 : Hid (PS w0 S w3 (l ++ ([100, 101, 102, 32] ++ tx.data.toList) ++ ([40] ++ (nm ++ [41]))) ∧ Lib.OthersKept 5 (some S) w w3) := ⟨hp, HP2.out.2.trans hk⟩
    clear hp hk
    clear c92 c22 c82
    have c93 := (HP3.out.1.low.cell (p := ⟨g, o + 9, none⟩) (block_lt_of_cell HC9.out)).trans HC9.out
    have c23 := (HP3.out.1.low.cell (p := ⟨g, o + 2, none⟩) (block_lt_of_cell HC2.out)).trans HC2.out
    have c83 := (HP3.out.1.low.cell (p := ⟨g, o + 8, none⟩) (block_lt_of_cell HC8.out)).trans HC8.out
    go_wp2_with fail
    refine (w_put1 HP3.out.1 _ ([58, 32]) rfl (by have := HL.out; (try simp only [List.length_append, List.length_cons, List.length_nil] at this ⊢); omega)).mono ?_
    rintro e w4 ⟨rfl, hp, hk⟩
    have HP4 : Hid (PS w0 S w4 (l ++ ([100, 101, 102, 32] ++ tx.data.toList) ++ ([40] ++ (nm ++ [41])) ++ ([58, 32])) ∧ Lib.OthersKept 5 (some S) w w4) := ⟨hp, HP3.out.2.trans hk⟩
    clear hp hk
    clear c93 c23 c83
    have c94 := (HP4.out.1.low.cell (p := ⟨g, o + 9, none⟩) (block_lt_of_cell HC9.out)).trans HC9.out
    have c24 := (HP4.out.1.low.cell (p := ⟨g, o + 2, none⟩) (block_lt_of_cell HC2.out)).trans HC2.out
    have c84 := (HP4.out.1.low.cell (p := ⟨g, o + 8, none⟩) (block_lt_of_cell HC8.out)).trans HC8.out
    go_wp2_with fail
    refine (HR.out _ _ HP4.out.1 (by have := HL.out; (try simp only [List.length_append, List.length_cons, List.length_nil] at this ⊢); omega)).mono ?_
    rintro e w5 ⟨rfl, hp, hk⟩
    have HP5 : Hid (PS w0 S w5 (l ++ ([100, 101, 102, 32] ++ tx.data.toList) ++ ([40] ++ (nm ++ [41])) ++ ([58, 32]) ++ (pRw t 2)) ∧ Lib.OthersKept 5 (some S) w w5) := ⟨hp, HP4.out.2.trans hk⟩
    clear hp hk
    clear c94 c24 c84
    go_wp2_with fail
    go_end0
    refine ⟨rfl, ?_, HP5.out.2⟩
    have hz := HP5.out.1
    try simp only [List.append_assoc, List.cons_append, List.nil_append] at hz ⊢
    exact hz

set_option maxRecDepth 100000 in
set_option maxHeartbeats 3200000 in
theorem w_call (w0 : World) (S g o b off N kc : Nat) (ko : Option Addr) (t : Nat → List UInt8) (hko : 0 < N → ko = some ⟨b, off, none⟩) (c9 : w0.cell? ⟨g, o + 9, none⟩ = some (.slice ko N kc)) (hcap : N ≤ kc) (hbig : N ≤ 140737488355328) (tx : ByteArray) (c2 : w0.cell? ⟨g, o + 2, none⟩ = some (.string tx)) (hT : ∀ i, i < N → Say w0 S 26 #[.pointer (some ⟨S, 0, none⟩), .pointer (some ⟨b, off + i * 10, none⟩)] (t i)) : Say w0 S 91 #[.pointer (some ⟨S, 0, none⟩), .pointer (some ⟨g, o, none⟩)] (sCall t tx N) := by
  have HR := Hid.mk (w_row w0 S b off N kc ko t hko hcap hbig hT)
  have HC9 := Hid.mk c9
  have HC2 := Hid.mk c2
  clear hT c9 c2 hko
  unfold sCall
  by_cases hz : N = 0
  · rw [if_pos hz, List.append_nil]
    subst hz
    intro w l hP hlen
    have HP0 := Hid.mk (And.intro hP (Lib.OthersKept.refl 5 (some S) w))
    have HL := Hid.mk hlen
    clear hP hlen
    go_enter Tryz.func91, Tryz.ntmps91
    have c90 := (HP0.out.1.low.cell (p := ⟨g, o + 9, none⟩) (block_lt_of_cell HC9.out)).trans HC9.out
    have c20 := (HP0.out.1.low.cell (p := ⟨g, o + 2, none⟩) (block_lt_of_cell HC2.out)).trans HC2.out
    go_wp2_with fail
    refine (w_put1 HP0.out.1 _ (tx.data.toList) rfl (by have := HL.out; (try simp only [List.length_append, List.length_cons, List.length_nil] at this ⊢); omega)).mono ?_
    rintro e w1 ⟨rfl, hp, hk⟩
    have HP1 : Hid (PS w0 S w1 (l ++ (tx.data.toList)) ∧ Lib.OthersKept 5 (some S) w w1) := ⟨hp, HP0.out.2.trans hk⟩
    clear hp hk
    clear c90 c20
    have c91 := (HP1.out.1.low.cell (p := ⟨g, o + 9, none⟩) (block_lt_of_cell HC9.out)).trans HC9.out
    have c21 := (HP1.out.1.low.cell (p := ⟨g, o + 2, none⟩) (block_lt_of_cell HC2.out)).trans HC2.out
    go_wp2_with fail
    go_end0
    refine ⟨rfl, ?_, HP1.out.2⟩
    have hz := HP1.out.1
    try simp only [List.append_assoc, List.cons_append, List.nil_append] at hz ⊢
    exact hz
  · rw [if_neg hz]
    have hz1 : (0 : Int) < (N : Int) := by omega
    intro w l hP hlen
    have HP0 := Hid.mk (And.intro hP (Lib.OthersKept.refl 5 (some S) w))
    have HL := Hid.mk hlen
    clear hP hlen
    go_enter Tryz.func91, Tryz.ntmps91
    have c90 := (HP0.out.1.low.cell (p := ⟨g, o + 9, none⟩) (block_lt_of_cell HC9.out)).trans HC9.out
    have c20 := (HP0.out.1.low.cell (p := ⟨g, o + 2, none⟩) (block_lt_of_cell HC2.out)).trans HC2.out
    go_wp2_with fail
    refine (w_put1 HP0.out.1 _ (tx.data.toList) rfl (by have := HL.out; (try simp only [List.length_append, List.length_cons, List.length_nil] at this ⊢); omega)).mono ?_
    rintro e w1 ⟨rfl, hp, hk⟩
    have HP1 : Hid (PS w0 S w1 (l ++ (tx.data.toList)) ∧ Lib.OthersKept 5 (some S) w w1) := ⟨hp, HP0.out.2.trans hk⟩
    clear hp hk
    clear c90 c20
    have c91 := (HP1.out.1.low.cell (p := ⟨g, o + 9, none⟩) (block_lt_of_cell HC9.out)).trans HC9.out
    have c21 := (HP1.out.1.low.cell (p := ⟨g, o + 2, none⟩) (block_lt_of_cell HC2.out)).trans HC2.out
    go_wp2_with fail
    refine (w_put1 HP1.out.1 _ ([40]) rfl (by have := HL.out; (try simp only [List.length_append, List.length_cons, List.length_nil] at this ⊢); omega)).mono ?_
    rintro e w2 ⟨rfl, hp, hk⟩
    have HP2 : Hid (PS w0 S w2 (l ++ (tx.data.toList) ++ ([40])) ∧ Lib.OthersKept 5 (some S) w w2) := ⟨hp, HP1.out.2.trans hk⟩
    clear hp hk
    clear c91 c21
    have c92 := (HP2.out.1.low.cell (p := ⟨g, o + 9, none⟩) (block_lt_of_cell HC9.out)).trans HC9.out
    have c22 := (HP2.out.1.low.cell (p := ⟨g, o + 2, none⟩) (block_lt_of_cell HC2.out)).trans HC2.out
    go_wp2_with fail
    refine (HR.out _ _ HP2.out.1 (by have := HL.out; (try simp only [List.length_append, List.length_cons, List.length_nil] at this ⊢); omega)).mono ?_
    rintro e w3 ⟨rfl, hp, hk⟩
    have HP3 : Hid (PS w0 S w3 (l ++ (tx.data.toList) ++ ([40]) ++ (pRw t N)) ∧ Lib.OthersKept 5 (some S) w w3) := ⟨hp, HP2.out.2.trans hk⟩
    clear hp hk
    clear c92 c22
    have c93 := (HP3.out.1.low.cell (p := ⟨g, o + 9, none⟩) (block_lt_of_cell HC9.out)).trans HC9.out
    have c23 := (HP3.out.1.low.cell (p := ⟨g, o + 2, none⟩) (block_lt_of_cell HC2.out)).trans HC2.out
    go_wp2_with fail
    refine (w_put1 HP3.out.1 _ ([41]) rfl (by have := HL.out; (try simp only [List.length_append, List.length_cons, List.length_nil] at this ⊢); omega)).mono ?_
    rintro e w4 ⟨rfl, hp, hk⟩
    have HP4 : Hid (PS w0 S w4 (l ++ (tx.data.toList) ++ ([40]) ++ (pRw t N) ++ ([41])) ∧ Lib.OthersKept 5 (some S) w w4) := ⟨hp, HP3.out.2.trans hk⟩
    clear hp hk
    clear c93 c23
    go_wp2_with fail
    go_end0
    refine ⟨rfl, ?_, HP4.out.2⟩
    have hz := HP4.out.1
    try simp only [List.append_assoc, List.cons_append, List.nil_append] at hz ⊢
    exact hz

set_option maxRecDepth 100000 in
set_option maxHeartbeats 3200000 in
theorem w_label (w0 : World) (S h g o b off N kc : Nat) (K : Nat → NT) (t : Nat → List UInt8) (c9 : w0.cell? ⟨g, o + 9, none⟩ = some (.slice (some ⟨b, off, none⟩) N kc)) (hcap : N ≤ kc) (hbig : N ≤ 140737488355328) (hN : 1 ≤ N) (tx : ByteArray) (c2 : w0.cell? ⟨g, o + 2, none⟩ = some (.string tx)) (hT : ∀ i, i < N → Say w0 S 26 #[.pointer (some ⟨S, 0, none⟩), .pointer (some ⟨b, off + i * 10, none⟩)] (t i)) : Say w0 S 92 #[.pointer (some ⟨S, 0, none⟩), .pointer (some ⟨g, o, none⟩)] (sLabel t tx) := by
  have q0 : ((0 : Int) < (N : Int)) := by omega
  have HT : Hid (∀ i, i < N → Say w0 S 26 #[.pointer (some ⟨S, 0, none⟩), .pointer (some ⟨b, off + i * 10, none⟩)] (t i)) := hT
  have HT0 := Hid.mk (HT.out 0 (by omega))
  have HC9 := Hid.mk c9
  have HC2 := Hid.mk c2
  clear hT c9 c2 HT
  unfold sLabel
  intro w l hP hlen
  have HP0 := Hid.mk (And.intro hP (Lib.OthersKept.refl 5 (some S) w))
  have HL := Hid.mk hlen
  clear hP hlen
  go_enter Tryz.func92, Tryz.ntmps92
  have c90 := (HP0.out.1.low.cell (p := ⟨g, o + 9, none⟩) (block_lt_of_cell HC9.out)).trans HC9.out
  have c20 := (HP0.out.1.low.cell (p := ⟨g, o + 2, none⟩) (block_lt_of_cell HC2.out)).trans HC2.out
  go_wp2_with fail
  refine (w_put3 HP0.out.1 _ _ _ ([108, 97, 98, 101, 108, 32, 36] ++ (tx.data.toList ++ [32, 124, 32])) rfl (by have := HL.out; (try simp only [List.length_append, List.length_cons, List.length_nil] at this ⊢); omega)).mono ?_
  rintro e w1 ⟨rfl, hp, hk⟩
  have HP1 : Hid (PS w0 S w1 (l ++ ([108, 97, 98, 101, 108, 32, 36] ++ (tx.data.toList ++ [32, 124, 32]))) ∧ Lib.OthersKept 5 (some S) w w1) := ⟨hp, HP0.out.2.trans hk⟩
  clear hp hk
  clear c90 c20
  have c91 := (HP1.out.1.low.cell (p := ⟨g, o + 9, none⟩) (block_lt_of_cell HC9.out)).trans HC9.out
  have c21 := (HP1.out.1.low.cell (p := ⟨g, o + 2, none⟩) (block_lt_of_cell HC2.out)).trans HC2.out
  go_wp2_with fail
  refine (HT0.out _ _ HP1.out.1 (by have := HL.out; (try simp only [List.length_append, List.length_cons, List.length_nil] at this ⊢); omega)).mono ?_
  rintro e w2 ⟨rfl, hp, hk⟩
  have HP2 : Hid (PS w0 S w2 (l ++ ([108, 97, 98, 101, 108, 32, 36] ++ (tx.data.toList ++ [32, 124, 32])) ++ (t 0)) ∧ Lib.OthersKept 5 (some S) w w2) := ⟨hp, HP1.out.2.trans hk⟩
  clear hp hk
  clear c91 c21
  go_wp2_with fail
  go_end0
  refine ⟨rfl, ?_, HP2.out.2⟩
  have hz := HP2.out.1
  try simp only [List.append_assoc, List.cons_append, List.nil_append] at hz ⊢
  exact hz
end Go.Proofs.YtdjleoglphgdgaaGreatDoor
