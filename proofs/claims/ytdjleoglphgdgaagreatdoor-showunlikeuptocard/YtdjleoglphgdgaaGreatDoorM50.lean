import Derived.Test.YtdjleoglphgdgaaGreatDoorM47
import Derived.Test.YtdjleoglphgdgaaGreatDoorM48
import Derived.Test.YtdjleoglphgdgaaGreatDoorM49
namespace Go.Proofs.YtdjleoglphgdgaaGreatDoor
open Go.RowKit Go.Shelf Go.Sort
set_option linter.unusedVariables false
set_option linter.unusedSimpArgs false
attribute [local go_sem] Oper.semAt_some

def wayF (op : Int) : Nat := if op = 1 then 76 else if op = 2 then 77 else if op = 3 then 78 else if op = 4 then 79 else if op = 5 then 80 else if op = 6 then 81 else if op = 35 then 81 else if op = 7 then 82 else if op = 8 then 83 else if op = 9 then 84 else if op = 10 then 85 else if op = 11 then 86 else if op = 28 then 87 else if op = 29 then 88 else if op = 30 then 89 else if op = 31 then 89 else if op = 32 then 90 else if op = 33 then 91 else if op = 34 then 92 else 93

set_option maxRecDepth 100000 in
set_option maxHeartbeats 3200000 in
theorem w_way (S : Nat) (op : Int) (w : World) : Calls Tryz.prog 41 #[.pointer (some ⟨S, 0, none⟩), .int .i64 op] w fun e w' => e = .returned (.func (.func (wayF op)) #[.pointer (some ⟨S, 0, none⟩)] #[]) ∧ w' = w := by
  by_cases k1 : op = 1
  · subst k1
    go_enter Tryz.func41, Tryz.ntmps41
    go_wp2_with fail
    go_ret
    exact ⟨rfl, rfl⟩
  have b1 : (op == 1) = false := by rw [beq_eq_false_iff_ne]; exact k1
  by_cases k2 : op = 2
  · subst k2
    go_enter Tryz.func41, Tryz.ntmps41
    go_wp2_with fail
    go_ret
    exact ⟨rfl, rfl⟩
  have b2 : (op == 2) = false := by rw [beq_eq_false_iff_ne]; exact k2
  by_cases k3 : op = 3
  · subst k3
    go_enter Tryz.func41, Tryz.ntmps41
    go_wp2_with fail
    go_ret
    exact ⟨rfl, rfl⟩
  have b3 : (op == 3) = false := by rw [beq_eq_false_iff_ne]; exact k3
  by_cases k4 : op = 4
  · subst k4
    go_enter Tryz.func41, Tryz.ntmps41
    go_wp2_with fail
    go_ret
    exact ⟨rfl, rfl⟩
  have b4 : (op == 4) = false := by rw [beq_eq_false_iff_ne]; exact k4
  by_cases k5 : op = 5
  · subst k5
    go_enter Tryz.func41, Tryz.ntmps41
    go_wp2_with fail
    go_ret
    exact ⟨rfl, rfl⟩
  have b5 : (op == 5) = false := by rw [beq_eq_false_iff_ne]; exact k5
  by_cases k6 : op = 6
  · subst k6
    go_enter Tryz.func41, Tryz.ntmps41
    go_wp2_with fail
    go_ret
    exact ⟨rfl, rfl⟩
  have b6 : (op == 6) = false := by rw [beq_eq_false_iff_ne]; exact k6
  by_cases k35 : op = 35
  · subst k35
    go_enter Tryz.func41, Tryz.ntmps41
    go_wp2_with fail
    go_ret
    exact ⟨rfl, rfl⟩
  have b35 : (op == 35) = false := by rw [beq_eq_false_iff_ne]; exact k35
  by_cases k7 : op = 7
  · subst k7
    go_enter Tryz.func41, Tryz.ntmps41
    go_wp2_with fail
    go_ret
    exact ⟨rfl, rfl⟩
  have b7 : (op == 7) = false := by rw [beq_eq_false_iff_ne]; exact k7
  by_cases k8 : op = 8
  · subst k8
    go_enter Tryz.func41, Tryz.ntmps41
    go_wp2_with fail
    go_ret
    exact ⟨rfl, rfl⟩
  have b8 : (op == 8) = false := by rw [beq_eq_false_iff_ne]; exact k8
  by_cases k9 : op = 9
  · subst k9
    go_enter Tryz.func41, Tryz.ntmps41
    go_wp2_with fail
    go_ret
    exact ⟨rfl, rfl⟩
  have b9 : (op == 9) = false := by rw [beq_eq_false_iff_ne]; exact k9
  by_cases k10 : op = 10
  · subst k10
    go_enter Tryz.func41, Tryz.ntmps41
    go_wp2_with fail
    go_ret
    exact ⟨rfl, rfl⟩
  have b10 : (op == 10) = false := by rw [beq_eq_false_iff_ne]; exact k10
  by_cases k11 : op = 11
  · subst k11
    go_enter Tryz.func41, Tryz.ntmps41
    go_wp2_with fail
    go_ret
    exact ⟨rfl, rfl⟩
  have b11 : (op == 11) = false := by rw [beq_eq_false_iff_ne]; exact k11
  by_cases k28 : op = 28
  · subst k28
    go_enter Tryz.func41, Tryz.ntmps41
    go_wp2_with fail
    go_ret
    exact ⟨rfl, rfl⟩
  have b28 : (op == 28) = false := by rw [beq_eq_false_iff_ne]; exact k28
  by_cases k29 : op = 29
  · subst k29
    go_enter Tryz.func41, Tryz.ntmps41
    go_wp2_with fail
    go_ret
    exact ⟨rfl, rfl⟩
  have b29 : (op == 29) = false := by rw [beq_eq_false_iff_ne]; exact k29
  by_cases k30 : op = 30
  · subst k30
    go_enter Tryz.func41, Tryz.ntmps41
    go_wp2_with fail
    go_ret
    exact ⟨rfl, rfl⟩
  have b30 : (op == 30) = false := by rw [beq_eq_false_iff_ne]; exact k30
  by_cases k31 : op = 31
  · subst k31
    go_enter Tryz.func41, Tryz.ntmps41
    go_wp2_with fail
    go_ret
    exact ⟨rfl, rfl⟩
  have b31 : (op == 31) = false := by rw [beq_eq_false_iff_ne]; exact k31
  by_cases k32 : op = 32
  · subst k32
    go_enter Tryz.func41, Tryz.ntmps41
    go_wp2_with fail
    go_ret
    exact ⟨rfl, rfl⟩
  have b32 : (op == 32) = false := by rw [beq_eq_false_iff_ne]; exact k32
  by_cases k33 : op = 33
  · subst k33
    go_enter Tryz.func41, Tryz.ntmps41
    go_wp2_with fail
    go_ret
    exact ⟨rfl, rfl⟩
  have b33 : (op == 33) = false := by rw [beq_eq_false_iff_ne]; exact k33
  by_cases k34 : op = 34
  · subst k34
    go_enter Tryz.func41, Tryz.ntmps41
    go_wp2_with fail
    go_ret
    exact ⟨rfl, rfl⟩
  have b34 : (op == 34) = false := by rw [beq_eq_false_iff_ne]; exact k34
  have e : wayF op = 93 := by unfold wayF; simp [k1, k2, k3, k4, k5, k6, k35, k7, k8, k9, k10, k11, k28, k29, k30, k31, k32, k33, k34]
  rw [e]
  clear e k1 k2 k3 k4 k5 k6 k35 k7 k8 k9 k10 k11 k28 k29 k30 k31 k32 k33 k34
  go_enter Tryz.func41, Tryz.ntmps41
  go_wp2_with fail
  go_ret
  exact ⟨rfl, rfl⟩

set_option maxRecDepth 100000 in
set_option maxHeartbeats 3200000 in
theorem w_tell_self (w0 : World) (S g o : Nat) (op : Int) (X : List UInt8) (he : wayF op = 76) (c0 : w0.cell? ⟨g, o, none⟩ = some (.int .i64 op)) (hF : Say w0 S 76 #[.pointer (some ⟨S, 0, none⟩), .pointer (some ⟨g, o, none⟩)] X) : Say w0 S 26 #[.pointer (some ⟨S, 0, none⟩), .pointer (some ⟨g, o, none⟩)] X := by
  have HW := Hid.mk (fun u => w_way S op u)
  rw [he] at HW
  have HF := Hid.mk hF
  have HC0 := Hid.mk c0
  clear hF c0 he
  intro w l hP hlen
  have HP0 := Hid.mk (And.intro hP (Lib.OthersKept.refl 5 (some S) w))
  have HL := Hid.mk hlen
  clear hP hlen
  go_enter Tryz.func26, Tryz.ntmps26
  have c00 := (HP0.out.1.low.cell (p := ⟨g, o, none⟩) (block_lt_of_cell HC0.out)).trans HC0.out
  go_wp2_with fail
  refine (HW.out _).mono ?_
  rintro e wx ⟨rfl, hwx⟩
  obtain rfl := hwx.symm
  clear c00
  go_wp2_with fail
  refine (HF.out _ _ HP0.out.1 HL.out).mono ?_
  rintro e w1 ⟨rfl, hp, hk⟩
  have HP1 : Hid (PS w0 S w1 (l ++ (X)) ∧ Lib.OthersKept 5 (some S) w w1) := ⟨hp, HP0.out.2.trans hk⟩
  clear hp hk
  go_wp2_with fail
  go_end0
  refine ⟨rfl, ?_, HP1.out.2⟩
  have hz := HP1.out.1
  try simp only [List.append_assoc, List.cons_append, List.nil_append] at hz ⊢
  exact hz

set_option maxRecDepth 100000 in
set_option maxHeartbeats 3200000 in
theorem w_tell_constant (w0 : World) (S g o : Nat) (op : Int) (X : List UInt8) (he : wayF op = 77) (c0 : w0.cell? ⟨g, o, none⟩ = some (.int .i64 op)) (hF : Say w0 S 77 #[.pointer (some ⟨S, 0, none⟩), .pointer (some ⟨g, o, none⟩)] X) : Say w0 S 26 #[.pointer (some ⟨S, 0, none⟩), .pointer (some ⟨g, o, none⟩)] X := by
  have HW := Hid.mk (fun u => w_way S op u)
  rw [he] at HW
  have HF := Hid.mk hF
  have HC0 := Hid.mk c0
  clear hF c0 he
  intro w l hP hlen
  have HP0 := Hid.mk (And.intro hP (Lib.OthersKept.refl 5 (some S) w))
  have HL := Hid.mk hlen
  clear hP hlen
  go_enter Tryz.func26, Tryz.ntmps26
  have c00 := (HP0.out.1.low.cell (p := ⟨g, o, none⟩) (block_lt_of_cell HC0.out)).trans HC0.out
  go_wp2_with fail
  refine (HW.out _).mono ?_
  rintro e wx ⟨rfl, hwx⟩
  obtain rfl := hwx.symm
  clear c00
  go_wp2_with fail
  refine (HF.out _ _ HP0.out.1 HL.out).mono ?_
  rintro e w1 ⟨rfl, hp, hk⟩
  have HP1 : Hid (PS w0 S w1 (l ++ (X)) ∧ Lib.OthersKept 5 (some S) w w1) := ⟨hp, HP0.out.2.trans hk⟩
  clear hp hk
  go_wp2_with fail
  go_end0
  refine ⟨rfl, ?_, HP1.out.2⟩
  have hz := HP1.out.1
  try simp only [List.append_assoc, List.cons_append, List.nil_append] at hz ⊢
  exact hz

set_option maxRecDepth 100000 in
set_option maxHeartbeats 3200000 in
theorem w_tell_join (w0 : World) (S g o : Nat) (op : Int) (X : List UInt8) (he : wayF op = 78) (c0 : w0.cell? ⟨g, o, none⟩ = some (.int .i64 op)) (hF : Say w0 S 78 #[.pointer (some ⟨S, 0, none⟩), .pointer (some ⟨g, o, none⟩)] X) : Say w0 S 26 #[.pointer (some ⟨S, 0, none⟩), .pointer (some ⟨g, o, none⟩)] X := by
  have HW := Hid.mk (fun u => w_way S op u)
  rw [he] at HW
  have HF := Hid.mk hF
  have HC0 := Hid.mk c0
  clear hF c0 he
  intro w l hP hlen
  have HP0 := Hid.mk (And.intro hP (Lib.OthersKept.refl 5 (some S) w))
  have HL := Hid.mk hlen
  clear hP hlen
  go_enter Tryz.func26, Tryz.ntmps26
  have c00 := (HP0.out.1.low.cell (p := ⟨g, o, none⟩) (block_lt_of_cell HC0.out)).trans HC0.out
  go_wp2_with fail
  refine (HW.out _).mono ?_
  rintro e wx ⟨rfl, hwx⟩
  obtain rfl := hwx.symm
  clear c00
  go_wp2_with fail
  refine (HF.out _ _ HP0.out.1 HL.out).mono ?_
  rintro e w1 ⟨rfl, hp, hk⟩
  have HP1 : Hid (PS w0 S w1 (l ++ (X)) ∧ Lib.OthersKept 5 (some S) w w1) := ⟨hp, HP0.out.2.trans hk⟩
  clear hp hk
  go_wp2_with fail
  go_end0
  refine ⟨rfl, ?_, HP1.out.2⟩
  have hz := HP1.out.1
  try simp only [List.append_assoc, List.cons_append, List.nil_append] at hz ⊢
  exact hz

set_option maxRecDepth 100000 in
set_option maxHeartbeats 3200000 in
theorem w_tell_list (w0 : World) (S g o : Nat) (op : Int) (X : List UInt8) (he : wayF op = 79) (c0 : w0.cell? ⟨g, o, none⟩ = some (.int .i64 op)) (hF : Say w0 S 79 #[.pointer (some ⟨S, 0, none⟩), .pointer (some ⟨g, o, none⟩)] X) : Say w0 S 26 #[.pointer (some ⟨S, 0, none⟩), .pointer (some ⟨g, o, none⟩)] X := by
  have HW := Hid.mk (fun u => w_way S op u)
  rw [he] at HW
  have HF := Hid.mk hF
  have HC0 := Hid.mk c0
  clear hF c0 he
  intro w l hP hlen
  have HP0 := Hid.mk (And.intro hP (Lib.OthersKept.refl 5 (some S) w))
  have HL := Hid.mk hlen
  clear hP hlen
  go_enter Tryz.func26, Tryz.ntmps26
  have c00 := (HP0.out.1.low.cell (p := ⟨g, o, none⟩) (block_lt_of_cell HC0.out)).trans HC0.out
  go_wp2_with fail
  refine (HW.out _).mono ?_
  rintro e wx ⟨rfl, hwx⟩
  obtain rfl := hwx.symm
  clear c00
  go_wp2_with fail
  refine (HF.out _ _ HP0.out.1 HL.out).mono ?_
  rintro e w1 ⟨rfl, hp, hk⟩
  have HP1 : Hid (PS w0 S w1 (l ++ (X)) ∧ Lib.OthersKept 5 (some S) w w1) := ⟨hp, HP0.out.2.trans hk⟩
  clear hp hk
  go_wp2_with fail
  go_end0
  refine ⟨rfl, ?_, HP1.out.2⟩
  have hz := HP1.out.1
  try simp only [List.append_assoc, List.cons_append, List.nil_append] at hz ⊢
  exact hz

set_option maxRecDepth 100000 in
set_option maxHeartbeats 3200000 in
theorem w_tell_record (w0 : World) (S g o : Nat) (op : Int) (X : List UInt8) (he : wayF op = 80) (c0 : w0.cell? ⟨g, o, none⟩ = some (.int .i64 op)) (hF : Say w0 S 80 #[.pointer (some ⟨S, 0, none⟩), .pointer (some ⟨g, o, none⟩)] X) : Say w0 S 26 #[.pointer (some ⟨S, 0, none⟩), .pointer (some ⟨g, o, none⟩)] X := by
  have HW := Hid.mk (fun u => w_way S op u)
  rw [he] at HW
  have HF := Hid.mk hF
  have HC0 := Hid.mk c0
  clear hF c0 he
  intro w l hP hlen
  have HP0 := Hid.mk (And.intro hP (Lib.OthersKept.refl 5 (some S) w))
  have HL := Hid.mk hlen
  clear hP hlen
  go_enter Tryz.func26, Tryz.ntmps26
  have c00 := (HP0.out.1.low.cell (p := ⟨g, o, none⟩) (block_lt_of_cell HC0.out)).trans HC0.out
  go_wp2_with fail
  refine (HW.out _).mono ?_
  rintro e wx ⟨rfl, hwx⟩
  obtain rfl := hwx.symm
  clear c00
  go_wp2_with fail
  refine (HF.out _ _ HP0.out.1 HL.out).mono ?_
  rintro e w1 ⟨rfl, hp, hk⟩
  have HP1 : Hid (PS w0 S w1 (l ++ (X)) ∧ Lib.OthersKept 5 (some S) w w1) := ⟨hp, HP0.out.2.trans hk⟩
  clear hp hk
  go_wp2_with fail
  go_end0
  refine ⟨rfl, ?_, HP1.out.2⟩
  have hz := HP1.out.1
  try simp only [List.append_assoc, List.cons_append, List.nil_append] at hz ⊢
  exact hz

set_option maxRecDepth 100000 in
set_option maxHeartbeats 3200000 in
theorem w_tell_variable (w0 : World) (S g o : Nat) (op : Int) (X : List UInt8) (he : wayF op = 81) (c0 : w0.cell? ⟨g, o, none⟩ = some (.int .i64 op)) (hF : Say w0 S 81 #[.pointer (some ⟨S, 0, none⟩), .pointer (some ⟨g, o, none⟩)] X) : Say w0 S 26 #[.pointer (some ⟨S, 0, none⟩), .pointer (some ⟨g, o, none⟩)] X := by
  have HW := Hid.mk (fun u => w_way S op u)
  rw [he] at HW
  have HF := Hid.mk hF
  have HC0 := Hid.mk c0
  clear hF c0 he
  intro w l hP hlen
  have HP0 := Hid.mk (And.intro hP (Lib.OthersKept.refl 5 (some S) w))
  have HL := Hid.mk hlen
  clear hP hlen
  go_enter Tryz.func26, Tryz.ntmps26
  have c00 := (HP0.out.1.low.cell (p := ⟨g, o, none⟩) (block_lt_of_cell HC0.out)).trans HC0.out
  go_wp2_with fail
  refine (HW.out _).mono ?_
  rintro e wx ⟨rfl, hwx⟩
  obtain rfl := hwx.symm
  clear c00
  go_wp2_with fail
  refine (HF.out _ _ HP0.out.1 HL.out).mono ?_
  rintro e w1 ⟨rfl, hp, hk⟩
  have HP1 : Hid (PS w0 S w1 (l ++ (X)) ∧ Lib.OthersKept 5 (some S) w w1) := ⟨hp, HP0.out.2.trans hk⟩
  clear hp hk
  go_wp2_with fail
  go_end0
  refine ⟨rfl, ?_, HP1.out.2⟩
  have hz := HP1.out.1
  try simp only [List.append_assoc, List.cons_append, List.nil_append] at hz ⊢
  exact hz

set_option maxRecDepth 100000 in
set_option maxHeartbeats 3200000 in
theorem w_tell_index (w0 : World) (S g o : Nat) (op : Int) (X : List UInt8) (he : wayF op = 82) (c0 : w0.cell? ⟨g, o, none⟩ = some (.int .i64 op)) (hF : Say w0 S 82 #[.pointer (some ⟨S, 0, none⟩), .pointer (some ⟨g, o, none⟩)] X) : Say w0 S 26 #[.pointer (some ⟨S, 0, none⟩), .pointer (some ⟨g, o, none⟩)] X := by
  have HW := Hid.mk (fun u => w_way S op u)
  rw [he] at HW
  have HF := Hid.mk hF
  have HC0 := Hid.mk c0
  clear hF c0 he
  intro w l hP hlen
  have HP0 := Hid.mk (And.intro hP (Lib.OthersKept.refl 5 (some S) w))
  have HL := Hid.mk hlen
  clear hP hlen
  go_enter Tryz.func26, Tryz.ntmps26
  have c00 := (HP0.out.1.low.cell (p := ⟨g, o, none⟩) (block_lt_of_cell HC0.out)).trans HC0.out
  go_wp2_with fail
  refine (HW.out _).mono ?_
  rintro e wx ⟨rfl, hwx⟩
  obtain rfl := hwx.symm
  clear c00
  go_wp2_with fail
  refine (HF.out _ _ HP0.out.1 HL.out).mono ?_
  rintro e w1 ⟨rfl, hp, hk⟩
  have HP1 : Hid (PS w0 S w1 (l ++ (X)) ∧ Lib.OthersKept 5 (some S) w w1) := ⟨hp, HP0.out.2.trans hk⟩
  clear hp hk
  go_wp2_with fail
  go_end0
  refine ⟨rfl, ?_, HP1.out.2⟩
  have hz := HP1.out.1
  try simp only [List.append_assoc, List.cons_append, List.nil_append] at hz ⊢
  exact hz

set_option maxRecDepth 100000 in
set_option maxHeartbeats 3200000 in
theorem w_tell_slice (w0 : World) (S g o : Nat) (op : Int) (X : List UInt8) (he : wayF op = 83) (c0 : w0.cell? ⟨g, o, none⟩ = some (.int .i64 op)) (hF : Say w0 S 83 #[.pointer (some ⟨S, 0, none⟩), .pointer (some ⟨g, o, none⟩)] X) : Say w0 S 26 #[.pointer (some ⟨S, 0, none⟩), .pointer (some ⟨g, o, none⟩)] X := by
  have HW := Hid.mk (fun u => w_way S op u)
  rw [he] at HW
  have HF := Hid.mk hF
  have HC0 := Hid.mk c0
  clear hF c0 he
  intro w l hP hlen
  have HP0 := Hid.mk (And.intro hP (Lib.OthersKept.refl 5 (some S) w))
  have HL := Hid.mk hlen
  clear hP hlen
  go_enter Tryz.func26, Tryz.ntmps26
  have c00 := (HP0.out.1.low.cell (p := ⟨g, o, none⟩) (block_lt_of_cell HC0.out)).trans HC0.out
  go_wp2_with fail
  refine (HW.out _).mono ?_
  rintro e wx ⟨rfl, hwx⟩
  obtain rfl := hwx.symm
  clear c00
  go_wp2_with fail
  refine (HF.out _ _ HP0.out.1 HL.out).mono ?_
  rintro e w1 ⟨rfl, hp, hk⟩
  have HP1 : Hid (PS w0 S w1 (l ++ (X)) ∧ Lib.OthersKept 5 (some S) w w1) := ⟨hp, HP0.out.2.trans hk⟩
  clear hp hk
  go_wp2_with fail
  go_end0
  refine ⟨rfl, ?_, HP1.out.2⟩
  have hz := HP1.out.1
  try simp only [List.append_assoc, List.cons_append, List.nil_append] at hz ⊢
  exact hz

set_option maxRecDepth 100000 in
set_option maxHeartbeats 3200000 in
theorem w_tell_each (w0 : World) (S g o : Nat) (op : Int) (X : List UInt8) (he : wayF op = 84) (c0 : w0.cell? ⟨g, o, none⟩ = some (.int .i64 op)) (hF : Say w0 S 84 #[.pointer (some ⟨S, 0, none⟩), .pointer (some ⟨g, o, none⟩)] X) : Say w0 S 26 #[.pointer (some ⟨S, 0, none⟩), .pointer (some ⟨g, o, none⟩)] X := by
  have HW := Hid.mk (fun u => w_way S op u)
  rw [he] at HW
  have HF := Hid.mk hF
  have HC0 := Hid.mk c0
  clear hF c0 he
  intro w l hP hlen
  have HP0 := Hid.mk (And.intro hP (Lib.OthersKept.refl 5 (some S) w))
  have HL := Hid.mk hlen
  clear hP hlen
  go_enter Tryz.func26, Tryz.ntmps26
  have c00 := (HP0.out.1.low.cell (p := ⟨g, o, none⟩) (block_lt_of_cell HC0.out)).trans HC0.out
  go_wp2_with fail
  refine (HW.out _).mono ?_
  rintro e wx ⟨rfl, hwx⟩
  obtain rfl := hwx.symm
  clear c00
  go_wp2_with fail
  refine (HF.out _ _ HP0.out.1 HL.out).mono ?_
  rintro e w1 ⟨rfl, hp, hk⟩
  have HP1 : Hid (PS w0 S w1 (l ++ (X)) ∧ Lib.OthersKept 5 (some S) w w1) := ⟨hp, HP0.out.2.trans hk⟩
  clear hp hk
  go_wp2_with fail
  go_end0
  refine ⟨rfl, ?_, HP1.out.2⟩
  have hz := HP1.out.1
  try simp only [List.append_assoc, List.cons_append, List.nil_append] at hz ⊢
  exact hz

set_option maxRecDepth 100000 in
set_option maxHeartbeats 3200000 in
theorem w_tell_try (w0 : World) (S g o : Nat) (op : Int) (X : List UInt8) (he : wayF op = 85) (c0 : w0.cell? ⟨g, o, none⟩ = some (.int .i64 op)) (hF : Say w0 S 85 #[.pointer (some ⟨S, 0, none⟩), .pointer (some ⟨g, o, none⟩)] X) : Say w0 S 26 #[.pointer (some ⟨S, 0, none⟩), .pointer (some ⟨g, o, none⟩)] X := by
  have HW := Hid.mk (fun u => w_way S op u)
  rw [he] at HW
  have HF := Hid.mk hF
  have HC0 := Hid.mk c0
  clear hF c0 he
  intro w l hP hlen
  have HP0 := Hid.mk (And.intro hP (Lib.OthersKept.refl 5 (some S) w))
  have HL := Hid.mk hlen
  clear hP hlen
  go_enter Tryz.func26, Tryz.ntmps26
  have c00 := (HP0.out.1.low.cell (p := ⟨g, o, none⟩) (block_lt_of_cell HC0.out)).trans HC0.out
  go_wp2_with fail
  refine (HW.out _).mono ?_
  rintro e wx ⟨rfl, hwx⟩
  obtain rfl := hwx.symm
  clear c00
  go_wp2_with fail
  refine (HF.out _ _ HP0.out.1 HL.out).mono ?_
  rintro e w1 ⟨rfl, hp, hk⟩
  have HP1 : Hid (PS w0 S w1 (l ++ (X)) ∧ Lib.OthersKept 5 (some S) w w1) := ⟨hp, HP0.out.2.trans hk⟩
  clear hp hk
  go_wp2_with fail
  go_end0
  refine ⟨rfl, ?_, HP1.out.2⟩
  have hz := HP1.out.1
  try simp only [List.append_assoc, List.cons_append, List.nil_append] at hz ⊢
  exact hz

set_option maxRecDepth 100000 in
set_option maxHeartbeats 3200000 in
theorem w_tell_neg (w0 : World) (S g o : Nat) (op : Int) (X : List UInt8) (he : wayF op = 86) (c0 : w0.cell? ⟨g, o, none⟩ = some (.int .i64 op)) (hF : Say w0 S 86 #[.pointer (some ⟨S, 0, none⟩), .pointer (some ⟨g, o, none⟩)] X) : Say w0 S 26 #[.pointer (some ⟨S, 0, none⟩), .pointer (some ⟨g, o, none⟩)] X := by
  have HW := Hid.mk (fun u => w_way S op u)
  rw [he] at HW
  have HF := Hid.mk hF
  have HC0 := Hid.mk c0
  clear hF c0 he
  intro w l hP hlen
  have HP0 := Hid.mk (And.intro hP (Lib.OthersKept.refl 5 (some S) w))
  have HL := Hid.mk hlen
  clear hP hlen
  go_enter Tryz.func26, Tryz.ntmps26
  have c00 := (HP0.out.1.low.cell (p := ⟨g, o, none⟩) (block_lt_of_cell HC0.out)).trans HC0.out
  go_wp2_with fail
  refine (HW.out _).mono ?_
  rintro e wx ⟨rfl, hwx⟩
  obtain rfl := hwx.symm
  clear c00
  go_wp2_with fail
  refine (HF.out _ _ HP0.out.1 HL.out).mono ?_
  rintro e w1 ⟨rfl, hp, hk⟩
  have HP1 : Hid (PS w0 S w1 (l ++ (X)) ∧ Lib.OthersKept 5 (some S) w w1) := ⟨hp, HP0.out.2.trans hk⟩
  clear hp hk
  go_wp2_with fail
  go_end0
  refine ⟨rfl, ?_, HP1.out.2⟩
  have hz := HP1.out.1
  try simp only [List.append_assoc, List.cons_append, List.nil_append] at hz ⊢
  exact hz

set_option maxRecDepth 100000 in
set_option maxHeartbeats 3200000 in
theorem w_tell_choice (w0 : World) (S g o : Nat) (op : Int) (X : List UInt8) (he : wayF op = 87) (c0 : w0.cell? ⟨g, o, none⟩ = some (.int .i64 op)) (hF : Say w0 S 87 #[.pointer (some ⟨S, 0, none⟩), .pointer (some ⟨g, o, none⟩)] X) : Say w0 S 26 #[.pointer (some ⟨S, 0, none⟩), .pointer (some ⟨g, o, none⟩)] X := by
  have HW := Hid.mk (fun u => w_way S op u)
  rw [he] at HW
  have HF := Hid.mk hF
  have HC0 := Hid.mk c0
  clear hF c0 he
  intro w l hP hlen
  have HP0 := Hid.mk (And.intro hP (Lib.OthersKept.refl 5 (some S) w))
  have HL := Hid.mk hlen
  clear hP hlen
  go_enter Tryz.func26, Tryz.ntmps26
  have c00 := (HP0.out.1.low.cell (p := ⟨g, o, none⟩) (block_lt_of_cell HC0.out)).trans HC0.out
  go_wp2_with fail
  refine (HW.out _).mono ?_
  rintro e wx ⟨rfl, hwx⟩
  obtain rfl := hwx.symm
  clear c00
  go_wp2_with fail
  refine (HF.out _ _ HP0.out.1 HL.out).mono ?_
  rintro e w1 ⟨rfl, hp, hk⟩
  have HP1 : Hid (PS w0 S w1 (l ++ (X)) ∧ Lib.OthersKept 5 (some S) w w1) := ⟨hp, HP0.out.2.trans hk⟩
  clear hp hk
  go_wp2_with fail
  go_end0
  refine ⟨rfl, ?_, HP1.out.2⟩
  have hz := HP1.out.1
  try simp only [List.append_assoc, List.cons_append, List.nil_append] at hz ⊢
  exact hz

set_option maxRecDepth 100000 in
set_option maxHeartbeats 3200000 in
theorem w_tell_bind (w0 : World) (S g o : Nat) (op : Int) (X : List UInt8) (he : wayF op = 88) (c0 : w0.cell? ⟨g, o, none⟩ = some (.int .i64 op)) (hF : Say w0 S 88 #[.pointer (some ⟨S, 0, none⟩), .pointer (some ⟨g, o, none⟩)] X) : Say w0 S 26 #[.pointer (some ⟨S, 0, none⟩), .pointer (some ⟨g, o, none⟩)] X := by
  have HW := Hid.mk (fun u => w_way S op u)
  rw [he] at HW
  have HF := Hid.mk hF
  have HC0 := Hid.mk c0
  clear hF c0 he
  intro w l hP hlen
  have HP0 := Hid.mk (And.intro hP (Lib.OthersKept.refl 5 (some S) w))
  have HL := Hid.mk hlen
  clear hP hlen
  go_enter Tryz.func26, Tryz.ntmps26
  have c00 := (HP0.out.1.low.cell (p := ⟨g, o, none⟩) (block_lt_of_cell HC0.out)).trans HC0.out
  go_wp2_with fail
  refine (HW.out _).mono ?_
  rintro e wx ⟨rfl, hwx⟩
  obtain rfl := hwx.symm
  clear c00
  go_wp2_with fail
  refine (HF.out _ _ HP0.out.1 HL.out).mono ?_
  rintro e w1 ⟨rfl, hp, hk⟩
  have HP1 : Hid (PS w0 S w1 (l ++ (X)) ∧ Lib.OthersKept 5 (some S) w w1) := ⟨hp, HP0.out.2.trans hk⟩
  clear hp hk
  go_wp2_with fail
  go_end0
  refine ⟨rfl, ?_, HP1.out.2⟩
  have hz := HP1.out.1
  try simp only [List.append_assoc, List.cons_append, List.nil_append] at hz ⊢
  exact hz

set_option maxRecDepth 100000 in
set_option maxHeartbeats 3200000 in
theorem w_tell_loop (w0 : World) (S g o : Nat) (op : Int) (X : List UInt8) (he : wayF op = 89) (c0 : w0.cell? ⟨g, o, none⟩ = some (.int .i64 op)) (hF : Say w0 S 89 #[.pointer (some ⟨S, 0, none⟩), .pointer (some ⟨g, o, none⟩)] X) : Say w0 S 26 #[.pointer (some ⟨S, 0, none⟩), .pointer (some ⟨g, o, none⟩)] X := by
  have HW := Hid.mk (fun u => w_way S op u)
  rw [he] at HW
  have HF := Hid.mk hF
  have HC0 := Hid.mk c0
  clear hF c0 he
  intro w l hP hlen
  have HP0 := Hid.mk (And.intro hP (Lib.OthersKept.refl 5 (some S) w))
  have HL := Hid.mk hlen
  clear hP hlen
  go_enter Tryz.func26, Tryz.ntmps26
  have c00 := (HP0.out.1.low.cell (p := ⟨g, o, none⟩) (block_lt_of_cell HC0.out)).trans HC0.out
  go_wp2_with fail
  refine (HW.out _).mono ?_
  rintro e wx ⟨rfl, hwx⟩
  obtain rfl := hwx.symm
  clear c00
  go_wp2_with fail
  refine (HF.out _ _ HP0.out.1 HL.out).mono ?_
  rintro e w1 ⟨rfl, hp, hk⟩
  have HP1 : Hid (PS w0 S w1 (l ++ (X)) ∧ Lib.OthersKept 5 (some S) w w1) := ⟨hp, HP0.out.2.trans hk⟩
  clear hp hk
  go_wp2_with fail
  go_end0
  refine ⟨rfl, ?_, HP1.out.2⟩
  have hz := HP1.out.1
  try simp only [List.append_assoc, List.cons_append, List.nil_append] at hz ⊢
  exact hz

set_option maxRecDepth 100000 in
set_option maxHeartbeats 3200000 in
theorem w_tell_definition (w0 : World) (S g o : Nat) (op : Int) (X : List UInt8) (he : wayF op = 90) (c0 : w0.cell? ⟨g, o, none⟩ = some (.int .i64 op)) (hF : Say w0 S 90 #[.pointer (some ⟨S, 0, none⟩), .pointer (some ⟨g, o, none⟩)] X) : Say w0 S 26 #[.pointer (some ⟨S, 0, none⟩), .pointer (some ⟨g, o, none⟩)] X := by
  have HW := Hid.mk (fun u => w_way S op u)
  rw [he] at HW
  have HF := Hid.mk hF
  have HC0 := Hid.mk c0
  clear hF c0 he
  intro w l hP hlen
  have HP0 := Hid.mk (And.intro hP (Lib.OthersKept.refl 5 (some S) w))
  have HL := Hid.mk hlen
  clear hP hlen
  go_enter Tryz.func26, Tryz.ntmps26
  have c00 := (HP0.out.1.low.cell (p := ⟨g, o, none⟩) (block_lt_of_cell HC0.out)).trans HC0.out
  go_wp2_with fail
  refine (HW.out _).mono ?_
  rintro e wx ⟨rfl, hwx⟩
  obtain rfl := hwx.symm
  clear c00
  go_wp2_with fail
  refine (HF.out _ _ HP0.out.1 HL.out).mono ?_
  rintro e w1 ⟨rfl, hp, hk⟩
  have HP1 : Hid (PS w0 S w1 (l ++ (X)) ∧ Lib.OthersKept 5 (some S) w w1) := ⟨hp, HP0.out.2.trans hk⟩
  clear hp hk
  go_wp2_with fail
  go_end0
  refine ⟨rfl, ?_, HP1.out.2⟩
  have hz := HP1.out.1
  try simp only [List.append_assoc, List.cons_append, List.nil_append] at hz ⊢
  exact hz

set_option maxRecDepth 100000 in
set_option maxHeartbeats 3200000 in
theorem w_tell_call (w0 : World) (S g o : Nat) (op : Int) (X : List UInt8) (he : wayF op = 91) (c0 : w0.cell? ⟨g, o, none⟩ = some (.int .i64 op)) (hF : Say w0 S 91 #[.pointer (some ⟨S, 0, none⟩), .pointer (some ⟨g, o, none⟩)] X) : Say w0 S 26 #[.pointer (some ⟨S, 0, none⟩), .pointer (some ⟨g, o, none⟩)] X := by
  have HW := Hid.mk (fun u => w_way S op u)
  rw [he] at HW
  have HF := Hid.mk hF
  have HC0 := Hid.mk c0
  clear hF c0 he
  intro w l hP hlen
  have HP0 := Hid.mk (And.intro hP (Lib.OthersKept.refl 5 (some S) w))
  have HL := Hid.mk hlen
  clear hP hlen
  go_enter Tryz.func26, Tryz.ntmps26
  have c00 := (HP0.out.1.low.cell (p := ⟨g, o, none⟩) (block_lt_of_cell HC0.out)).trans HC0.out
  go_wp2_with fail
  refine (HW.out _).mono ?_
  rintro e wx ⟨rfl, hwx⟩
  obtain rfl := hwx.symm
  clear c00
  go_wp2_with fail
  refine (HF.out _ _ HP0.out.1 HL.out).mono ?_
  rintro e w1 ⟨rfl, hp, hk⟩
  have HP1 : Hid (PS w0 S w1 (l ++ (X)) ∧ Lib.OthersKept 5 (some S) w w1) := ⟨hp, HP0.out.2.trans hk⟩
  clear hp hk
  go_wp2_with fail
  go_end0
  refine ⟨rfl, ?_, HP1.out.2⟩
  have hz := HP1.out.1
  try simp only [List.append_assoc, List.cons_append, List.nil_append] at hz ⊢
  exact hz

set_option maxRecDepth 100000 in
set_option maxHeartbeats 3200000 in
theorem w_tell_label (w0 : World) (S g o : Nat) (op : Int) (X : List UInt8) (he : wayF op = 92) (c0 : w0.cell? ⟨g, o, none⟩ = some (.int .i64 op)) (hF : Say w0 S 92 #[.pointer (some ⟨S, 0, none⟩), .pointer (some ⟨g, o, none⟩)] X) : Say w0 S 26 #[.pointer (some ⟨S, 0, none⟩), .pointer (some ⟨g, o, none⟩)] X := by
  have HW := Hid.mk (fun u => w_way S op u)
  rw [he] at HW
  have HF := Hid.mk hF
  have HC0 := Hid.mk c0
  clear hF c0 he
  intro w l hP hlen
  have HP0 := Hid.mk (And.intro hP (Lib.OthersKept.refl 5 (some S) w))
  have HL := Hid.mk hlen
  clear hP hlen
  go_enter Tryz.func26, Tryz.ntmps26
  have c00 := (HP0.out.1.low.cell (p := ⟨g, o, none⟩) (block_lt_of_cell HC0.out)).trans HC0.out
  go_wp2_with fail
  refine (HW.out _).mono ?_
  rintro e wx ⟨rfl, hwx⟩
  obtain rfl := hwx.symm
  clear c00
  go_wp2_with fail
  refine (HF.out _ _ HP0.out.1 HL.out).mono ?_
  rintro e w1 ⟨rfl, hp, hk⟩
  have HP1 : Hid (PS w0 S w1 (l ++ (X)) ∧ Lib.OthersKept 5 (some S) w w1) := ⟨hp, HP0.out.2.trans hk⟩
  clear hp hk
  go_wp2_with fail
  go_end0
  refine ⟨rfl, ?_, HP1.out.2⟩
  have hz := HP1.out.1
  try simp only [List.append_assoc, List.cons_append, List.nil_append] at hz ⊢
  exact hz

set_option maxRecDepth 100000 in
set_option maxHeartbeats 3200000 in
theorem w_tell_operation (w0 : World) (S g o : Nat) (op : Int) (X : List UInt8) (he : wayF op = 93) (c0 : w0.cell? ⟨g, o, none⟩ = some (.int .i64 op)) (hF : Say w0 S 93 #[.pointer (some ⟨S, 0, none⟩), .pointer (some ⟨g, o, none⟩)] X) : Say w0 S 26 #[.pointer (some ⟨S, 0, none⟩), .pointer (some ⟨g, o, none⟩)] X := by
  have HW := Hid.mk (fun u => w_way S op u)
  rw [he] at HW
  have HF := Hid.mk hF
  have HC0 := Hid.mk c0
  clear hF c0 he
  intro w l hP hlen
  have HP0 := Hid.mk (And.intro hP (Lib.OthersKept.refl 5 (some S) w))
  have HL := Hid.mk hlen
  clear hP hlen
  go_enter Tryz.func26, Tryz.ntmps26
  have c00 := (HP0.out.1.low.cell (p := ⟨g, o, none⟩) (block_lt_of_cell HC0.out)).trans HC0.out
  go_wp2_with fail
  refine (HW.out _).mono ?_
  rintro e wx ⟨rfl, hwx⟩
  obtain rfl := hwx.symm
  clear c00
  go_wp2_with fail
  refine (HF.out _ _ HP0.out.1 HL.out).mono ?_
  rintro e w1 ⟨rfl, hp, hk⟩
  have HP1 : Hid (PS w0 S w1 (l ++ (X)) ∧ Lib.OthersKept 5 (some S) w w1) := ⟨hp, HP0.out.2.trans hk⟩
  clear hp hk
  go_wp2_with fail
  go_end0
  refine ⟨rfl, ?_, HP1.out.2⟩
  have hz := HP1.out.1
  try simp only [List.append_assoc, List.cons_append, List.nil_append] at hz ⊢
  exact hz
end Go.Proofs.YtdjleoglphgdgaaGreatDoor
namespace Go.Proofs.YtdjleoglphgdgaaGreatDoor
open Go.RowKit Go.Shelf Go.Sort
set_option linter.unusedVariables false
set_option linter.unusedSimpArgs false

/-- every text within is short -/
def TxB : Nat → NT → Prop
  | 0, _ => True
  | h + 1, A => A.value.text.size ≤ 1048576 ∧ ∀ i, i < A.kids.length → TxB h (A.kids.getD i nn0)
theorem fp_open {h : Nat} {A : NT} (hf : fpN (h + 1) A = true) : mfB A.op (A.kids.length : Int) = true ∧ ∀ i, i < A.kids.length → kfB (fpN h) A.op A.kids i (A.kids.getD i nn0) = true := by
  rw [fpN] at hf
  simp only [Bool.and_eq_true, List.all_eq_true, List.mem_range] at hf
  exact ⟨hf.1.1.1.1, hf.1.1.1.2⟩
theorem mf_rng {op m : Int} (h : mfB op m = true) : 1 ≤ op ∧ op ≤ 43 := by
  unfold mfB at h
  repeat' split at h
  all_goals first | omega | skip
  simp only [Bool.and_eq_true, Bool.or_eq_true, decide_eq_true_eq] at h
  omega
theorem kf_fm {fm : NT → Bool} {op : Int} {ks : List NT} {i : Nat} {k : NT} (h : kfB fm op ks i k = true) (hn : op = 8 → 0 < i → k.op ≠ 0) : fm k = true := by
  unfold kfB at h
  split at h
  · rename_i hc
    exact absurd (noneIff.1 (sq_iff.1 hc.2.2)).1 (hn hc.1 hc.2.1)
  · split at h
    · simp only [Bool.and_eq_true] at h
      exact h.2
    · exact h
def TlOk (w0 : World) (S h : Nat) : Prop := ∀ (A : NT) (g o : Nat), NAt w0 h A g o → fpN h A = true → TxB h A → Say w0 S 26 #[.pointer (some ⟨S, 0, none⟩), .pointer (some ⟨g, o, none⟩)] (shT h A)

set_option maxRecDepth 100000 in
set_option maxHeartbeats 3200000 in
theorem tl_step (w0 : World) (S h : Nat) (ih : TlOk w0 S h) : TlOk w0 S (h + 1) := by
  intro A g o hA hf ht
  obtain ⟨hm, hk⟩ := fp_open hf
  have hA' := hA
  obtain ⟨aio, aic, ayo, ayc, ano, anc, ako, akc, HA⟩ := hA.open_
  obtain ⟨r1, r2⟩ := mf_rng hm
  obtain ⟨K, hK⟩ : ∃ K, K = fun i => A.kids.getD i nn0 := ⟨_, rfl⟩
  obtain ⟨t, hT0⟩ : ∃ t, t = fun i => shT h (A.kids.getD i nn0) := ⟨_, rfl⟩
  have eK : ∀ i, A.kids.getD i nn0 = K i := fun i => by rw [hK]
  have eT : ∀ i, shT h (K i) = t i := fun i => by rw [hK, hT0]
  have hsh := shT_up h A
  simp only at hsh
  rw [← hK, ← hT0] at hsh
  obtain ⟨b, off, hko, hrow⟩ : ∃ b off, (0 < A.kids.length → ako = some ⟨b, off, none⟩) ∧ ∀ i, i < A.kids.length → NAt w0 h (K i) b (off + i * 10) := by
    by_cases h0 : 0 < A.kids.length
    · obtain ⟨b, off, e, hr⟩ := HA.kids h0
      exact ⟨b, off, fun _ => e, fun i hi => by rw [← eK, getD_kid hi]; exact hr i hi⟩
    · exact ⟨0, 0, fun h => absurd h h0, fun i hi => absurd (Nat.lt_of_le_of_lt (Nat.zero_le _) hi) h0⟩
  have hkf : ∀ i, i < A.kids.length → (A.op = 8 → 0 < i → (K i).op ≠ 0) → fpN h (K i) = true := fun i hi hn => kf_fm (by have := hk i hi; rw [eK] at this; exact this) hn
  have htx : ∀ i, i < A.kids.length → TxB h (K i) := fun i hi => by have := ht.2 i hi; rw [eK] at this; exact this
  have hT : ∀ i, i < A.kids.length → (A.op = 8 → 0 < i → (K i).op ≠ 0) → Say w0 S 26 #[.pointer (some ⟨S, 0, none⟩), .pointer (some ⟨b, off + i * 10, none⟩)] (t i) := fun i hi hn => by
    rw [← eT]
    exact ih (K i) b _ (hrow i hi) (hkf i hi hn) (htx i hi)
  have hTT : A.op ≠ 8 → ∀ i, i < A.kids.length → Say w0 S 26 #[.pointer (some ⟨S, 0, none⟩), .pointer (some ⟨b, off + i * 10, none⟩)] (t i) := fun h8 i hi => hT i hi (fun e => absurd e h8)
  have hup : ∀ i, i < A.kids.length → NAt w0 (h - 1 + 1) (K i) b (off + i * 10) := fun i hi => by
    have hr := hrow i hi
    obtain ⟨n, hn⟩ := hr.pos
    rw [show h - 1 + 1 = h by omega]
    exact hr
  have hkop : ∀ i, i < A.kids.length → (A.op = 8 → 0 < i → (K i).op ≠ 0) → 0 ≤ (K i).op ∧ (K i).op < 44 := fun i hi hn => by
    have hr := hkf i hi hn
    obtain ⟨n, rfl⟩ := (hrow i hi).pos
    have := mf_rng (fp_open hr).1
    omega
  have hsz : ∀ i, i < A.kids.length → (K i).value.text.size ≤ 1048576 := fun i hi => by
    have hr := htx i hi
    obtain ⟨n, rfl⟩ := (hrow i hi).pos
    exact hr.1
  have hAA : A.op ≠ 8 → ∀ i, i < A.kids.length → NAt w0 (h - 1 + 1) (K i) b (off + i * 10) ∧ 0 ≤ (K i).op ∧ (K i).op < 44 := fun h8 i hi => ⟨hup i hi, hkop i hi (fun e => absurd e h8)⟩
  have c9' : 0 < A.kids.length → w0.cell? ⟨g, o + 9, none⟩ = some (.slice (some ⟨b, off, none⟩) A.kids.length akc) := fun h0 => by rw [← hko h0]; exact HA.c9
  by_cases k1 : A.op = 1
  · have e : shT (h + 1) A = [46] := by rw [hsh]; simp only [k1]; rfl
    rw [e]
    refine w_tell_self w0 S g o A.op _ (by rw [k1]; rfl) HA.c0 ?_
    exact w_selfP w0 S g o
  by_cases k2 : A.op = 2
  · have e : shT (h + 1) A = pCn A.value := by rw [hsh]; simp only [k2]; rfl
    rw [e]
    refine w_tell_constant w0 S g o A.op _ (by rw [k2]; rfl) HA.c0 ?_
    exact w_constant w0 S h A g o hA' (by have := ht.1; omega)
  by_cases k3 : A.op = 3
  · have e : shT (h + 1) A = sJoin K t A.kids.length := by rw [hsh]; simp only [k3]; rfl
    rw [e]
    have hN : 3 ≤ A.kids.length := by
      rw [k3] at hm
      simp [mfB] at hm
      omega
    refine w_tell_join w0 S g o A.op _ (by rw [k3]; rfl) HA.c0 ?_
    exact w_join w0 S (h - 1) g o b off A.kids.length akc K t (c9' (by omega)) HA.kl.1 HA.kl.2 (by omega) (fun i hi => ⟨hup i hi, hsz i hi⟩) (hTT (by omega))
  by_cases k4 : A.op = 4
  · have e : shT (h + 1) A = sList t A.kids.length := by rw [hsh]; simp only [k4]; rfl
    rw [e]
    refine w_tell_list w0 S g o A.op _ (by rw [k4]; rfl) HA.c0 ?_
    exact w_list w0 S g o b off A.kids.length akc ako t hko HA.c9 HA.kl.1 HA.kl.2 (hTT (by omega))
  by_cases k5 : A.op = 5
  · have e : shT (h + 1) A = sRecord K t (A.kids.length / 2) := by rw [hsh]; simp only [k5]; rfl
    rw [e]
    have hN : A.kids.length = 2 * (A.kids.length / 2) := by
      rw [k5] at hm
      simp [mfB] at hm
      omega
    refine w_tell_record w0 S g o A.op _ (by rw [k5]; rfl) HA.c0 ?_
    exact w_record w0 S (h - 1) g o b off A.kids.length akc K t ako hko HA.c9 HA.kl.1 HA.kl.2 (A.kids.length / 2) hN (hTT (by omega)) (hAA (by omega)) hsz
  by_cases k6 : A.op = 6
  · have e : shT (h + 1) A = sVar A.op A.text := by rw [hsh]; simp only [k6]; rfl
    rw [e]
    refine w_tell_variable w0 S g o A.op _ (by rw [k6]; rfl) HA.c0 ?_
    exact w_variable w0 S g o A.op HA.c0 A.text HA.c2
  by_cases k35 : A.op = 35
  · have e : shT (h + 1) A = sVar A.op A.text := by rw [hsh]; simp only [k35]; rfl
    rw [e]
    refine w_tell_variable w0 S g o A.op _ (by rw [k35]; rfl) HA.c0 ?_
    exact w_variable w0 S g o A.op HA.c0 A.text HA.c2
  by_cases k7 : A.op = 7
  · have e : shT (h + 1) A = sIndex K t := by rw [hsh]; simp only [k7]; rfl
    rw [e]
    have hN : A.kids.length = 2 := by
      rw [k7] at hm
      simp [mfB] at hm
      omega
    refine w_tell_index w0 S g o A.op _ (by rw [k7]; rfl) HA.c0 ?_
    exact w_index w0 S (h - 1) g o b off A.kids.length akc K t (c9' (by omega)) HA.kl.1 HA.kl.2 (by omega) (hsz 1 (by omega)) (hTT (by omega)) (hAA (by omega))
  by_cases k8 : A.op = 8
  · have e : shT (h + 1) A = sSlice K t := by rw [hsh]; simp only [k8]; rfl
    rw [e]
    have hN : A.kids.length = 3 := by
      rw [k8] at hm
      simp [mfB] at hm
      omega
    refine w_tell_slice w0 S g o A.op _ (by rw [k8]; rfl) HA.c0 ?_
    exact w_slice w0 S (h - 1) g o b off A.kids.length akc K t (c9' (by omega)) HA.kl.1 HA.kl.2 (by omega) (w_base w0 S (h - 1) (K 0) b _ (t 0) (hup 0 (by omega)) (hkop 0 (by omega) (fun _ h0 => absurd h0 (Nat.lt_irrefl 0))) (hT 0 (by omega) (fun _ h0 => absurd h0 (Nat.lt_irrefl 0)))) (w_end w0 S (h - 1) (K 1) b _ (t 1) (hup 1 (by omega)) (fun hne => hT 1 (by omega) (fun _ _ => hne))) (w_end w0 S (h - 1) (K 2) b _ (t 2) (hup 2 (by omega)) (fun hne => hT 2 (by omega) (fun _ _ => hne)))
  by_cases k9 : A.op = 9
  · have e : shT (h + 1) A = sEach K t := by rw [hsh]; simp only [k9]; rfl
    rw [e]
    have hN : A.kids.length = 1 := by
      rw [k9] at hm
      simp [mfB] at hm
      omega
    refine w_tell_each w0 S g o A.op _ (by rw [k9]; rfl) HA.c0 ?_
    exact w_each w0 S (h - 1) g o b off A.kids.length akc K t (c9' (by omega)) HA.kl.1 HA.kl.2 (by omega) (hTT (by omega)) (hAA (by omega))
  by_cases k10 : A.op = 10
  · have e : shT (h + 1) A = sTry K t A.kids.length := by rw [hsh]; simp only [k10]; rfl
    rw [e]
    have hN : 1 ≤ A.kids.length ∧ A.kids.length ≤ 2 := by
      rw [k10] at hm
      simp [mfB] at hm
      omega
    refine w_tell_try w0 S g o A.op _ (by rw [k10]; rfl) HA.c0 ?_
    exact w_try w0 S (h - 1) g o b off A.kids.length akc K t (c9' (by omega)) HA.kl.1 HA.kl.2 (by omega) (by omega) (hTT (by omega)) (hAA (by omega))
  by_cases k11 : A.op = 11
  · have e : shT (h + 1) A = sNeg K t := by rw [hsh]; simp only [k11]; rfl
    rw [e]
    have hN : A.kids.length = 1 := by
      rw [k11] at hm
      simp [mfB] at hm
      omega
    refine w_tell_neg w0 S g o A.op _ (by rw [k11]; rfl) HA.c0 ?_
    exact w_neg w0 S (h - 1) g o b off A.kids.length akc K t (c9' (by omega)) HA.kl.1 HA.kl.2 (by omega) (hTT (by omega)) (hAA (by omega))
  by_cases k28 : A.op = 28
  · have e : shT (h + 1) A = sIf t := by rw [hsh]; simp only [k28]; rfl
    rw [e]
    have hN : A.kids.length = 3 := by
      rw [k28] at hm
      simp [mfB] at hm
      omega
    refine w_tell_choice w0 S g o A.op _ (by rw [k28]; rfl) HA.c0 ?_
    exact w_choice w0 S (h - 1) g o b off A.kids.length akc K t (c9' (by omega)) HA.kl.1 HA.kl.2 (by omega) (hTT (by omega))
  by_cases k29 : A.op = 29
  · have e : shT (h + 1) A = sBind K t A.text := by rw [hsh]; simp only [k29]; rfl
    rw [e]
    have hN : A.kids.length = 2 := by
      rw [k29] at hm
      simp [mfB] at hm
      omega
    refine w_tell_bind w0 S g o A.op _ (by rw [k29]; rfl) HA.c0 ?_
    exact w_bind w0 S (h - 1) g o b off A.kids.length akc K t (c9' (by omega)) HA.kl.1 HA.kl.2 (by omega) A.text HA.c2 (hTT (by omega)) (hAA (by omega))
  by_cases k30 : A.op = 30
  · have e : shT (h + 1) A = sLoop A.op K t A.text A.kids.length := by rw [hsh]; simp only [k30]; rfl
    rw [e]
    have hN : A.kids.length = 3 := by
      rw [k30] at hm
      simp [mfB] at hm
      omega
    refine w_tell_loop w0 S g o A.op _ (by rw [k30]; rfl) HA.c0 ?_
    exact w_loop w0 S (h - 1) g o b off A.kids.length akc K t (c9' (by omega)) HA.kl.1 HA.kl.2 (by omega) A.text HA.c2 A.op HA.c0 (hTT (by omega)) (hAA (by omega))
  by_cases k31 : A.op = 31
  · have e : shT (h + 1) A = sLoop A.op K t A.text A.kids.length := by rw [hsh]; simp only [k31]; rfl
    rw [e]
    have hN : A.kids.length = 3 ∨ A.kids.length = 4 := by
      rw [k31] at hm
      simp [mfB] at hm
      omega
    refine w_tell_loop w0 S g o A.op _ (by rw [k31]; rfl) HA.c0 ?_
    exact w_loop w0 S (h - 1) g o b off A.kids.length akc K t (c9' (by omega)) HA.kl.1 HA.kl.2 (by omega) A.text HA.c2 A.op HA.c0 (hTT (by omega)) (hAA (by omega))
  by_cases k32 : A.op = 32
  · have e : shT (h + 1) A = sDef t A.text A.names := by rw [hsh]; simp only [k32]; rfl
    rw [e]
    have hN : A.kids.length = 2 := by
      rw [k32] at hm
      simp [mfB] at hm
      omega
    refine w_tell_definition w0 S g o A.op _ (by rw [k32]; rfl) HA.c0 ?_
    exact w_definition w0 S g o b off akc t (by have := c9' (by omega); rw [hN] at this; exact this) (by have := HA.kl.1; omega) A.text HA.c2 ano anc A.names HA.c8 HA.names HA.nl.1 HA.nl.2.1 (fun i hi => hTT (by omega) i (by omega))
  by_cases k33 : A.op = 33
  · have e : shT (h + 1) A = sCall t A.text A.kids.length := by rw [hsh]; simp only [k33]; rfl
    rw [e]
    refine w_tell_call w0 S g o A.op _ (by rw [k33]; rfl) HA.c0 ?_
    exact w_call w0 S g o b off A.kids.length akc ako t hko HA.c9 HA.kl.1 HA.kl.2 A.text HA.c2 (hTT (by omega))
  by_cases k34 : A.op = 34
  · have e : shT (h + 1) A = sLabel t A.text := by rw [hsh]; simp only [k34]; rfl
    rw [e]
    have hN : A.kids.length = 1 := by
      rw [k34] at hm
      simp [mfB] at hm
      omega
    refine w_tell_label w0 S g o A.op _ (by rw [k34]; rfl) HA.c0 ?_
    exact w_label w0 S (h - 1) g o b off A.kids.length akc K t (c9' (by omega)) HA.kl.1 HA.kl.2 (by omega) A.text HA.c2 (hTT (by omega))
  have e : shT (h + 1) A = sOp A.op K t := by
    rw [hsh, if_neg k1, if_neg k2, if_neg k3, if_neg k4, if_neg k5, if_neg (by omega), if_neg k7, if_neg k8, if_neg k9, if_neg k10, if_neg k11, if_neg k28, if_neg k29, if_neg (by omega), if_neg k32, if_neg k33, if_neg k34]
  rw [e]
  have hN : A.kids.length = 2 := by
    unfold mfB at hm
    rw [if_neg (by omega), if_neg (by omega), if_neg (by omega), if_neg (by omega), if_neg (by omega), if_neg (by omega), if_neg (by omega), if_neg (by omega), if_neg (by omega), if_neg (by omega)] at hm
    simp only [Bool.and_eq_true] at hm
    have := eq_of_beq hm.1
    omega
  have hw : wayF A.op = 93 := by
    unfold wayF
    rw [if_neg k1, if_neg k2, if_neg k3, if_neg k4, if_neg k5, if_neg k6, if_neg k35, if_neg k7, if_neg k8, if_neg k9, if_neg k10, if_neg k11, if_neg k28, if_neg k29, if_neg k30, if_neg k31, if_neg k32, if_neg k33, if_neg k34]
  refine w_tell_operation w0 S g o A.op _ hw HA.c0 ?_
  obtain ⟨m, hm2⟩ : ∃ m : Nat, A.op = (m : Int) := ⟨A.op.toNat, by omega⟩
  have c0 := HA.c0
  have hTT' := hTT k8
  have hAA' := hAA k8
  rw [hm2] at c0 ⊢
  exact w_operation w0 S (h - 1) g o b off A.kids.length akc K t (c9' (by omega)) HA.kl.1 HA.kl.2 (by omega) m (by omega) c0 hTT' hAA'
theorem w_tell (w0 : World) (S : Nat) : ∀ h, TlOk w0 S h
  | 0 => fun _ _ _ ⟨_, _, hA⟩ => hA.elim
  | h + 1 => tl_step w0 S h (w_tell w0 S h)
end Go.Proofs.YtdjleoglphgdgaaGreatDoor
namespace Go.Proofs.YtdjleoglphgdgaaGreatDoor
open Go.RowKit Go.Shelf Go.Sort
set_option linter.unusedVariables false
set_option linter.unusedSimpArgs false

/-- how great a filter is -/
def smT (B : Nat → Nat) (n : Nat) : Nat := ((List.range n).map B).sum
theorem smT_succ (B : Nat → Nat) (n : Nat) : smT B (n + 1) = smT B n + B n := by
  unfold smT
  rw [List.range_succ, List.map_append, List.sum_append]
  simp
theorem smT_get (B : Nat → Nat) : ∀ {n i : Nat}, i < n → B i ≤ smT B n
  | n + 1, i, hi => by
    rw [smT_succ]
    by_cases e : i = n
    · rw [e]; omega
    · have := smT_get B (show i < n by omega)
      omega
def bkT : Nat → NT → Nat
  | 0, _ => 0
  | h + 1, A => 12 + A.text.size + A.value.num.size + A.value.text.size + (A.names.map (fun x => x.size + 1)).sum + smT (fun i => bkT h (A.kids.getD i nn0)) A.kids.length
theorem fl_len {f : Nat → List UInt8} {B : Nat → Nat} : ∀ {n : Nat}, (∀ i, i < n → (f i).length ≤ 8 * B i) → (fl f n).length ≤ 8 * smT B n
  | 0, _ => Nat.zero_le _
  | n + 1, h => by
    rw [fl_succ, smT_succ, List.length_append]
    have h1 := fl_len (n := n) (fun i hi => h i (by omega))
    have h2 := h n (by omega)
    omega
theorem fl_len2 {f : Nat → List UInt8} {B : Nat → Nat} : ∀ {n : Nat}, (∀ i, i < n → (f i).length ≤ 8 * (B (2 * i) + B (2 * i + 1))) → (fl f n).length ≤ 8 * smT B (2 * n)
  | 0, _ => Nat.zero_le _
  | n + 1, h => by
    rw [fl_succ, show 2 * (n + 1) = 2 * n + 1 + 1 by omega, smT_succ, smT_succ, List.length_append]
    have h1 := fl_len2 (n := n) (fun i hi => h i (by omega))
    have h2 := h n (by omega)
    omega
theorem pHd_len' (t : List UInt8) (A : NT) (n : Int) : (pHd t A n).length ≤ t.length + 2 := by
  unfold pHd pBr
  split <;> simp <;> omega
theorem pBs_len (t : List UInt8) (A : NT) : (pBs t A).length ≤ t.length + 2 := pHd_len' _ _ _
theorem pPc_len (s : ByteArray) : (pPc s).length ≤ 6 * s.size := by
  unfold pPc
  have h1 := qb_len (runes s.data.toList)
  have h2 := runes_len_le s.data.toList
  have h3 : s.data.toList.length = s.size := by rw [Array.length_toList]; rfl
  omega
theorem pQt_len (s : ByteArray) : (pQt s).length ≤ 6 * s.size + 2 := by
  have h := pPc_len s
  unfold pPc at h
  unfold pQt
  simp only [List.length_cons, List.length_append, List.length_nil]
  omega
theorem pKy_len (s : ByteArray) : (pKy s).length ≤ 6 * s.size + 2 := by
  have h := pQt_len s
  have h3 : s.data.toList.length = s.size := by rw [Array.length_toList]; rfl
  unfold pKy
  split
  · simp
  · split
    · omega
    · exact h
theorem smT_tail (B : Nat → Nat) : ∀ {n : Nat}, 1 ≤ n → smT (fun i => B (i + 1)) (n - 1) + B 0 = smT B n
  | 1, _ => by simp [smT]
  | n + 2, _ => by
    have := smT_tail B (n := n + 1) (by omega)
    rw [smT_succ B (n + 1), show n + 2 - 1 = n + 1 by omega, smT_succ]
    rw [show n + 1 - 1 = n by omega] at this
    omega
theorem sg_len (op : Int) : (pSg op).length ≤ 6 := by
  unfold pSg pRow
  split
  · simp
  · rw [List.getD_eq_getElem?_getD]
    cases hx : pTab[op.toNat]? with
    | none => simp
    | some r =>
      have hd : ∀ r ∈ pTab, r.1.length ≤ 6 := by decide
      exact hd r (List.mem_of_getElem? hx)
theorem pKe_len2 (t : List UInt8) (k : NT) : (pKe t k).length ≤ t.length + 2 ∨ (pKe t k).length ≤ 6 * k.value.text.size + 2 := by
  have h1 := pKy_len k.value.text
  have h2 := pHd_len' t k 11
  unfold pKe
  split
  · exact .inr h1
  · split
    · exact .inl (by omega)
    · exact .inl h2
theorem join_len (ns : List ByteArray) : (pNm ns).length ≤ 2 * (ns.map (fun x => x.size + 1)).sum := by
  unfold pNm
  have ht : ∀ l : List ByteArray, (Lib.joinTail [59, 32] (l.map (·.data.toList))).length ≤ 2 * (l.map (fun x => x.size + 1)).sum := by
    intro l
    induction l with
    | nil => simp [Lib.joinTail]
    | cons x r ih =>
      have h3 : x.data.toList.length = x.size := by rw [Array.length_toList]; rfl
      simp only [Lib.joinTail, List.map_cons, List.flatten_cons, List.length_append, List.sum_cons, List.length_cons, List.length_nil] at ih ⊢
      omega
  cases ns with
  | nil => simp [Lib.join_nil]
  | cons x r =>
    have h3 : x.data.toList.length = x.size := by rw [Array.length_toList]; rfl
    have := ht r
    rw [List.map_cons, Lib.join_cons, List.length_append]
    simp only [List.map_cons, List.sum_cons]
    omega

set_option maxHeartbeats 1600000 in
theorem shT_len : ∀ (h : Nat) (A : NT), fpN h A = true → (shT h A).length + 6 ≤ 8 * bkT h A
  | 0, _, hf => by cases hf
  | h + 1, A, hf => by
    obtain ⟨hm, hk⟩ := fp_open hf
    obtain ⟨r1, r2⟩ := mf_rng hm
    have hsh := shT_up h A
    simp only at hsh
    obtain ⟨K, hK⟩ : ∃ K, K = fun i => A.kids.getD i nn0 := ⟨_, rfl⟩
    obtain ⟨t, hT0⟩ : ∃ t, t = fun i => shT h (A.kids.getD i nn0) := ⟨_, rfl⟩
    obtain ⟨B, hB⟩ : ∃ B, B = fun i => bkT h (A.kids.getD i nn0) := ⟨_, rfl⟩
    have eK : ∀ i, A.kids.getD i nn0 = K i := fun i => by rw [hK]
    rw [← hK, ← hT0] at hsh
    have hbk : bkT (h + 1) A = 12 + A.text.size + A.value.num.size + A.value.text.size + (A.names.map (fun x => x.size + 1)).sum + smT B A.kids.length := by rw [bkT, hB]
    have hkf : ∀ i, i < A.kids.length → (A.op = 8 → 0 < i → (K i).op ≠ 0) → fpN h (K i) = true := fun i hi hn => kf_fm (by have := hk i hi; rw [eK] at this; exact this) hn
    have hL : ∀ i, i < A.kids.length → (A.op = 8 → 0 < i → (K i).op ≠ 0) → (t i).length + 6 ≤ 8 * B i := fun i hi hn => by
      have := shT_len h (K i) (hkf i hi hn)
      rw [hT0, hB]
      simp only [eK]
      exact this
    have hX : ∀ i, i < A.kids.length → (A.op = 8 → 0 < i → (K i).op ≠ 0) → (K i).value.text.size + 12 ≤ B i := fun i hi hn => by
      have hr := hkf i hi hn
      cases h with
      | zero => cases hr
      | succ h =>
        rw [hB]
        simp only [eK]
        rw [bkT]
        omega
    have hLL : A.op ≠ 8 → ∀ i, i < A.kids.length → (t i).length + 6 ≤ 8 * B i := fun h8 i hi => hL i hi (fun e => absurd e h8)
    have hXX : A.op ≠ 8 → ∀ i, i < A.kids.length → (K i).value.text.size + 12 ≤ B i := fun h8 i hi => hX i hi (fun e => absurd e h8)
    have htl : A.text.data.toList.length = A.text.size := by rw [Array.length_toList]; rfl
    have hnl : A.value.num.data.toList.length = A.value.num.size := by rw [Array.length_toList]; rfl
    have s1 : smT B 1 = B 0 := by simp [smT, List.range_succ]
    have s2 : smT B 2 = B 0 + B 1 := by simp [smT, List.range_succ]
    have s3 : smT B 3 = B 0 + B 1 + B 2 := by simp [smT, List.range_succ]; omega
    rw [hbk]
    by_cases k1 : A.op = 1
    · have e : shT (h + 1) A = [46] := by rw [hsh]; simp only [k1]; rfl
      rw [e]
      simp
      omega
    by_cases k2 : A.op = 2
    · have e : shT (h + 1) A = pCn A.value := by rw [hsh]; simp only [k2]; rfl
      rw [e]
      have q := pQt_len A.value.text
      unfold pCn
      split
      · simp; omega
      split
      · simp; omega
      split
      · simp; omega
      split
      · omega
      · omega
    by_cases k3 : A.op = 3
    · have e : shT (h + 1) A = sJoin K t A.kids.length := by rw [hsh]; simp only [k3]; rfl
      rw [e]
      have q : (fl (fun i => if i % 2 = 0 then pPc (K i).value.text else [92, 40] ++ (t i ++ [41])) A.kids.length).length ≤ 8 * smT B A.kids.length := fl_len (fun i hi => by
        have a1 := hLL (by omega) i hi
        have a2 := hXX (by omega) i hi
        have a3 := pPc_len (K i).value.text
        by_cases hz : i % 2 = 0
        · simp only [if_pos hz]; omega
        · simp only [if_neg hz, List.length_append, List.length_cons, List.length_nil]; omega)
      unfold sJoin
      unfold fl at q
      simp only [List.length_append, List.length_cons, List.length_nil]
      omega
    by_cases k4 : A.op = 4
    · have e : shT (h + 1) A = sList t A.kids.length := by rw [hsh]; simp only [k4]; rfl
      rw [e]
      have q : (pRw t A.kids.length).length ≤ 8 * smT B A.kids.length := by rw [pRw_fl]; exact fl_len (fun i hi => by have a1 := hLL (by omega) i (by omega); by_cases hz : 0 < i <;> simp [hz] <;> omega)
      unfold sList
      simp only [List.length_append, List.length_cons, List.length_nil]
      omega
    by_cases k5 : A.op = 5
    · have e : shT (h + 1) A = sRecord K t (A.kids.length / 2) := by rw [hsh]; simp only [k5]; rfl
      rw [e]
      have hN : A.kids.length = 2 * (A.kids.length / 2) := by
        rw [k5] at hm
        simp [mfB] at hm
        omega
      have q : (fl (fun i => (if 0 < i then [44, 32] else []) ++ (pKe (t (2 * i)) (K (2 * i)) ++ ([58, 32] ++ pHd (t (2 * i + 1)) (K (2 * i + 1)) 3))) (A.kids.length / 2)).length ≤ 8 * smT B (2 * (A.kids.length / 2)) := fl_len2 (fun i hi => by
        have a1 := hLL (by omega) (2 * i) (by omega)
        have a2 := hXX (by omega) (2 * i) (by omega)
        have a3 := hLL (by omega) (2 * i + 1) (by omega)
        have a4 := pKe_len2 (t (2 * i)) (K (2 * i))
        have a5 := pHd_len' (t (2 * i + 1)) (K (2 * i + 1)) 3
        by_cases hz : 0 < i <;> simp [hz] <;> omega)
      rw [← hN] at q
      unfold sRecord
      unfold fl at q
      simp only [List.length_append, List.length_cons, List.length_nil]
      omega
    by_cases k6 : A.op = 6
    · have e : shT (h + 1) A = sVar A.op A.text := by rw [hsh]; simp only [k6]; rfl
      rw [e]
      unfold sVar
      split <;> simp only [List.length_append, List.length_cons, List.length_nil] <;> omega
    by_cases k35 : A.op = 35
    · have e : shT (h + 1) A = sVar A.op A.text := by rw [hsh]; simp only [k35]; rfl
      rw [e]
      unfold sVar
      split <;> simp only [List.length_append, List.length_cons, List.length_nil] <;> omega
    by_cases k7 : A.op = 7
    · have e : shT (h + 1) A = sIndex K t := by rw [hsh]; simp only [k7]; rfl
      rw [e]
      have hN : A.kids.length = 2 := by
        rw [k7] at hm
        simp [mfB] at hm
        omega
      have l0 := hLL (by omega) 0 (by omega)
      have l1 := hLL (by omega) 1 (by omega)
      have x1 := hXX (by omega) 1 (by omega)
      have d0 := pBs_len (t 0) (K 0)
      have e1 : (K 1).value.text.data.toList.length = (K 1).value.text.size := by rw [Array.length_toList]; rfl
      rw [hN, s2]
      unfold sIndex
      split
      · split <;> simp only [List.length_append, List.length_cons, List.length_nil] <;> omega
      · simp only [List.length_append, List.length_cons, List.length_nil]; omega
    by_cases k8 : A.op = 8
    · have e : shT (h + 1) A = sSlice K t := by rw [hsh]; simp only [k8]; rfl
      rw [e]
      have hN : A.kids.length = 3 := by
        rw [k8] at hm
        simp [mfB] at hm
        omega
      have l0 := hL 0 (by omega) (fun _ h => absurd h (Nat.lt_irrefl 0))
      have d0 := pBs_len (t 0) (K 0)
      have en : ∀ i, i < 3 → (pEn (t i) (K i)).length ≤ 8 * B i := fun i hi => by
        unfold pEn
        by_cases hz : (K i).op = 0
        · rw [if_pos hz]; simp
        · rw [if_neg hz]; have := hL i (by omega) (fun _ _ => hz); omega
      have e1 := en 1 (by omega)
      have e2 := en 2 (by omega)
      rw [hN, s3]
      unfold sSlice
      simp only [List.length_append, List.length_cons, List.length_nil]
      omega
    by_cases k9 : A.op = 9
    · have e : shT (h + 1) A = sEach K t := by rw [hsh]; simp only [k9]; rfl
      rw [e]
      have hN : A.kids.length = 1 := by
        rw [k9] at hm
        simp [mfB] at hm
        omega
      have l0 := hLL (by omega) 0 (by omega)
      have d0 := pBs_len (t 0) (K 0)
      rw [hN, s1]
      unfold sEach
      simp only [List.length_append, List.length_cons, List.length_nil]
      omega
    by_cases k10 : A.op = 10
    · have e : shT (h + 1) A = sTry K t A.kids.length := by rw [hsh]; simp only [k10]; rfl
      rw [e]
      have hN : A.kids.length = 1 ∨ A.kids.length = 2 := by
        rw [k10] at hm
        simp [mfB] at hm
        omega
      unfold sTry
      rcases hN with hN | hN
      · have l0 := hLL (by omega) 0 (by omega)
        have d0 := pBs_len (t 0) (K 0)
        rw [hN, s1, if_pos rfl]
        simp only [List.length_append, List.length_cons, List.length_nil]
        omega
      · have l0 := hLL (by omega) 0 (by omega)
        have l1 := hLL (by omega) 1 (by omega)
        have d0 := pHd_len' (t 0) (K 0) 10
        have d1 := pHd_len' (t 1) (K 1) 10
        rw [hN, s2, if_neg (by decide)]
        simp only [List.length_append, List.length_cons, List.length_nil]
        omega
    by_cases k11 : A.op = 11
    · have e : shT (h + 1) A = sNeg K t := by rw [hsh]; simp only [k11]; rfl
      rw [e]
      have hN : A.kids.length = 1 := by
        rw [k11] at hm
        simp [mfB] at hm
        omega
      have l0 := hLL (by omega) 0 (by omega)
      have d0 := pHd_len' (t 0) (K 0) 9
      rw [hN, s1]
      unfold sNeg
      split <;> simp only [List.length_append, List.length_cons, List.length_nil] <;> omega
    by_cases k28 : A.op = 28
    · have e : shT (h + 1) A = sIf t := by rw [hsh]; simp only [k28]; rfl
      rw [e]
      have hN : A.kids.length = 3 := by
        rw [k28] at hm
        simp [mfB] at hm
        omega
      have l0 := hLL (by omega) 0 (by omega)
      have l1 := hLL (by omega) 1 (by omega)
      have l2 := hLL (by omega) 2 (by omega)
      rw [hN, s3]
      unfold sIf
      simp only [List.length_append, List.length_cons, List.length_nil]
      omega
    by_cases k29 : A.op = 29
    · have e : shT (h + 1) A = sBind K t A.text := by rw [hsh]; simp only [k29]; rfl
      rw [e]
      have hN : A.kids.length = 2 := by
        rw [k29] at hm
        simp [mfB] at hm
        omega
      have l0 := hLL (by omega) 0 (by omega)
      have l1 := hLL (by omega) 1 (by omega)
      have d0 := pHd_len' (t 0) (K 0) 10
      rw [hN, s2]
      unfold sBind sSrc
      simp only [List.length_append, List.length_cons, List.length_nil]
      omega
    by_cases k30 : A.op = 30
    · have e : shT (h + 1) A = sLoop A.op K t A.text A.kids.length := by rw [hsh]; simp only [k30]; rfl
      rw [e]
      have hN : A.kids.length = 3 := by
        rw [k30] at hm
        simp [mfB] at hm
        omega
      have l0 := hLL (by omega) 0 (by omega)
      have d0 := pHd_len' (t 0) (K 0) 10
      have q : (pRw (fun i => t (i + 1)) (A.kids.length - 1)).length + 8 * B 0 ≤ 8 * smT B A.kids.length := by
        have q1 : (pRw (fun i => t (i + 1)) (A.kids.length - 1)).length ≤ 8 * smT (fun i => B (i + 1)) (A.kids.length - 1) := by rw [pRw_fl]; exact fl_len (fun i hi => by have a1 := hLL (by omega) (i + 1) (by omega); by_cases hz : 0 < i <;> simp [hz] <;> omega)
        have q2 := smT_tail B (n := A.kids.length) (by omega)
        omega
      unfold sLoop sSrc
      split <;> simp only [List.length_append, List.length_cons, List.length_nil] <;> omega
    by_cases k31 : A.op = 31
    · have e : shT (h + 1) A = sLoop A.op K t A.text A.kids.length := by rw [hsh]; simp only [k31]; rfl
      rw [e]
      have hN : A.kids.length = 3 ∨ A.kids.length = 4 := by
        rw [k31] at hm
        simp [mfB] at hm
        omega
      have l0 := hLL (by omega) 0 (by omega)
      have d0 := pHd_len' (t 0) (K 0) 10
      have q : (pRw (fun i => t (i + 1)) (A.kids.length - 1)).length + 8 * B 0 ≤ 8 * smT B A.kids.length := by
        have q1 : (pRw (fun i => t (i + 1)) (A.kids.length - 1)).length ≤ 8 * smT (fun i => B (i + 1)) (A.kids.length - 1) := by rw [pRw_fl]; exact fl_len (fun i hi => by have a1 := hLL (by omega) (i + 1) (by omega); by_cases hz : 0 < i <;> simp [hz] <;> omega)
        have q2 := smT_tail B (n := A.kids.length) (by omega)
        omega
      unfold sLoop sSrc
      split <;> simp only [List.length_append, List.length_cons, List.length_nil] <;> omega
    by_cases k32 : A.op = 32
    · have e : shT (h + 1) A = sDef t A.text A.names := by rw [hsh]; simp only [k32]; rfl
      rw [e]
      have hN : A.kids.length = 2 := by
        rw [k32] at hm
        simp [mfB] at hm
        omega
      have q : (pRw t 2).length ≤ 8 * smT B 2 := by rw [pRw_fl]; exact fl_len (fun i hi => by have a1 := hLL (by omega) i (by omega); by_cases hz : 0 < i <;> simp [hz] <;> omega)
      have jl := join_len A.names
      rw [hN]
      unfold sDef
      split <;> simp only [List.length_append, List.length_cons, List.length_nil] <;> omega
    by_cases k33 : A.op = 33
    · have e : shT (h + 1) A = sCall t A.text A.kids.length := by rw [hsh]; simp only [k33]; rfl
      rw [e]
      have q : (pRw t A.kids.length).length ≤ 8 * smT B A.kids.length := by rw [pRw_fl]; exact fl_len (fun i hi => by have a1 := hLL (by omega) i (by omega); by_cases hz : 0 < i <;> simp [hz] <;> omega)
      unfold sCall
      split <;> simp only [List.length_append, List.length_cons, List.length_nil] <;> omega
    by_cases k34 : A.op = 34
    · have e : shT (h + 1) A = sLabel t A.text := by rw [hsh]; simp only [k34]; rfl
      rw [e]
      have hN : A.kids.length = 1 := by
        rw [k34] at hm
        simp [mfB] at hm
        omega
      have l0 := hLL (by omega) 0 (by omega)
      rw [hN, s1]
      unfold sLabel
      simp only [List.length_append, List.length_cons, List.length_nil]
      omega
    have e : shT (h + 1) A = sOp A.op K t := by
      rw [hsh, if_neg k1, if_neg k2, if_neg k3, if_neg k4, if_neg k5, if_neg (by omega), if_neg k7, if_neg k8, if_neg k9, if_neg k10, if_neg k11, if_neg k28, if_neg k29, if_neg (by omega), if_neg k32, if_neg k33, if_neg k34]
    have hN : A.kids.length = 2 := by
      unfold mfB at hm
      rw [if_neg (by omega), if_neg (by omega), if_neg (by omega), if_neg (by omega), if_neg (by omega), if_neg (by omega), if_neg (by omega), if_neg (by omega), if_neg (by omega), if_neg (by omega)] at hm
      simp only [Bool.and_eq_true] at hm
      have := eq_of_beq hm.1
      omega
    have l0 := hLL k8 0 (by omega)
    have l1 := hLL k8 1 (by omega)
    have d0 := pHd_len' (t 0) (K 0) ((pRow A.op).2.2.1 : Int)
    have d1 := pHd_len' (t 1) (K 1) ((pRow A.op).2.2.2 : Int)
    have sg := sg_len A.op
    rw [e, hN, s2]
    unfold sOp
    simp only [List.length_append]
    omega
theorem bk_kid {h : Nat} {A : NT} {i : Nat} (hi : i < A.kids.length) : bkT h (A.kids.getD i nn0) ≤ bkT (h + 1) A := by
  have := smT_get (fun i => bkT h (A.kids.getD i nn0)) hi
  rw [bkT]
  omega
theorem tx_of_bk : ∀ (h : Nat) (A : NT), bkT h A ≤ 1048576 → TxB h A
  | 0, _, _ => trivial
  | h + 1, A, hb => ⟨by rw [bkT] at hb; omega, fun i hi => tx_of_bk h _ (Nat.le_trans (bk_kid hi) hb)⟩
end Go.Proofs.YtdjleoglphgdgaaGreatDoor
namespace Go.Proofs.YtdjleoglphgdgaaGreatDoor
open Go.RowKit Go.Shelf Go.Sort
set_option linter.unusedVariables false
set_option linter.unusedSimpArgs false

/-- filters that are the same but for the places have one text -/
theorem shT_noA : ∀ (h : Nat) (A B : NT), noA A = noA B → shT h A = shT h B
  | 0, _, _, _ => rfl
  | h + 1, A, B, e => by
    obtain ⟨e1, e2, e3, e4, e5⟩ := noA_eq.1 e
    have hl : A.kids.length = B.kids.length := noAs_len_eq e5
    have hk : ∀ i, noA (A.kids.getD i nn0) = noA (B.kids.getD i nn0) := fun i => by
      by_cases hi : i < A.kids.length
      · rw [getD_kid hi, getD_kid (show i < B.kids.length by omega)]
        exact noAs_at e5 hi (by omega)
      · have h1 : A.kids.getD i nn0 = nn0 := by rw [List.getD_eq_getElem?_getD, List.getElem?_eq_none (by omega)]; rfl
        have h2 : B.kids.getD i nn0 = nn0 := by rw [List.getD_eq_getElem?_getD, List.getElem?_eq_none (by omega)]; rfl
        rw [h1, h2]
    have ht : (fun i => shT h (A.kids.getD i nn0)) = fun i => shT h (B.kids.getD i nn0) := funext fun i => shT_noA h _ _ (hk i)
    have ho : ∀ i, (A.kids.getD i nn0).op = (B.kids.getD i nn0).op := fun i => (noA_eq.1 (hk i)).1
    have hv : ∀ i, (A.kids.getD i nn0).value = (B.kids.getD i nn0).value := fun i => (noA_eq.1 (hk i)).2.2.1
    have hn : ∀ i, (A.kids.getD i nn0).kids.length = (B.kids.getD i nn0).kids.length := fun i => noAs_len_eq (noA_eq.1 (hk i)).2.2.2.2
    have hlo : ∀ i, pLo (A.kids.getD i nn0) = pLo (B.kids.getD i nn0) := fun i => by unfold pLo; rw [ho i, hn i]
    have hHd : ∀ t i n, pHd t (A.kids.getD i nn0) n = pHd t (B.kids.getD i nn0) n := fun t i n => by unfold pHd; rw [hlo i]
    have hBs : ∀ t i, pBs t (A.kids.getD i nn0) = pBs t (B.kids.getD i nn0) := fun t i => by unfold pBs; rw [ho i, hv i, hHd]
    have hEn : ∀ t i, pEn t (A.kids.getD i nn0) = pEn t (B.kids.getD i nn0) := fun t i => by unfold pEn; rw [ho i]
    have hTx : ∀ i, pTx (A.kids.getD i nn0) = pTx (B.kids.getD i nn0) := fun i => by unfold pTx; rw [ho i, hv i]
    have hKe : ∀ t i, pKe t (A.kids.getD i nn0) = pKe t (B.kids.getD i nn0) := fun t i => by unfold pKe; rw [hTx i, ho i, hv i, hHd]
    rw [shT_up, shT_up]
    simp only
    have j1 : ∀ t n, sJoin (fun i => A.kids.getD i nn0) t n = sJoin (fun i => B.kids.getD i nn0) t n := fun t n => by unfold sJoin; simp only [hv]
    have j2 : ∀ t n, sRecord (fun i => A.kids.getD i nn0) t n = sRecord (fun i => B.kids.getD i nn0) t n := fun t n => by unfold sRecord; simp only [hKe, hHd]
    have j3 : ∀ t, sIndex (fun i => A.kids.getD i nn0) t = sIndex (fun i => B.kids.getD i nn0) t := fun t => by unfold sIndex; simp only [hBs, hTx, hv, ho]
    have j4 : ∀ t, sSlice (fun i => A.kids.getD i nn0) t = sSlice (fun i => B.kids.getD i nn0) t := fun t => by unfold sSlice; simp only [hBs, hEn]
    have j5 : ∀ t, sEach (fun i => A.kids.getD i nn0) t = sEach (fun i => B.kids.getD i nn0) t := fun t => by unfold sEach; simp only [hBs]
    have j6 : ∀ t n, sTry (fun i => A.kids.getD i nn0) t n = sTry (fun i => B.kids.getD i nn0) t n := fun t n => by unfold sTry; simp only [hBs, hHd]
    have j7 : ∀ t, sNeg (fun i => A.kids.getD i nn0) t = sNeg (fun i => B.kids.getD i nn0) t := fun t => by unfold sNeg; simp only [hHd, ho]
    have j8 : ∀ t x, sSrc (fun i => A.kids.getD i nn0) t x = sSrc (fun i => B.kids.getD i nn0) t x := fun t x => by unfold sSrc; simp only [hHd]
    have j9 : ∀ t x, sBind (fun i => A.kids.getD i nn0) t x = sBind (fun i => B.kids.getD i nn0) t x := fun t x => by unfold sBind; rw [j8]
    have ja : ∀ op t x n, sLoop op (fun i => A.kids.getD i nn0) t x n = sLoop op (fun i => B.kids.getD i nn0) t x n := fun op t x n => by unfold sLoop; rw [j8]
    have jb : ∀ op t, sOp op (fun i => A.kids.getD i nn0) t = sOp op (fun i => B.kids.getD i nn0) t := fun op t => by unfold sOp; simp only [hHd]
    rw [ht, e1, e2, e3, e4, hl, j1, j2, j3, j4, j5, j6, j7, j9, ja, jb]
end Go.Proofs.YtdjleoglphgdgaaGreatDoor
