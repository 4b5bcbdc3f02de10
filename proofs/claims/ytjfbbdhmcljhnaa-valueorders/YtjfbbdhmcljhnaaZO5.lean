import Derived.Test.YtjfbbdhmcljhnaaZO4
import Derived.Laws.EntriesVeiled
import Derived.Deep.RegionHeld3
namespace Go.Proofs.Ytjfbbdhmcljhnaa
open Go.RowKit
set_option linter.unusedVariables false
set_option linter.unusedSimpArgs false
theorem VB2.drew {w u : World} {a b c d e b' c' d' e' : Value} (h : VB2 w u a b c d e b' c' d' e') : VB2 w u.drew a b c d e b' c' d' e' := ⟨h.one.drew, h.two.drew⟩
/-- what value.Cmp holds when it hands on -/
structure VCm (w w2 u : World) (k : Nat) (f a b c d e b' c' d' e' : Value) : Prop where
  v : VB2 w u a b c d e b' c' d' e'
  way : u.cell? ⟨w2.heap.size, k, none⟩ = some f
  lt : w2.heap.size < u.heap.size
theorem VCm.keep {w w2 u u' : World} {k : Nat} {f a b c d e b' c' d' e' : Value} (h : VCm w w2 u k f a b c d e b' c' d' e') (hb : Below u.heap.size u u') : VCm w w2 u' k f a b c d e b' c' d' e' :=
  ⟨h.v.keep hb, (hb.cell (p := ⟨_, _, _⟩) h.lt).trans h.way, Nat.lt_of_lt_of_le h.lt hb.size⟩
theorem VCm.drew {w w2 u : World} {k : Nat} {f a b c d e b' c' d' e' : Value} (h : VCm w w2 u k f a b c d e b' c' d' e') : VCm w w2 u.drew k f a b c d e b' c' d' e' := ⟨h.v.drew, h.way, h.lt⟩

set_option maxRecDepth 100000 in
set_option maxHeartbeats 3200000 in
theorem vcmp_0 (w : World) (an at_ : ByteArray) (aio : Option Addr) (aN aic : Nat) (ako : Option Addr) (aK akc : Nat) (bn bt : ByteArray) (bio : Option Addr) (bN bic : Nat) (bko : Option Addr) (bK bkc : Nat) (c : Int) (HF : Hid (∀ u, Below w.heap.size w u → Calls Try.prog 62 #[.agg #[.int .i64 0, .string an, .string at_, .slice aio aN aic, .slice ako aK akc], .agg #[.int .i64 0, .string bn, .string bt, .slice bio bN bic, .slice bko bK bkc]] u fun e w' => e = .returned (.int .i64 c) ∧ Below u.heap.size u w')) :
    Calls Try.prog 14 #[.agg #[.int .i64 0, .string an, .string at_, .slice aio aN aic, .slice ako aK akc], .agg #[.int .i64 0, .string bn, .string bt, .slice bio bN bic, .slice bko bK bkc]] w fun e w' => e = .returned (.int .i64 c) ∧ Below w.heap.size w w' := by
  have HX := Hid.mk (vb2_new w (.int .i64 0) (.string an) (.string at_) (.slice aio aN aic) (.slice ako aK akc) (.string bn) (.string bt) (.slice bio bN bic) (.slice bko bK bkc))
  go_enter Try.func14, Try.ntmps14
  go_wp2_with fail
  refine (w_deciders _).mono ?_
  rintro e w2 ⟨rfl, hw2⟩
  have HL : Hid (VCm w w2 (w2.alloc (.cells #[.func (.func 62) #[] #[], .func (.func 62) #[] #[], .func (.func 62) #[] #[], .func (.func 63) #[] #[], .func (.func 64) #[] #[], .func (.func 65) #[] #[], .func (.func 66) #[] #[]] 54)) 0 (.func (.func 62) #[] #[]) (.int .i64 0) (.string an) (.string at_) (.slice aio aN aic) (.slice ako aK akc) (.string bn) (.string bt) (.slice bio bN bic) (.slice bko bK bkc)) := ⟨(HX.out.keep hw2).keep (below1 w2 _), by simp [go_sem], by simp⟩
  have HG : Hid (∀ u, VCm w w2 u 0 (.func (.func 62) #[] #[]) (.int .i64 0) (.string an) (.string at_) (.slice aio aN aic) (.slice ako aK akc) (.string bn) (.string bt) (.slice bio bN bic) (.slice bko bK bkc) → Calls Try.prog 62 #[.agg #[.int .i64 0, .string an, .string at_, .slice aio aN aic, .slice ako aK akc], .agg #[.int .i64 0, .string bn, .string bt, .slice bio bN bic, .slice bko bK bkc]] u fun e w' => e = .returned (.int .i64 c) ∧ Hid (VCm w w2 w' 0 (.func (.func 62) #[] #[]) (.int .i64 0) (.string an) (.string at_) (.slice aio aN aic) (.slice ako aK akc) (.string bn) (.string bt) (.slice bio bN bic) (.slice bko bK bkc))) := fun u hu => (HF.out u hu.v.one.below).mono fun e w' ⟨he, hb⟩ => ⟨he, hu.keep hb⟩
  clear hw2 HX HF
  have p0 := HL.out.v.one.c0
  have p1 := HL.out.v.one.c1
  have p2 := HL.out.v.one.c2
  have p3 := HL.out.v.one.c3
  have p4 := HL.out.v.one.c4
  have q0 := HL.out.v.d0
  have q1 := HL.out.v.d1
  have q2 := HL.out.v.d2
  have q3 := HL.out.v.d3
  have q4 := HL.out.v.d4
  go_wp2_with fail
  go_region_held3 (fun u => u.cell? ⟨w.heap.size, 0, none⟩ = some (.int .i64 0) ∧ u.cell? ⟨w.heap.size, 1, none⟩ = some (.string an) ∧ u.cell? ⟨w.heap.size, 2, none⟩ = some (.string at_) ∧ u.cell? ⟨w.heap.size, 3, none⟩ = some (.slice aio aN aic) ∧ u.cell? ⟨w.heap.size, 4, none⟩ = some (.slice ako aK akc) ∧ u.cell? ⟨w.heap.size + 1, 0, none⟩ = some (.int .i64 0) ∧ u.cell? ⟨w.heap.size + 1, 1, none⟩ = some (.string bn) ∧ u.cell? ⟨w.heap.size + 1, 2, none⟩ = some (.string bt) ∧ u.cell? ⟨w.heap.size + 1, 3, none⟩ = some (.slice bio bN bic) ∧ u.cell? ⟨w.heap.size + 1, 4, none⟩ = some (.slice bko bK bkc) ∧ u.cell? ⟨w2.heap.size, 0, none⟩ = some (.func (.func 62) #[] #[])) (exact ⟨HL.out.v.one.c0, HL.out.v.one.c1, HL.out.v.one.c2, HL.out.v.one.c3, HL.out.v.one.c4, HL.out.v.d0, HL.out.v.d1, HL.out.v.d2, HL.out.v.d3, HL.out.v.d4, HL.out.way⟩) (first | (go_at_call 62; refine (HG.out _ (by first | exact HL.out | exact HL.out.drew)).mono ?_; rintro e w4 ⟨rfl, HL⟩))
  all_goals clear p0 p1 p2 p3 p4 q0 q1 q2 q3 q4
  all_goals go_wp2_with fail
  all_goals go_ret
  all_goals exact ⟨rfl, HL.out.v.one.below⟩

set_option maxRecDepth 100000 in
set_option maxHeartbeats 3200000 in
theorem vcmp_1 (w : World) (an at_ : ByteArray) (aio : Option Addr) (aN aic : Nat) (ako : Option Addr) (aK akc : Nat) (bn bt : ByteArray) (bio : Option Addr) (bN bic : Nat) (bko : Option Addr) (bK bkc : Nat) (c : Int) (HF : Hid (∀ u, Below w.heap.size w u → Calls Try.prog 62 #[.agg #[.int .i64 1, .string an, .string at_, .slice aio aN aic, .slice ako aK akc], .agg #[.int .i64 1, .string bn, .string bt, .slice bio bN bic, .slice bko bK bkc]] u fun e w' => e = .returned (.int .i64 c) ∧ Below u.heap.size u w')) :
    Calls Try.prog 14 #[.agg #[.int .i64 1, .string an, .string at_, .slice aio aN aic, .slice ako aK akc], .agg #[.int .i64 1, .string bn, .string bt, .slice bio bN bic, .slice bko bK bkc]] w fun e w' => e = .returned (.int .i64 c) ∧ Below w.heap.size w w' := by
  have HX := Hid.mk (vb2_new w (.int .i64 1) (.string an) (.string at_) (.slice aio aN aic) (.slice ako aK akc) (.string bn) (.string bt) (.slice bio bN bic) (.slice bko bK bkc))
  go_enter Try.func14, Try.ntmps14
  go_wp2_with fail
  refine (w_deciders _).mono ?_
  rintro e w2 ⟨rfl, hw2⟩
  have HL : Hid (VCm w w2 (w2.alloc (.cells #[.func (.func 62) #[] #[], .func (.func 62) #[] #[], .func (.func 62) #[] #[], .func (.func 63) #[] #[], .func (.func 64) #[] #[], .func (.func 65) #[] #[], .func (.func 66) #[] #[]] 54)) 1 (.func (.func 62) #[] #[]) (.int .i64 1) (.string an) (.string at_) (.slice aio aN aic) (.slice ako aK akc) (.string bn) (.string bt) (.slice bio bN bic) (.slice bko bK bkc)) := ⟨(HX.out.keep hw2).keep (below1 w2 _), by simp [go_sem], by simp⟩
  have HG : Hid (∀ u, VCm w w2 u 1 (.func (.func 62) #[] #[]) (.int .i64 1) (.string an) (.string at_) (.slice aio aN aic) (.slice ako aK akc) (.string bn) (.string bt) (.slice bio bN bic) (.slice bko bK bkc) → Calls Try.prog 62 #[.agg #[.int .i64 1, .string an, .string at_, .slice aio aN aic, .slice ako aK akc], .agg #[.int .i64 1, .string bn, .string bt, .slice bio bN bic, .slice bko bK bkc]] u fun e w' => e = .returned (.int .i64 c) ∧ Hid (VCm w w2 w' 1 (.func (.func 62) #[] #[]) (.int .i64 1) (.string an) (.string at_) (.slice aio aN aic) (.slice ako aK akc) (.string bn) (.string bt) (.slice bio bN bic) (.slice bko bK bkc))) := fun u hu => (HF.out u hu.v.one.below).mono fun e w' ⟨he, hb⟩ => ⟨he, hu.keep hb⟩
  clear hw2 HX HF
  have p0 := HL.out.v.one.c0
  have p1 := HL.out.v.one.c1
  have p2 := HL.out.v.one.c2
  have p3 := HL.out.v.one.c3
  have p4 := HL.out.v.one.c4
  have q0 := HL.out.v.d0
  have q1 := HL.out.v.d1
  have q2 := HL.out.v.d2
  have q3 := HL.out.v.d3
  have q4 := HL.out.v.d4
  go_wp2_with fail
  go_region_held3 (fun u => u.cell? ⟨w.heap.size, 0, none⟩ = some (.int .i64 1) ∧ u.cell? ⟨w.heap.size, 1, none⟩ = some (.string an) ∧ u.cell? ⟨w.heap.size, 2, none⟩ = some (.string at_) ∧ u.cell? ⟨w.heap.size, 3, none⟩ = some (.slice aio aN aic) ∧ u.cell? ⟨w.heap.size, 4, none⟩ = some (.slice ako aK akc) ∧ u.cell? ⟨w.heap.size + 1, 0, none⟩ = some (.int .i64 1) ∧ u.cell? ⟨w.heap.size + 1, 1, none⟩ = some (.string bn) ∧ u.cell? ⟨w.heap.size + 1, 2, none⟩ = some (.string bt) ∧ u.cell? ⟨w.heap.size + 1, 3, none⟩ = some (.slice bio bN bic) ∧ u.cell? ⟨w.heap.size + 1, 4, none⟩ = some (.slice bko bK bkc) ∧ u.cell? ⟨w2.heap.size, 1, none⟩ = some (.func (.func 62) #[] #[])) (exact ⟨HL.out.v.one.c0, HL.out.v.one.c1, HL.out.v.one.c2, HL.out.v.one.c3, HL.out.v.one.c4, HL.out.v.d0, HL.out.v.d1, HL.out.v.d2, HL.out.v.d3, HL.out.v.d4, HL.out.way⟩) (first | (go_at_call 62; refine (HG.out _ (by first | exact HL.out | exact HL.out.drew)).mono ?_; rintro e w4 ⟨rfl, HL⟩))
  all_goals clear p0 p1 p2 p3 p4 q0 q1 q2 q3 q4
  all_goals go_wp2_with fail
  all_goals go_ret
  all_goals exact ⟨rfl, HL.out.v.one.below⟩

set_option maxRecDepth 100000 in
set_option maxHeartbeats 3200000 in
theorem vcmp_2 (w : World) (an at_ : ByteArray) (aio : Option Addr) (aN aic : Nat) (ako : Option Addr) (aK akc : Nat) (bn bt : ByteArray) (bio : Option Addr) (bN bic : Nat) (bko : Option Addr) (bK bkc : Nat) (c : Int) (HF : Hid (∀ u, Below w.heap.size w u → Calls Try.prog 62 #[.agg #[.int .i64 2, .string an, .string at_, .slice aio aN aic, .slice ako aK akc], .agg #[.int .i64 2, .string bn, .string bt, .slice bio bN bic, .slice bko bK bkc]] u fun e w' => e = .returned (.int .i64 c) ∧ Below u.heap.size u w')) :
    Calls Try.prog 14 #[.agg #[.int .i64 2, .string an, .string at_, .slice aio aN aic, .slice ako aK akc], .agg #[.int .i64 2, .string bn, .string bt, .slice bio bN bic, .slice bko bK bkc]] w fun e w' => e = .returned (.int .i64 c) ∧ Below w.heap.size w w' := by
  have HX := Hid.mk (vb2_new w (.int .i64 2) (.string an) (.string at_) (.slice aio aN aic) (.slice ako aK akc) (.string bn) (.string bt) (.slice bio bN bic) (.slice bko bK bkc))
  go_enter Try.func14, Try.ntmps14
  go_wp2_with fail
  refine (w_deciders _).mono ?_
  rintro e w2 ⟨rfl, hw2⟩
  have HL : Hid (VCm w w2 (w2.alloc (.cells #[.func (.func 62) #[] #[], .func (.func 62) #[] #[], .func (.func 62) #[] #[], .func (.func 63) #[] #[], .func (.func 64) #[] #[], .func (.func 65) #[] #[], .func (.func 66) #[] #[]] 54)) 2 (.func (.func 62) #[] #[]) (.int .i64 2) (.string an) (.string at_) (.slice aio aN aic) (.slice ako aK akc) (.string bn) (.string bt) (.slice bio bN bic) (.slice bko bK bkc)) := ⟨(HX.out.keep hw2).keep (below1 w2 _), by simp [go_sem], by simp⟩
  have HG : Hid (∀ u, VCm w w2 u 2 (.func (.func 62) #[] #[]) (.int .i64 2) (.string an) (.string at_) (.slice aio aN aic) (.slice ako aK akc) (.string bn) (.string bt) (.slice bio bN bic) (.slice bko bK bkc) → Calls Try.prog 62 #[.agg #[.int .i64 2, .string an, .string at_, .slice aio aN aic, .slice ako aK akc], .agg #[.int .i64 2, .string bn, .string bt, .slice bio bN bic, .slice bko bK bkc]] u fun e w' => e = .returned (.int .i64 c) ∧ Hid (VCm w w2 w' 2 (.func (.func 62) #[] #[]) (.int .i64 2) (.string an) (.string at_) (.slice aio aN aic) (.slice ako aK akc) (.string bn) (.string bt) (.slice bio bN bic) (.slice bko bK bkc))) := fun u hu => (HF.out u hu.v.one.below).mono fun e w' ⟨he, hb⟩ => ⟨he, hu.keep hb⟩
  clear hw2 HX HF
  have p0 := HL.out.v.one.c0
  have p1 := HL.out.v.one.c1
  have p2 := HL.out.v.one.c2
  have p3 := HL.out.v.one.c3
  have p4 := HL.out.v.one.c4
  have q0 := HL.out.v.d0
  have q1 := HL.out.v.d1
  have q2 := HL.out.v.d2
  have q3 := HL.out.v.d3
  have q4 := HL.out.v.d4
  go_wp2_with fail
  go_region_held3 (fun u => u.cell? ⟨w.heap.size, 0, none⟩ = some (.int .i64 2) ∧ u.cell? ⟨w.heap.size, 1, none⟩ = some (.string an) ∧ u.cell? ⟨w.heap.size, 2, none⟩ = some (.string at_) ∧ u.cell? ⟨w.heap.size, 3, none⟩ = some (.slice aio aN aic) ∧ u.cell? ⟨w.heap.size, 4, none⟩ = some (.slice ako aK akc) ∧ u.cell? ⟨w.heap.size + 1, 0, none⟩ = some (.int .i64 2) ∧ u.cell? ⟨w.heap.size + 1, 1, none⟩ = some (.string bn) ∧ u.cell? ⟨w.heap.size + 1, 2, none⟩ = some (.string bt) ∧ u.cell? ⟨w.heap.size + 1, 3, none⟩ = some (.slice bio bN bic) ∧ u.cell? ⟨w.heap.size + 1, 4, none⟩ = some (.slice bko bK bkc) ∧ u.cell? ⟨w2.heap.size, 2, none⟩ = some (.func (.func 62) #[] #[])) (exact ⟨HL.out.v.one.c0, HL.out.v.one.c1, HL.out.v.one.c2, HL.out.v.one.c3, HL.out.v.one.c4, HL.out.v.d0, HL.out.v.d1, HL.out.v.d2, HL.out.v.d3, HL.out.v.d4, HL.out.way⟩) (first | (go_at_call 62; refine (HG.out _ (by first | exact HL.out | exact HL.out.drew)).mono ?_; rintro e w4 ⟨rfl, HL⟩))
  all_goals clear p0 p1 p2 p3 p4 q0 q1 q2 q3 q4
  all_goals go_wp2_with fail
  all_goals go_ret
  all_goals exact ⟨rfl, HL.out.v.one.below⟩

set_option maxRecDepth 100000 in
set_option maxHeartbeats 3200000 in
theorem vcmp_3 (w : World) (an at_ : ByteArray) (aio : Option Addr) (aN aic : Nat) (ako : Option Addr) (aK akc : Nat) (bn bt : ByteArray) (bio : Option Addr) (bN bic : Nat) (bko : Option Addr) (bK bkc : Nat) (c : Int) (HF : Hid (∀ u, Below w.heap.size w u → Calls Try.prog 63 #[.agg #[.int .i64 3, .string an, .string at_, .slice aio aN aic, .slice ako aK akc], .agg #[.int .i64 3, .string bn, .string bt, .slice bio bN bic, .slice bko bK bkc]] u fun e w' => e = .returned (.int .i64 c) ∧ Below u.heap.size u w')) :
    Calls Try.prog 14 #[.agg #[.int .i64 3, .string an, .string at_, .slice aio aN aic, .slice ako aK akc], .agg #[.int .i64 3, .string bn, .string bt, .slice bio bN bic, .slice bko bK bkc]] w fun e w' => e = .returned (.int .i64 c) ∧ Below w.heap.size w w' := by
  have HX := Hid.mk (vb2_new w (.int .i64 3) (.string an) (.string at_) (.slice aio aN aic) (.slice ako aK akc) (.string bn) (.string bt) (.slice bio bN bic) (.slice bko bK bkc))
  go_enter Try.func14, Try.ntmps14
  go_wp2_with fail
  refine (w_deciders _).mono ?_
  rintro e w2 ⟨rfl, hw2⟩
  have HL : Hid (VCm w w2 (w2.alloc (.cells #[.func (.func 62) #[] #[], .func (.func 62) #[] #[], .func (.func 62) #[] #[], .func (.func 63) #[] #[], .func (.func 64) #[] #[], .func (.func 65) #[] #[], .func (.func 66) #[] #[]] 54)) 3 (.func (.func 63) #[] #[]) (.int .i64 3) (.string an) (.string at_) (.slice aio aN aic) (.slice ako aK akc) (.string bn) (.string bt) (.slice bio bN bic) (.slice bko bK bkc)) := ⟨(HX.out.keep hw2).keep (below1 w2 _), by simp [go_sem], by simp⟩
  have HG : Hid (∀ u, VCm w w2 u 3 (.func (.func 63) #[] #[]) (.int .i64 3) (.string an) (.string at_) (.slice aio aN aic) (.slice ako aK akc) (.string bn) (.string bt) (.slice bio bN bic) (.slice bko bK bkc) → Calls Try.prog 63 #[.agg #[.int .i64 3, .string an, .string at_, .slice aio aN aic, .slice ako aK akc], .agg #[.int .i64 3, .string bn, .string bt, .slice bio bN bic, .slice bko bK bkc]] u fun e w' => e = .returned (.int .i64 c) ∧ Hid (VCm w w2 w' 3 (.func (.func 63) #[] #[]) (.int .i64 3) (.string an) (.string at_) (.slice aio aN aic) (.slice ako aK akc) (.string bn) (.string bt) (.slice bio bN bic) (.slice bko bK bkc))) := fun u hu => (HF.out u hu.v.one.below).mono fun e w' ⟨he, hb⟩ => ⟨he, hu.keep hb⟩
  clear hw2 HX HF
  have p0 := HL.out.v.one.c0
  have p1 := HL.out.v.one.c1
  have p2 := HL.out.v.one.c2
  have p3 := HL.out.v.one.c3
  have p4 := HL.out.v.one.c4
  have q0 := HL.out.v.d0
  have q1 := HL.out.v.d1
  have q2 := HL.out.v.d2
  have q3 := HL.out.v.d3
  have q4 := HL.out.v.d4
  go_wp2_with fail
  go_region_held3 (fun u => u.cell? ⟨w.heap.size, 0, none⟩ = some (.int .i64 3) ∧ u.cell? ⟨w.heap.size, 1, none⟩ = some (.string an) ∧ u.cell? ⟨w.heap.size, 2, none⟩ = some (.string at_) ∧ u.cell? ⟨w.heap.size, 3, none⟩ = some (.slice aio aN aic) ∧ u.cell? ⟨w.heap.size, 4, none⟩ = some (.slice ako aK akc) ∧ u.cell? ⟨w.heap.size + 1, 0, none⟩ = some (.int .i64 3) ∧ u.cell? ⟨w.heap.size + 1, 1, none⟩ = some (.string bn) ∧ u.cell? ⟨w.heap.size + 1, 2, none⟩ = some (.string bt) ∧ u.cell? ⟨w.heap.size + 1, 3, none⟩ = some (.slice bio bN bic) ∧ u.cell? ⟨w.heap.size + 1, 4, none⟩ = some (.slice bko bK bkc) ∧ u.cell? ⟨w2.heap.size, 3, none⟩ = some (.func (.func 63) #[] #[])) (exact ⟨HL.out.v.one.c0, HL.out.v.one.c1, HL.out.v.one.c2, HL.out.v.one.c3, HL.out.v.one.c4, HL.out.v.d0, HL.out.v.d1, HL.out.v.d2, HL.out.v.d3, HL.out.v.d4, HL.out.way⟩) (first | (go_at_call 63; refine (HG.out _ (by first | exact HL.out | exact HL.out.drew)).mono ?_; rintro e w4 ⟨rfl, HL⟩))
  all_goals clear p0 p1 p2 p3 p4 q0 q1 q2 q3 q4
  all_goals go_wp2_with fail
  all_goals go_ret
  all_goals exact ⟨rfl, HL.out.v.one.below⟩

set_option maxRecDepth 100000 in
set_option maxHeartbeats 3200000 in
theorem vcmp_4 (w : World) (an at_ : ByteArray) (aio : Option Addr) (aN aic : Nat) (ako : Option Addr) (aK akc : Nat) (bn bt : ByteArray) (bio : Option Addr) (bN bic : Nat) (bko : Option Addr) (bK bkc : Nat) (c : Int) (HF : Hid (∀ u, Below w.heap.size w u → Calls Try.prog 64 #[.agg #[.int .i64 4, .string an, .string at_, .slice aio aN aic, .slice ako aK akc], .agg #[.int .i64 4, .string bn, .string bt, .slice bio bN bic, .slice bko bK bkc]] u fun e w' => e = .returned (.int .i64 c) ∧ Below u.heap.size u w')) :
    Calls Try.prog 14 #[.agg #[.int .i64 4, .string an, .string at_, .slice aio aN aic, .slice ako aK akc], .agg #[.int .i64 4, .string bn, .string bt, .slice bio bN bic, .slice bko bK bkc]] w fun e w' => e = .returned (.int .i64 c) ∧ Below w.heap.size w w' := by
  have HX := Hid.mk (vb2_new w (.int .i64 4) (.string an) (.string at_) (.slice aio aN aic) (.slice ako aK akc) (.string bn) (.string bt) (.slice bio bN bic) (.slice bko bK bkc))
  go_enter Try.func14, Try.ntmps14
  go_wp2_with fail
  refine (w_deciders _).mono ?_
  rintro e w2 ⟨rfl, hw2⟩
  have HL : Hid (VCm w w2 (w2.alloc (.cells #[.func (.func 62) #[] #[], .func (.func 62) #[] #[], .func (.func 62) #[] #[], .func (.func 63) #[] #[], .func (.func 64) #[] #[], .func (.func 65) #[] #[], .func (.func 66) #[] #[]] 54)) 4 (.func (.func 64) #[] #[]) (.int .i64 4) (.string an) (.string at_) (.slice aio aN aic) (.slice ako aK akc) (.string bn) (.string bt) (.slice bio bN bic) (.slice bko bK bkc)) := ⟨(HX.out.keep hw2).keep (below1 w2 _), by simp [go_sem], by simp⟩
  have HG : Hid (∀ u, VCm w w2 u 4 (.func (.func 64) #[] #[]) (.int .i64 4) (.string an) (.string at_) (.slice aio aN aic) (.slice ako aK akc) (.string bn) (.string bt) (.slice bio bN bic) (.slice bko bK bkc) → Calls Try.prog 64 #[.agg #[.int .i64 4, .string an, .string at_, .slice aio aN aic, .slice ako aK akc], .agg #[.int .i64 4, .string bn, .string bt, .slice bio bN bic, .slice bko bK bkc]] u fun e w' => e = .returned (.int .i64 c) ∧ Hid (VCm w w2 w' 4 (.func (.func 64) #[] #[]) (.int .i64 4) (.string an) (.string at_) (.slice aio aN aic) (.slice ako aK akc) (.string bn) (.string bt) (.slice bio bN bic) (.slice bko bK bkc))) := fun u hu => (HF.out u hu.v.one.below).mono fun e w' ⟨he, hb⟩ => ⟨he, hu.keep hb⟩
  clear hw2 HX HF
  have p0 := HL.out.v.one.c0
  have p1 := HL.out.v.one.c1
  have p2 := HL.out.v.one.c2
  have p3 := HL.out.v.one.c3
  have p4 := HL.out.v.one.c4
  have q0 := HL.out.v.d0
  have q1 := HL.out.v.d1
  have q2 := HL.out.v.d2
  have q3 := HL.out.v.d3
  have q4 := HL.out.v.d4
  go_wp2_with fail
  go_region_held3 (fun u => u.cell? ⟨w.heap.size, 0, none⟩ = some (.int .i64 4) ∧ u.cell? ⟨w.heap.size, 1, none⟩ = some (.string an) ∧ u.cell? ⟨w.heap.size, 2, none⟩ = some (.string at_) ∧ u.cell? ⟨w.heap.size, 3, none⟩ = some (.slice aio aN aic) ∧ u.cell? ⟨w.heap.size, 4, none⟩ = some (.slice ako aK akc) ∧ u.cell? ⟨w.heap.size + 1, 0, none⟩ = some (.int .i64 4) ∧ u.cell? ⟨w.heap.size + 1, 1, none⟩ = some (.string bn) ∧ u.cell? ⟨w.heap.size + 1, 2, none⟩ = some (.string bt) ∧ u.cell? ⟨w.heap.size + 1, 3, none⟩ = some (.slice bio bN bic) ∧ u.cell? ⟨w.heap.size + 1, 4, none⟩ = some (.slice bko bK bkc) ∧ u.cell? ⟨w2.heap.size, 4, none⟩ = some (.func (.func 64) #[] #[])) (exact ⟨HL.out.v.one.c0, HL.out.v.one.c1, HL.out.v.one.c2, HL.out.v.one.c3, HL.out.v.one.c4, HL.out.v.d0, HL.out.v.d1, HL.out.v.d2, HL.out.v.d3, HL.out.v.d4, HL.out.way⟩) (first | (go_at_call 64; refine (HG.out _ (by first | exact HL.out | exact HL.out.drew)).mono ?_; rintro e w4 ⟨rfl, HL⟩))
  all_goals clear p0 p1 p2 p3 p4 q0 q1 q2 q3 q4
  all_goals go_wp2_with fail
  all_goals go_ret
  all_goals exact ⟨rfl, HL.out.v.one.below⟩

set_option maxRecDepth 100000 in
set_option maxHeartbeats 3200000 in
theorem vcmp_5 (w : World) (an at_ : ByteArray) (aio : Option Addr) (aN aic : Nat) (ako : Option Addr) (aK akc : Nat) (bn bt : ByteArray) (bio : Option Addr) (bN bic : Nat) (bko : Option Addr) (bK bkc : Nat) (c : Int) (HF : Hid (∀ u, Below w.heap.size w u → Calls Try.prog 65 #[.agg #[.int .i64 5, .string an, .string at_, .slice aio aN aic, .slice ako aK akc], .agg #[.int .i64 5, .string bn, .string bt, .slice bio bN bic, .slice bko bK bkc]] u fun e w' => e = .returned (.int .i64 c) ∧ Below u.heap.size u w')) :
    Calls Try.prog 14 #[.agg #[.int .i64 5, .string an, .string at_, .slice aio aN aic, .slice ako aK akc], .agg #[.int .i64 5, .string bn, .string bt, .slice bio bN bic, .slice bko bK bkc]] w fun e w' => e = .returned (.int .i64 c) ∧ Below w.heap.size w w' := by
  have HX := Hid.mk (vb2_new w (.int .i64 5) (.string an) (.string at_) (.slice aio aN aic) (.slice ako aK akc) (.string bn) (.string bt) (.slice bio bN bic) (.slice bko bK bkc))
  go_enter Try.func14, Try.ntmps14
  go_wp2_with fail
  refine (w_deciders _).mono ?_
  rintro e w2 ⟨rfl, hw2⟩
  have HL : Hid (VCm w w2 (w2.alloc (.cells #[.func (.func 62) #[] #[], .func (.func 62) #[] #[], .func (.func 62) #[] #[], .func (.func 63) #[] #[], .func (.func 64) #[] #[], .func (.func 65) #[] #[], .func (.func 66) #[] #[]] 54)) 5 (.func (.func 65) #[] #[]) (.int .i64 5) (.string an) (.string at_) (.slice aio aN aic) (.slice ako aK akc) (.string bn) (.string bt) (.slice bio bN bic) (.slice bko bK bkc)) := ⟨(HX.out.keep hw2).keep (below1 w2 _), by simp [go_sem], by simp⟩
  have HG : Hid (∀ u, VCm w w2 u 5 (.func (.func 65) #[] #[]) (.int .i64 5) (.string an) (.string at_) (.slice aio aN aic) (.slice ako aK akc) (.string bn) (.string bt) (.slice bio bN bic) (.slice bko bK bkc) → Calls Try.prog 65 #[.agg #[.int .i64 5, .string an, .string at_, .slice aio aN aic, .slice ako aK akc], .agg #[.int .i64 5, .string bn, .string bt, .slice bio bN bic, .slice bko bK bkc]] u fun e w' => e = .returned (.int .i64 c) ∧ Hid (VCm w w2 w' 5 (.func (.func 65) #[] #[]) (.int .i64 5) (.string an) (.string at_) (.slice aio aN aic) (.slice ako aK akc) (.string bn) (.string bt) (.slice bio bN bic) (.slice bko bK bkc))) := fun u hu => (HF.out u hu.v.one.below).mono fun e w' ⟨he, hb⟩ => ⟨he, hu.keep hb⟩
  clear hw2 HX HF
  have p0 := HL.out.v.one.c0
  have p1 := HL.out.v.one.c1
  have p2 := HL.out.v.one.c2
  have p3 := HL.out.v.one.c3
  have p4 := HL.out.v.one.c4
  have q0 := HL.out.v.d0
  have q1 := HL.out.v.d1
  have q2 := HL.out.v.d2
  have q3 := HL.out.v.d3
  have q4 := HL.out.v.d4
  go_wp2_with fail
  go_region_held3 (fun u => u.cell? ⟨w.heap.size, 0, none⟩ = some (.int .i64 5) ∧ u.cell? ⟨w.heap.size, 1, none⟩ = some (.string an) ∧ u.cell? ⟨w.heap.size, 2, none⟩ = some (.string at_) ∧ u.cell? ⟨w.heap.size, 3, none⟩ = some (.slice aio aN aic) ∧ u.cell? ⟨w.heap.size, 4, none⟩ = some (.slice ako aK akc) ∧ u.cell? ⟨w.heap.size + 1, 0, none⟩ = some (.int .i64 5) ∧ u.cell? ⟨w.heap.size + 1, 1, none⟩ = some (.string bn) ∧ u.cell? ⟨w.heap.size + 1, 2, none⟩ = some (.string bt) ∧ u.cell? ⟨w.heap.size + 1, 3, none⟩ = some (.slice bio bN bic) ∧ u.cell? ⟨w.heap.size + 1, 4, none⟩ = some (.slice bko bK bkc) ∧ u.cell? ⟨w2.heap.size, 5, none⟩ = some (.func (.func 65) #[] #[])) (exact ⟨HL.out.v.one.c0, HL.out.v.one.c1, HL.out.v.one.c2, HL.out.v.one.c3, HL.out.v.one.c4, HL.out.v.d0, HL.out.v.d1, HL.out.v.d2, HL.out.v.d3, HL.out.v.d4, HL.out.way⟩) (first | (go_at_call 65; refine (HG.out _ (by first | exact HL.out | exact HL.out.drew)).mono ?_; rintro e w4 ⟨rfl, HL⟩))
  all_goals clear p0 p1 p2 p3 p4 q0 q1 q2 q3 q4
  all_goals go_wp2_with fail
  all_goals go_ret
  all_goals exact ⟨rfl, HL.out.v.one.below⟩

set_option maxRecDepth 100000 in
set_option maxHeartbeats 3200000 in
theorem vcmp_6 (w : World) (an at_ : ByteArray) (aio : Option Addr) (aN aic : Nat) (ako : Option Addr) (aK akc : Nat) (bn bt : ByteArray) (bio : Option Addr) (bN bic : Nat) (bko : Option Addr) (bK bkc : Nat) (c : Int) (HF : Hid (∀ u, Below w.heap.size w u → Calls Try.prog 66 #[.agg #[.int .i64 6, .string an, .string at_, .slice aio aN aic, .slice ako aK akc], .agg #[.int .i64 6, .string bn, .string bt, .slice bio bN bic, .slice bko bK bkc]] u fun e w' => e = .returned (.int .i64 c) ∧ Below u.heap.size u w')) :
    Calls Try.prog 14 #[.agg #[.int .i64 6, .string an, .string at_, .slice aio aN aic, .slice ako aK akc], .agg #[.int .i64 6, .string bn, .string bt, .slice bio bN bic, .slice bko bK bkc]] w fun e w' => e = .returned (.int .i64 c) ∧ Below w.heap.size w w' := by
  have HX := Hid.mk (vb2_new w (.int .i64 6) (.string an) (.string at_) (.slice aio aN aic) (.slice ako aK akc) (.string bn) (.string bt) (.slice bio bN bic) (.slice bko bK bkc))
  go_enter Try.func14, Try.ntmps14
  go_wp2_with fail
  refine (w_deciders _).mono ?_
  rintro e w2 ⟨rfl, hw2⟩
  have HL : Hid (VCm w w2 (w2.alloc (.cells #[.func (.func 62) #[] #[], .func (.func 62) #[] #[], .func (.func 62) #[] #[], .func (.func 63) #[] #[], .func (.func 64) #[] #[], .func (.func 65) #[] #[], .func (.func 66) #[] #[]] 54)) 6 (.func (.func 66) #[] #[]) (.int .i64 6) (.string an) (.string at_) (.slice aio aN aic) (.slice ako aK akc) (.string bn) (.string bt) (.slice bio bN bic) (.slice bko bK bkc)) := ⟨(HX.out.keep hw2).keep (below1 w2 _), by simp [go_sem], by simp⟩
  have HG : Hid (∀ u, VCm w w2 u 6 (.func (.func 66) #[] #[]) (.int .i64 6) (.string an) (.string at_) (.slice aio aN aic) (.slice ako aK akc) (.string bn) (.string bt) (.slice bio bN bic) (.slice bko bK bkc) → Calls Try.prog 66 #[.agg #[.int .i64 6, .string an, .string at_, .slice aio aN aic, .slice ako aK akc], .agg #[.int .i64 6, .string bn, .string bt, .slice bio bN bic, .slice bko bK bkc]] u fun e w' => e = .returned (.int .i64 c) ∧ Hid (VCm w w2 w' 6 (.func (.func 66) #[] #[]) (.int .i64 6) (.string an) (.string at_) (.slice aio aN aic) (.slice ako aK akc) (.string bn) (.string bt) (.slice bio bN bic) (.slice bko bK bkc))) := fun u hu => (HF.out u hu.v.one.below).mono fun e w' ⟨he, hb⟩ => ⟨he, hu.keep hb⟩
  clear hw2 HX HF
  have p0 := HL.out.v.one.c0
  have p1 := HL.out.v.one.c1
  have p2 := HL.out.v.one.c2
  have p3 := HL.out.v.one.c3
  have p4 := HL.out.v.one.c4
  have q0 := HL.out.v.d0
  have q1 := HL.out.v.d1
  have q2 := HL.out.v.d2
  have q3 := HL.out.v.d3
  have q4 := HL.out.v.d4
  go_wp2_with fail
  go_region_held3 (fun u => u.cell? ⟨w.heap.size, 0, none⟩ = some (.int .i64 6) ∧ u.cell? ⟨w.heap.size, 1, none⟩ = some (.string an) ∧ u.cell? ⟨w.heap.size, 2, none⟩ = some (.string at_) ∧ u.cell? ⟨w.heap.size, 3, none⟩ = some (.slice aio aN aic) ∧ u.cell? ⟨w.heap.size, 4, none⟩ = some (.slice ako aK akc) ∧ u.cell? ⟨w.heap.size + 1, 0, none⟩ = some (.int .i64 6) ∧ u.cell? ⟨w.heap.size + 1, 1, none⟩ = some (.string bn) ∧ u.cell? ⟨w.heap.size + 1, 2, none⟩ = some (.string bt) ∧ u.cell? ⟨w.heap.size + 1, 3, none⟩ = some (.slice bio bN bic) ∧ u.cell? ⟨w.heap.size + 1, 4, none⟩ = some (.slice bko bK bkc) ∧ u.cell? ⟨w2.heap.size, 6, none⟩ = some (.func (.func 66) #[] #[])) (exact ⟨HL.out.v.one.c0, HL.out.v.one.c1, HL.out.v.one.c2, HL.out.v.one.c3, HL.out.v.one.c4, HL.out.v.d0, HL.out.v.d1, HL.out.v.d2, HL.out.v.d3, HL.out.v.d4, HL.out.way⟩) (first | (go_at_call 66; refine (HG.out _ (by first | exact HL.out | exact HL.out.drew)).mono ?_; rintro e w4 ⟨rfl, HL⟩))
  all_goals clear p0 p1 p2 p3 p4 q0 q1 q2 q3 q4
  all_goals go_wp2_with fail
  all_goals go_ret
  all_goals exact ⟨rfl, HL.out.v.one.below⟩
end Go.Proofs.Ytjfbbdhmcljhnaa
