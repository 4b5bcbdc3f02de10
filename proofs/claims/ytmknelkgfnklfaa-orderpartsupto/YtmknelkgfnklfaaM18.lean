import Derived.Test.YtmknelkgfnklfaaM17
import Derived.Laws.EntriesVeiled
import Derived.Deep.RegionHeld3
namespace Go.Proofs.Ytmknelkgfnklfaa
open Go.RowKit
set_option linter.unusedVariables false
set_option linter.unusedSimpArgs false

set_option maxRecDepth 100000 in
set_option maxHeartbeats 3200000 in
theorem w_alike (ka kb : Int) (an at_ : ByteArray) (aio : Option Addr) (aN aic : Nat) (ako : Option Addr) (aK akc : Nat) (bn bt : ByteArray) (bio : Option Addr) (bN bic : Nat) (bko : Option Addr) (bK bkc : Nat) (w : World) :
    Calls Try.prog 70 #[.agg #[.int .i64 ka, .string an, .string at_, .slice aio aN aic, .slice ako aK akc], .agg #[.int .i64 kb, .string bn, .string bt, .slice bio bN bic, .slice bko bK bkc]] w fun e w' => e = .returned (.int .i64 (0)) ∧ Below w.heap.size w w' := by
  have HB := Hid.mk (below2 w (.cells #[.int .i64 ka, .string an, .string at_, .slice aio aN aic, .slice ako aK akc] 72) (.cells #[.int .i64 kb, .string bn, .string bt, .slice bio bN bic, .slice bko bK bkc] 72))
  go_enter Try.func70, Try.ntmps70
  go_wp2_with fail
  go_ret
  exact ⟨rfl, HB.out⟩

set_option maxRecDepth 100000 in
set_option maxHeartbeats 3200000 in
theorem w_byWorth (ka kb : Int) (an at_ : ByteArray) (aio : Option Addr) (aN aic : Nat) (ako : Option Addr) (aK akc : Nat) (bn bt : ByteArray) (bio : Option Addr) (bN bic : Nat) (bko : Option Addr) (bK bkc : Nat) (ha : an.size ≤ 140737488355328) (hb : bn.size ≤ 140737488355328) (w : World) :
    Calls Try.prog 71 #[.agg #[.int .i64 ka, .string an, .string at_, .slice aio aN aic, .slice ako aK akc], .agg #[.int .i64 kb, .string bn, .string bt, .slice bio bN bic, .slice bko bK bkc]] w fun e w' => e = .returned (.int .i64 (numC an bn)) ∧ Below w.heap.size w w' := by
  have HB := Hid.mk (below2 w (.cells #[.int .i64 ka, .string an, .string at_, .slice aio aN aic, .slice ako aK akc] 72) (.cells #[.int .i64 kb, .string bn, .string bt, .slice bio bN bic, .slice bko bK bkc] 72))
  have HC := Hid.mk (fun u => w_Cmp an bn u (by unfold maxLen; omega) (by unfold maxLen; omega))
  have hc : Pl.cmpN an.data.toList bn.data.toList = numC an bn := rfl
  rw [hc] at HC
  generalize numC an bn = c at HC ⊢
  generalize Pl.errN an.data.toList bn.data.toList = er at HC
  clear hc ha hb
  go_enter Try.func71, Try.ntmps71
  go_wp2_with fail
  refine (HC.out _).mono ?_
  rintro e w1 ⟨rfl, hb1⟩
  have HB1 := Hid.mk (below_more HB.out hb1)
  clear hb1
  go_wp2_with fail
  go_ret
  exact ⟨rfl, HB1.out⟩

set_option maxRecDepth 100000 in
set_option maxHeartbeats 3200000 in
theorem w_byText (ka kb : Int) (an at_ : ByteArray) (aio : Option Addr) (aN aic : Nat) (ako : Option Addr) (aK akc : Nat) (bn bt : ByteArray) (bio : Option Addr) (bN bic : Nat) (bko : Option Addr) (bK bkc : Nat) (w : World) :
    Calls Try.prog 72 #[.agg #[.int .i64 ka, .string an, .string at_, .slice aio aN aic, .slice ako aK akc], .agg #[.int .i64 kb, .string bn, .string bt, .slice bio bN bic, .slice bko bK bkc]] w fun e w' => e = .returned (.int .i64 (keyC at_ bt)) ∧ Below w.heap.size w w' := by
  have HB := Hid.mk (below2 w (.cells #[.int .i64 ka, .string an, .string at_, .slice aio aN aic, .slice ako aK akc] 72) (.cells #[.int .i64 kb, .string bn, .string bt, .slice bio bN bic, .slice bko bK bkc] 72))
  have HC := Hid.mk (fun u => w_CompareString at_ bt u)
  have hc : Pl.cmpS at_.toList bt.toList = keyC at_ bt := rfl
  rw [hc] at HC
  generalize keyC at_ bt = c at HC ⊢
  clear hc
  go_enter Try.func72, Try.ntmps72
  go_wp2_with fail
  refine (HC.out _).mono ?_
  rintro e w1 ⟨rfl, hw⟩
  obtain rfl := hw.symm
  go_wp2_with fail
  go_ret
  exact ⟨rfl, HB.out⟩

set_option maxRecDepth 100000 in
set_option maxHeartbeats 3200000 in
theorem w_byItems (w : World) (ka kb : Int) (an at_ : ByteArray) (aio : Option Addr) (aN aic : Nat) (ako : Option Addr) (aK akc : Nat) (bn bt : ByteArray) (bio : Option Addr) (bN bic : Nat) (bko : Option Addr) (bK bkc : Nat) (c : Int) (HC : Hid (∀ u, Below w.heap.size w u → Calls Try.prog 80 #[.slice aio aN aic, .slice bio bN bic, .func (.func 35) #[] #[]] u fun e w' => e = .returned (.int .i64 c) ∧ Below u.heap.size u w')) :
    Calls Try.prog 73 #[.agg #[.int .i64 ka, .string an, .string at_, .slice aio aN aic, .slice ako aK akc], .agg #[.int .i64 kb, .string bn, .string bt, .slice bio bN bic, .slice bko bK bkc]] w fun e w' => e = .returned (.int .i64 (c)) ∧ Below w.heap.size w w' := by
  have HB := Hid.mk (below2 w (.cells #[.int .i64 ka, .string an, .string at_, .slice aio aN aic, .slice ako aK akc] 72) (.cells #[.int .i64 kb, .string bn, .string bt, .slice bio bN bic, .slice bko bK bkc] 72))
  go_enter Try.func73, Try.ntmps73
  go_wp2_with fail
  refine (HC.out _ HB.out).mono ?_
  rintro e w1 ⟨rfl, hb1⟩
  have HB1 := Hid.mk (below_more HB.out hb1)
  clear hb1
  go_wp2_with fail
  go_ret
  exact ⟨rfl, HB1.out⟩

set_option maxRecDepth 100000 in
set_option maxHeartbeats 3200000 in
theorem w_byFields (w : World) (ka kb : Int) (an at_ : ByteArray) (aio : Option Addr) (aN aic : Nat) (ako : Option Addr) (aK akc : Nat) (bn bt : ByteArray) (bio : Option Addr) (bN bic : Nat) (bko : Option Addr) (bK bkc : Nat) (c kc : Int) (HC : Hid (∀ u, Below w.heap.size w u → Calls Try.prog 80 #[.slice aio aN aic, .slice bio bN bic, .func (.func 35) #[] #[]] u fun e w' => e = .returned (.int .i64 c) ∧ Below u.heap.size u w')) (HK : Hid (∀ u, Below w.heap.size w u → Calls Try.prog 81 #[.slice ako aK akc, .slice bko bK bkc] u fun e w' => e = .returned (.int .i64 kc) ∧ w' = u)) :
    Calls Try.prog 74 #[.agg #[.int .i64 ka, .string an, .string at_, .slice aio aN aic, .slice ako aK akc], .agg #[.int .i64 kb, .string bn, .string bt, .slice bio bN bic, .slice bko bK bkc]] w fun e w' => e = .returned (.int .i64 (if kc = 0 then c else kc)) ∧ Below w.heap.size w w' := by
  have HB := Hid.mk (below2 w (.cells #[.int .i64 ka, .string an, .string at_, .slice aio aN aic, .slice ako aK akc] 72) (.cells #[.int .i64 kb, .string bn, .string bt, .slice bio bN bic, .slice bko bK bkc] 72))
  by_cases h0 : kc = 0
  · subst h0
    rw [if_pos rfl]
    have HI := Hid.mk (w_byItems ((w.alloc (.cells #[.int .i64 ka, .string an, .string at_, .slice aio aN aic, .slice ako aK akc] 72)).alloc (.cells #[.int .i64 kb, .string bn, .string bt, .slice bio bN bic, .slice bko bK bkc] 72)) ka kb an at_ aio aN aic ako aK akc bn bt bio bN bic bko bK bkc c (fun u hu => HC.out u (below_more HB.out hu)))
    go_enter Try.func74, Try.ntmps74
    go_wp2_with fail
    refine (HK.out _ HB.out).mono ?_
    rintro e w1 ⟨rfl, hw⟩
    obtain rfl := hw.symm
    go_wp2_with fail
    refine HI.out.mono ?_
    rintro e w2 ⟨rfl, hb2⟩
    have HB2 := Hid.mk (below_more HB.out hb2)
    clear hb2
    go_wp2_with fail
    go_ret
    exact ⟨rfl, HB2.out⟩
  · rw [if_neg h0]
    have h0' : (kc != 0) = true := by simpa using h0
    clear h0
    go_enter Try.func74, Try.ntmps74
    go_wp2_with fail
    refine (HK.out _ HB.out).mono ?_
    rintro e w1 ⟨rfl, hw⟩
    obtain rfl := hw.symm
    go_wp2_with fail
    go_ret
    exact ⟨rfl, HB.out⟩

/-- the ways of deciding, by the kind's number -/
abbrev wayC : Array Value := #[.func (.func 70) #[] #[], .func (.func 70) #[] #[], .func (.func 70) #[] #[], .func (.func 71) #[] #[], .func (.func 72) #[] #[], .func (.func 73) #[] #[], .func (.func 74) #[] #[]]
set_option maxRecDepth 100000 in
set_option maxHeartbeats 3200000 in
theorem w_deciders (w : World) : Calls Try.prog 58 #[] w fun e w' => e = .returned (.agg #[.func (.func 70) #[] #[], .func (.func 70) #[] #[], .func (.func 70) #[] #[], .func (.func 71) #[] #[], .func (.func 72) #[] #[], .func (.func 73) #[] #[], .func (.func 74) #[] #[]]) ∧ Below w.heap.size w w' := by
  have HB := Hid.mk (below1 w (.cells #[.func (.func 70) #[] #[], .func (.func 70) #[] #[], .func (.func 70) #[] #[], .func (.func 71) #[] #[], .func (.func 72) #[] #[], .func (.func 73) #[] #[], .func (.func 74) #[] #[]] 70))
  go_enter Try.func58, Try.ntmps58
  go_wp2_with fail
  (try simp only [Exit.inBlock, Exit.then])
  refine bodyPost_ret (v := .agg #[.func (.func 70) #[] #[], .func (.func 70) #[] #[], .func (.func 70) #[] #[], .func (.func 71) #[] #[], .func (.func 72) #[] #[], .func (.func 73) #[] #[], .func (.func 74) #[] #[]]) (by simp [results, Try.results58, go_sem]) rfl ?_
  exact ⟨rfl, HB.out⟩
end Go.Proofs.Ytmknelkgfnklfaa
namespace Go.Proofs.Ytmknelkgfnklfaa
open Go.RowKit
set_option linter.unusedVariables false
set_option linter.unusedSimpArgs false
theorem VB2.drew {w u : World} {a b c d e b' c' d' e' : Value} (h : VB2 w u a b c d e b' c' d' e') : VB2 w u.drew a b c d e b' c' d' e' := ⟨h.one.drew, h.two.drew⟩
/-- what value.Cmp holds when it hands on -/
structure VCm (w w2 u : World) (k : Nat) (f a b c d e b' c' d' e' : Value) : Prop where
  v : VB2 w u a b c d e b' c' d' e'
  way : u.cell? ⟨w2.heap.size, k, none⟩ = some f
  lt : w2.heap.size < u.heap.size
theorem VCm.keep {w w2 u u' : World} {k : Nat} {f a b c d e b' c' d' e' : Value} (h : VCm w w2 u k f a b c d e b' c' d' e') (hb : Below u.heap.size u u') : VCm w w2 u' k f a b c d e b' c' d' e' :=
  ⟨h.v.keep hb, (hb.cell (p := ⟨_, _, _⟩) h.lt).trans h.way, Nat.lt_of_lt_of_le h.lt hb.size⟩
theorem VCm.drew {w w2 u : World} {k : Nat} {f a b c d e b' c' d' e' : Value} (h : VCm w w2 u k f a b c d e b' c' d' e') : VCm w w2 u.drew k f a b c d e b' c' d' e' := ⟨h.v.drew, h.way, h.lt⟩

set_option maxRecDepth 100000 in
set_option maxHeartbeats 3200000 in
theorem vcmp_0 (w : World) (an at_ : ByteArray) (aio : Option Addr) (aN aic : Nat) (ako : Option Addr) (aK akc : Nat) (bn bt : ByteArray) (bio : Option Addr) (bN bic : Nat) (bko : Option Addr) (bK bkc : Nat) (c : Int) (HF : Hid (∀ u, Below w.heap.size w u → Calls Try.prog 70 #[.agg #[.int .i64 0, .string an, .string at_, .slice aio aN aic, .slice ako aK akc], .agg #[.int .i64 0, .string bn, .string bt, .slice bio bN bic, .slice bko bK bkc]] u fun e w' => e = .returned (.int .i64 c) ∧ Below u.heap.size u w')) :
    Calls Try.prog 35 #[.agg #[.int .i64 0, .string an, .string at_, .slice aio aN aic, .slice ako aK akc], .agg #[.int .i64 0, .string bn, .string bt, .slice bio bN bic, .slice bko bK bkc]] w fun e w' => e = .returned (.int .i64 c) ∧ Below w.heap.size w w' := by
  have HX := Hid.mk (vb2_new w (.int .i64 0) (.string an) (.string at_) (.slice aio aN aic) (.slice ako aK akc) (.string bn) (.string bt) (.slice bio bN bic) (.slice bko bK bkc))
  go_enter Try.func35, Try.ntmps35
  go_wp2_with fail
  refine (w_deciders _).mono ?_
  rintro e w2 ⟨rfl, hw2⟩
  have HL : Hid (VCm w w2 (w2.alloc (.cells #[.func (.func 70) #[] #[], .func (.func 70) #[] #[], .func (.func 70) #[] #[], .func (.func 71) #[] #[], .func (.func 72) #[] #[], .func (.func 73) #[] #[], .func (.func 74) #[] #[]] 70)) 0 (.func (.func 70) #[] #[]) (.int .i64 0) (.string an) (.string at_) (.slice aio aN aic) (.slice ako aK akc) (.string bn) (.string bt) (.slice bio bN bic) (.slice bko bK bkc)) := ⟨(HX.out.keep hw2).keep (below1 w2 _), by simp [go_sem], by simp⟩
  have HG : Hid (∀ u, VCm w w2 u 0 (.func (.func 70) #[] #[]) (.int .i64 0) (.string an) (.string at_) (.slice aio aN aic) (.slice ako aK akc) (.string bn) (.string bt) (.slice bio bN bic) (.slice bko bK bkc) → Calls Try.prog 70 #[.agg #[.int .i64 0, .string an, .string at_, .slice aio aN aic, .slice ako aK akc], .agg #[.int .i64 0, .string bn, .string bt, .slice bio bN bic, .slice bko bK bkc]] u fun e w' => e = .returned (.int .i64 c) ∧ Hid (VCm w w2 w' 0 (.func (.func 70) #[] #[]) (.int .i64 0) (.string an) (.string at_) (.slice aio aN aic) (.slice ako aK akc) (.string bn) (.string bt) (.slice bio bN bic) (.slice bko bK bkc))) := fun u hu => (HF.out u hu.v.one.below).mono fun e w' ⟨he, hb⟩ => ⟨he, hu.keep hb⟩
  clear hw2 HX HF
  have p0 := HL.out.v.one.c0
  have p1 := HL.out.v.one.c1
  have p2 := HL.out.v.one.c2
  have p3 := HL.out.v.one.c3
  have p4 := HL.out.v.one.c4
  have q0 := HL.out.v.d0
  have q1 := HL.out.v.d1
  have q2 := HL.out.v.d2
  have q3 := HL.out.v.d3
  have q4 := HL.out.v.d4
  go_wp2_with fail
  go_region_held3 (fun u => u.cell? ⟨w.heap.size, 0, none⟩ = some (.int .i64 0) ∧ u.cell? ⟨w.heap.size, 1, none⟩ = some (.string an) ∧ u.cell? ⟨w.heap.size, 2, none⟩ = some (.string at_) ∧ u.cell? ⟨w.heap.size, 3, none⟩ = some (.slice aio aN aic) ∧ u.cell? ⟨w.heap.size, 4, none⟩ = some (.slice ako aK akc) ∧ u.cell? ⟨w.heap.size + 1, 0, none⟩ = some (.int .i64 0) ∧ u.cell? ⟨w.heap.size + 1, 1, none⟩ = some (.string bn) ∧ u.cell? ⟨w.heap.size + 1, 2, none⟩ = some (.string bt) ∧ u.cell? ⟨w.heap.size + 1, 3, none⟩ = some (.slice bio bN bic) ∧ u.cell? ⟨w.heap.size + 1, 4, none⟩ = some (.slice bko bK bkc) ∧ u.cell? ⟨w2.heap.size, 0, none⟩ = some (.func (.func 70) #[] #[])) (exact ⟨HL.out.v.one.c0, HL.out.v.one.c1, HL.out.v.one.c2, HL.out.v.one.c3, HL.out.v.one.c4, HL.out.v.d0, HL.out.v.d1, HL.out.v.d2, HL.out.v.d3, HL.out.v.d4, HL.out.way⟩) (first | (go_at_call 70; refine (HG.out _ (by first | exact HL.out | exact HL.out.drew)).mono ?_; rintro e w4 ⟨rfl, HL⟩))
  all_goals clear p0 p1 p2 p3 p4 q0 q1 q2 q3 q4
  all_goals go_wp2_with fail
  all_goals go_ret
  all_goals exact ⟨rfl, HL.out.v.one.below⟩

set_option maxRecDepth 100000 in
set_option maxHeartbeats 3200000 in
theorem vcmp_1 (w : World) (an at_ : ByteArray) (aio : Option Addr) (aN aic : Nat) (ako : Option Addr) (aK akc : Nat) (bn bt : ByteArray) (bio : Option Addr) (bN bic : Nat) (bko : Option Addr) (bK bkc : Nat) (c : Int) (HF : Hid (∀ u, Below w.heap.size w u → Calls Try.prog 70 #[.agg #[.int .i64 1, .string an, .string at_, .slice aio aN aic, .slice ako aK akc], .agg #[.int .i64 1, .string bn, .string bt, .slice bio bN bic, .slice bko bK bkc]] u fun e w' => e = .returned (.int .i64 c) ∧ Below u.heap.size u w')) :
    Calls Try.prog 35 #[.agg #[.int .i64 1, .string an, .string at_, .slice aio aN aic, .slice ako aK akc], .agg #[.int .i64 1, .string bn, .string bt, .slice bio bN bic, .slice bko bK bkc]] w fun e w' => e = .returned (.int .i64 c) ∧ Below w.heap.size w w' := by
  have HX := Hid.mk (vb2_new w (.int .i64 1) (.string an) (.string at_) (.slice aio aN aic) (.slice ako aK akc) (.string bn) (.string bt) (.slice bio bN bic) (.slice bko bK bkc))
  go_enter Try.func35, Try.ntmps35
  go_wp2_with fail
  refine (w_deciders _).mono ?_
  rintro e w2 ⟨rfl, hw2⟩
  have HL : Hid (VCm w w2 (w2.alloc (.cells #[.func (.func 70) #[] #[], .func (.func 70) #[] #[], .func (.func 70) #[] #[], .func (.func 71) #[] #[], .func (.func 72) #[] #[], .func (.func 73) #[] #[], .func (.func 74) #[] #[]] 70)) 1 (.func (.func 70) #[] #[]) (.int .i64 1) (.string an) (.string at_) (.slice aio aN aic) (.slice ako aK akc) (.string bn) (.string bt) (.slice bio bN bic) (.slice bko bK bkc)) := ⟨(HX.out.keep hw2).keep (below1 w2 _), by simp [go_sem], by simp⟩
  have HG : Hid (∀ u, VCm w w2 u 1 (.func (.func 70) #[] #[]) (.int .i64 1) (.string an) (.string at_) (.slice aio aN aic) (.slice ako aK akc) (.string bn) (.string bt) (.slice bio bN bic) (.slice bko bK bkc) → Calls Try.prog 70 #[.agg #[.int .i64 1, .string an, .string at_, .slice aio aN aic, .slice ako aK akc], .agg #[.int .i64 1, .string bn, .string bt, .slice bio bN bic, .slice bko bK bkc]] u fun e w' => e = .returned (.int .i64 c) ∧ Hid (VCm w w2 w' 1 (.func (.func 70) #[] #[]) (.int .i64 1) (.string an) (.string at_) (.slice aio aN aic) (.slice ako aK akc) (.string bn) (.string bt) (.slice bio bN bic) (.slice bko bK bkc))) := fun u hu => (HF.out u hu.v.one.below).mono fun e w' ⟨he, hb⟩ => ⟨he, hu.keep hb⟩
  clear hw2 HX HF
  have p0 := HL.out.v.one.c0
  have p1 := HL.out.v.one.c1
  have p2 := HL.out.v.one.c2
  have p3 := HL.out.v.one.c3
  have p4 := HL.out.v.one.c4
  have q0 := HL.out.v.d0
  have q1 := HL.out.v.d1
  have q2 := HL.out.v.d2
  have q3 := HL.out.v.d3
  have q4 := HL.out.v.d4
  go_wp2_with fail
  go_region_held3 (fun u => u.cell? ⟨w.heap.size, 0, none⟩ = some (.int .i64 1) ∧ u.cell? ⟨w.heap.size, 1, none⟩ = some (.string an) ∧ u.cell? ⟨w.heap.size, 2, none⟩ = some (.string at_) ∧ u.cell? ⟨w.heap.size, 3, none⟩ = some (.slice aio aN aic) ∧ u.cell? ⟨w.heap.size, 4, none⟩ = some (.slice ako aK akc) ∧ u.cell? ⟨w.heap.size + 1, 0, none⟩ = some (.int .i64 1) ∧ u.cell? ⟨w.heap.size + 1, 1, none⟩ = some (.string bn) ∧ u.cell? ⟨w.heap.size + 1, 2, none⟩ = some (.string bt) ∧ u.cell? ⟨w.heap.size + 1, 3, none⟩ = some (.slice bio bN bic) ∧ u.cell? ⟨w.heap.size + 1, 4, none⟩ = some (.slice bko bK bkc) ∧ u.cell? ⟨w2.heap.size, 1, none⟩ = some (.func (.func 70) #[] #[])) (exact ⟨HL.out.v.one.c0, HL.out.v.one.c1, HL.out.v.one.c2, HL.out.v.one.c3, HL.out.v.one.c4, HL.out.v.d0, HL.out.v.d1, HL.out.v.d2, HL.out.v.d3, HL.out.v.d4, HL.out.way⟩) (first | (go_at_call 70; refine (HG.out _ (by first | exact HL.out | exact HL.out.drew)).mono ?_; rintro e w4 ⟨rfl, HL⟩))
  all_goals clear p0 p1 p2 p3 p4 q0 q1 q2 q3 q4
  all_goals go_wp2_with fail
  all_goals go_ret
  all_goals exact ⟨rfl, HL.out.v.one.below⟩

set_option maxRecDepth 100000 in
set_option maxHeartbeats 3200000 in
theorem vcmp_2 (w : World) (an at_ : ByteArray) (aio : Option Addr) (aN aic : Nat) (ako : Option Addr) (aK akc : Nat) (bn bt : ByteArray) (bio : Option Addr) (bN bic : Nat) (bko : Option Addr) (bK bkc : Nat) (c : Int) (HF : Hid (∀ u, Below w.heap.size w u → Calls Try.prog 70 #[.agg #[.int .i64 2, .string an, .string at_, .slice aio aN aic, .slice ako aK akc], .agg #[.int .i64 2, .string bn, .string bt, .slice bio bN bic, .slice bko bK bkc]] u fun e w' => e = .returned (.int .i64 c) ∧ Below u.heap.size u w')) :
    Calls Try.prog 35 #[.agg #[.int .i64 2, .string an, .string at_, .slice aio aN aic, .slice ako aK akc], .agg #[.int .i64 2, .string bn, .string bt, .slice bio bN bic, .slice bko bK bkc]] w fun e w' => e = .returned (.int .i64 c) ∧ Below w.heap.size w w' := by
  have HX := Hid.mk (vb2_new w (.int .i64 2) (.string an) (.string at_) (.slice aio aN aic) (.slice ako aK akc) (.string bn) (.string bt) (.slice bio bN bic) (.slice bko bK bkc))
  go_enter Try.func35, Try.ntmps35
  go_wp2_with fail
  refine (w_deciders _).mono ?_
  rintro e w2 ⟨rfl, hw2⟩
  have HL : Hid (VCm w w2 (w2.alloc (.cells #[.func (.func 70) #[] #[], .func (.func 70) #[] #[], .func (.func 70) #[] #[], .func (.func 71) #[] #[], .func (.func 72) #[] #[], .func (.func 73) #[] #[], .func (.func 74) #[] #[]] 70)) 2 (.func (.func 70) #[] #[]) (.int .i64 2) (.string an) (.string at_) (.slice aio aN aic) (.slice ako aK akc) (.string bn) (.string bt) (.slice bio bN bic) (.slice bko bK bkc)) := ⟨(HX.out.keep hw2).keep (below1 w2 _), by simp [go_sem], by simp⟩
  have HG : Hid (∀ u, VCm w w2 u 2 (.func (.func 70) #[] #[]) (.int .i64 2) (.string an) (.string at_) (.slice aio aN aic) (.slice ako aK akc) (.string bn) (.string bt) (.slice bio bN bic) (.slice bko bK bkc) → Calls Try.prog 70 #[.agg #[.int .i64 2, .string an, .string at_, .slice aio aN aic, .slice ako aK akc], .agg #[.int .i64 2, .string bn, .string bt, .slice bio bN bic, .slice bko bK bkc]] u fun e w' => e = .returned (.int .i64 c) ∧ Hid (VCm w w2 w' 2 (.func (.func 70) #[] #[]) (.int .i64 2) (.string an) (.string at_) (.slice aio aN aic) (.slice ako aK akc) (.string bn) (.string bt) (.slice bio bN bic) (.slice bko bK bkc))) := fun u hu => (HF.out u hu.v.one.below).mono fun e w' ⟨he, hb⟩ => ⟨he, hu.keep hb⟩
  clear hw2 HX HF
  have p0 := HL.out.v.one.c0
  have p1 := HL.out.v.one.c1
  have p2 := HL.out.v.one.c2
  have p3 := HL.out.v.one.c3
  have p4 := HL.out.v.one.c4
  have q0 := HL.out.v.d0
  have q1 := HL.out.v.d1
  have q2 := HL.out.v.d2
  have q3 := HL.out.v.d3
  have q4 := HL.out.v.d4
  go_wp2_with fail
  go_region_held3 (fun u => u.cell? ⟨w.heap.size, 0, none⟩ = some (.int .i64 2) ∧ u.cell? ⟨w.heap.size, 1, none⟩ = some (.string an) ∧ u.cell? ⟨w.heap.size, 2, none⟩ = some (.string at_) ∧ u.cell? ⟨w.heap.size, 3, none⟩ = some (.slice aio aN aic) ∧ u.cell? ⟨w.heap.size, 4, none⟩ = some (.slice ako aK akc) ∧ u.cell? ⟨w.heap.size + 1, 0, none⟩ = some (.int .i64 2) ∧ u.cell? ⟨w.heap.size + 1, 1, none⟩ = some (.string bn) ∧ u.cell? ⟨w.heap.size + 1, 2, none⟩ = some (.string bt) ∧ u.cell? ⟨w.heap.size + 1, 3, none⟩ = some (.slice bio bN bic) ∧ u.cell? ⟨w.heap.size + 1, 4, none⟩ = some (.slice bko bK bkc) ∧ u.cell? ⟨w2.heap.size, 2, none⟩ = some (.func (.func 70) #[] #[])) (exact ⟨HL.out.v.one.c0, HL.out.v.one.c1, HL.out.v.one.c2, HL.out.v.one.c3, HL.out.v.one.c4, HL.out.v.d0, HL.out.v.d1, HL.out.v.d2, HL.out.v.d3, HL.out.v.d4, HL.out.way⟩) (first | (go_at_call 70; refine (HG.out _ (by first | exact HL.out | exact HL.out.drew)).mono ?_; rintro e w4 ⟨rfl, HL⟩))
  all_goals clear p0 p1 p2 p3 p4 q0 q1 q2 q3 q4
  all_goals go_wp2_with fail
  all_goals go_ret
  all_goals exact ⟨rfl, HL.out.v.one.below⟩

set_option maxRecDepth 100000 in
set_option maxHeartbeats 3200000 in
theorem vcmp_3 (w : World) (an at_ : ByteArray) (aio : Option Addr) (aN aic : Nat) (ako : Option Addr) (aK akc : Nat) (bn bt : ByteArray) (bio : Option Addr) (bN bic : Nat) (bko : Option Addr) (bK bkc : Nat) (c : Int) (HF : Hid (∀ u, Below w.heap.size w u → Calls Try.prog 71 #[.agg #[.int .i64 3, .string an, .string at_, .slice aio aN aic, .slice ako aK akc], .agg #[.int .i64 3, .string bn, .string bt, .slice bio bN bic, .slice bko bK bkc]] u fun e w' => e = .returned (.int .i64 c) ∧ Below u.heap.size u w')) :
    Calls Try.prog 35 #[.agg #[.int .i64 3, .string an, .string at_, .slice aio aN aic, .slice ako aK akc], .agg #[.int .i64 3, .string bn, .string bt, .slice bio bN bic, .slice bko bK bkc]] w fun e w' => e = .returned (.int .i64 c) ∧ Below w.heap.size w w' := by
  have HX := Hid.mk (vb2_new w (.int .i64 3) (.string an) (.string at_) (.slice aio aN aic) (.slice ako aK akc) (.string bn) (.string bt) (.slice bio bN bic) (.slice bko bK bkc))
  go_enter Try.func35, Try.ntmps35
  go_wp2_with fail
  refine (w_deciders _).mono ?_
  rintro e w2 ⟨rfl, hw2⟩
  have HL : Hid (VCm w w2 (w2.alloc (.cells #[.func (.func 70) #[] #[], .func (.func 70) #[] #[], .func (.func 70) #[] #[], .func (.func 71) #[] #[], .func (.func 72) #[] #[], .func (.func 73) #[] #[], .func (.func 74) #[] #[]] 70)) 3 (.func (.func 71) #[] #[]) (.int .i64 3) (.string an) (.string at_) (.slice aio aN aic) (.slice ako aK akc) (.string bn) (.string bt) (.slice bio bN bic) (.slice bko bK bkc)) := ⟨(HX.out.keep hw2).keep (below1 w2 _), by simp [go_sem], by simp⟩
  have HG : Hid (∀ u, VCm w w2 u 3 (.func (.func 71) #[] #[]) (.int .i64 3) (.string an) (.string at_) (.slice aio aN aic) (.slice ako aK akc) (.string bn) (.string bt) (.slice bio bN bic) (.slice bko bK bkc) → Calls Try.prog 71 #[.agg #[.int .i64 3, .string an, .string at_, .slice aio aN aic, .slice ako aK akc], .agg #[.int .i64 3, .string bn, .string bt, .slice bio bN bic, .slice bko bK bkc]] u fun e w' => e = .returned (.int .i64 c) ∧ Hid (VCm w w2 w' 3 (.func (.func 71) #[] #[]) (.int .i64 3) (.string an) (.string at_) (.slice aio aN aic) (.slice ako aK akc) (.string bn) (.string bt) (.slice bio bN bic) (.slice bko bK bkc))) := fun u hu => (HF.out u hu.v.one.below).mono fun e w' ⟨he, hb⟩ => ⟨he, hu.keep hb⟩
  clear hw2 HX HF
  have p0 := HL.out.v.one.c0
  have p1 := HL.out.v.one.c1
  have p2 := HL.out.v.one.c2
  have p3 := HL.out.v.one.c3
  have p4 := HL.out.v.one.c4
  have q0 := HL.out.v.d0
  have q1 := HL.out.v.d1
  have q2 := HL.out.v.d2
  have q3 := HL.out.v.d3
  have q4 := HL.out.v.d4
  go_wp2_with fail
  go_region_held3 (fun u => u.cell? ⟨w.heap.size, 0, none⟩ = some (.int .i64 3) ∧ u.cell? ⟨w.heap.size, 1, none⟩ = some (.string an) ∧ u.cell? ⟨w.heap.size, 2, none⟩ = some (.string at_) ∧ u.cell? ⟨w.heap.size, 3, none⟩ = some (.slice aio aN aic) ∧ u.cell? ⟨w.heap.size, 4, none⟩ = some (.slice ako aK akc) ∧ u.cell? ⟨w.heap.size + 1, 0, none⟩ = some (.int .i64 3) ∧ u.cell? ⟨w.heap.size + 1, 1, none⟩ = some (.string bn) ∧ u.cell? ⟨w.heap.size + 1, 2, none⟩ = some (.string bt) ∧ u.cell? ⟨w.heap.size + 1, 3, none⟩ = some (.slice bio bN bic) ∧ u.cell? ⟨w.heap.size + 1, 4, none⟩ = some (.slice bko bK bkc) ∧ u.cell? ⟨w2.heap.size, 3, none⟩ = some (.func (.func 71) #[] #[])) (exact ⟨HL.out.v.one.c0, HL.out.v.one.c1, HL.out.v.one.c2, HL.out.v.one.c3, HL.out.v.one.c4, HL.out.v.d0, HL.out.v.d1, HL.out.v.d2, HL.out.v.d3, HL.out.v.d4, HL.out.way⟩) (first | (go_at_call 71; refine (HG.out _ (by first | exact HL.out | exact HL.out.drew)).mono ?_; rintro e w4 ⟨rfl, HL⟩))
  all_goals clear p0 p1 p2 p3 p4 q0 q1 q2 q3 q4
  all_goals go_wp2_with fail
  all_goals go_ret
  all_goals exact ⟨rfl, HL.out.v.one.below⟩

set_option maxRecDepth 100000 in
set_option maxHeartbeats 3200000 in
theorem vcmp_4 (w : World) (an at_ : ByteArray) (aio : Option Addr) (aN aic : Nat) (ako : Option Addr) (aK akc : Nat) (bn bt : ByteArray) (bio : Option Addr) (bN bic : Nat) (bko : Option Addr) (bK bkc : Nat) (c : Int) (HF : Hid (∀ u, Below w.heap.size w u → Calls Try.prog 72 #[.agg #[.int .i64 4, .string an, .string at_, .slice aio aN aic, .slice ako aK akc], .agg #[.int .i64 4, .string bn, .string bt, .slice bio bN bic, .slice bko bK bkc]] u fun e w' => e = .returned (.int .i64 c) ∧ Below u.heap.size u w')) :
    Calls Try.prog 35 #[.agg #[.int .i64 4, .string an, .string at_, .slice aio aN aic, .slice ako aK akc], .agg #[.int .i64 4, .string bn, .string bt, .slice bio bN bic, .slice bko bK bkc]] w fun e w' => e = .returned (.int .i64 c) ∧ Below w.heap.size w w' := by
  have HX := Hid.mk (vb2_new w (.int .i64 4) (.string an) (.string at_) (.slice aio aN aic) (.slice ako aK akc) (.string bn) (.string bt) (.slice bio bN bic) (.slice bko bK bkc))
  go_enter Try.func35, Try.ntmps35
  go_wp2_with fail
  refine (w_deciders _).mono ?_
  rintro e w2 ⟨rfl, hw2⟩
  have HL : Hid (VCm w w2 (w2.alloc (.cells #[.func (.func 70) #[] #[], .func (.func 70) #[] #[], .func (.func 70) #[] #[], .func (.func 71) #[] #[], .func (.func 72) #[] #[], .func (.func 73) #[] #[], .func (.func 74) #[] #[]] 70)) 4 (.func (.func 72) #[] #[]) (.int .i64 4) (.string an) (.string at_) (.slice aio aN aic) (.slice ako aK akc) (.string bn) (.string bt) (.slice bio bN bic) (.slice bko bK bkc)) := ⟨(HX.out.keep hw2).keep (below1 w2 _), by simp [go_sem], by simp⟩
  have HG : Hid (∀ u, VCm w w2 u 4 (.func (.func 72) #[] #[]) (.int .i64 4) (.string an) (.string at_) (.slice aio aN aic) (.slice ako aK akc) (.string bn) (.string bt) (.slice bio bN bic) (.slice bko bK bkc) → Calls Try.prog 72 #[.agg #[.int .i64 4, .string an, .string at_, .slice aio aN aic, .slice ako aK akc], .agg #[.int .i64 4, .string bn, .string bt, .slice bio bN bic, .slice bko bK bkc]] u fun e w' => e = .returned (.int .i64 c) ∧ Hid (VCm w w2 w' 4 (.func (.func 72) #[] #[]) (.int .i64 4) (.string an) (.string at_) (.slice aio aN aic) (.slice ako aK akc) (.string bn) (.string bt) (.slice bio bN bic) (.slice bko bK bkc))) := fun u hu => (HF.out u hu.v.one.below).mono fun e w' ⟨he, hb⟩ => ⟨he, hu.keep hb⟩
  clear hw2 HX HF
  have p0 := HL.out.v.one.c0
  have p1 := HL.out.v.one.c1
  have p2 := HL.out.v.one.c2
  have p3 := HL.out.v.one.c3
  have p4 := HL.out.v.one.c4
  have q0 := HL.out.v.d0
  have q1 := HL.out.v.d1
  have q2 := HL.out.v.d2
  have q3 := HL.out.v.d3
  have q4 := HL.out.v.d4
  go_wp2_with fail
  go_region_held3 (fun u => u.cell? ⟨w.heap.size, 0, none⟩ = some (.int .i64 4) ∧ u.cell? ⟨w.heap.size, 1, none⟩ = some (.string an) ∧ u.cell? ⟨w.heap.size, 2, none⟩ = some (.string at_) ∧ u.cell? ⟨w.heap.size, 3, none⟩ = some (.slice aio aN aic) ∧ u.cell? ⟨w.heap.size, 4, none⟩ = some (.slice ako aK akc) ∧ u.cell? ⟨w.heap.size + 1, 0, none⟩ = some (.int .i64 4) ∧ u.cell? ⟨w.heap.size + 1, 1, none⟩ = some (.string bn) ∧ u.cell? ⟨w.heap.size + 1, 2, none⟩ = some (.string bt) ∧ u.cell? ⟨w.heap.size + 1, 3, none⟩ = some (.slice bio bN bic) ∧ u.cell? ⟨w.heap.size + 1, 4, none⟩ = some (.slice bko bK bkc) ∧ u.cell? ⟨w2.heap.size, 4, none⟩ = some (.func (.func 72) #[] #[])) (exact ⟨HL.out.v.one.c0, HL.out.v.one.c1, HL.out.v.one.c2, HL.out.v.one.c3, HL.out.v.one.c4, HL.out.v.d0, HL.out.v.d1, HL.out.v.d2, HL.out.v.d3, HL.out.v.d4, HL.out.way⟩) (first | (go_at_call 72; refine (HG.out _ (by first | exact HL.out | exact HL.out.drew)).mono ?_; rintro e w4 ⟨rfl, HL⟩))
  all_goals clear p0 p1 p2 p3 p4 q0 q1 q2 q3 q4
  all_goals go_wp2_with fail
  all_goals go_ret
  all_goals exact ⟨rfl, HL.out.v.one.below⟩

set_option maxRecDepth 100000 in
set_option maxHeartbeats 3200000 in
theorem vcmp_5 (w : World) (an at_ : ByteArray) (aio : Option Addr) (aN aic : Nat) (ako : Option Addr) (aK akc : Nat) (bn bt : ByteArray) (bio : Option Addr) (bN bic : Nat) (bko : Option Addr) (bK bkc : Nat) (c : Int) (HF : Hid (∀ u, Below w.heap.size w u → Calls Try.prog 73 #[.agg #[.int .i64 5, .string an, .string at_, .slice aio aN aic, .slice ako aK akc], .agg #[.int .i64 5, .string bn, .string bt, .slice bio bN bic, .slice bko bK bkc]] u fun e w' => e = .returned (.int .i64 c) ∧ Below u.heap.size u w')) :
    Calls Try.prog 35 #[.agg #[.int .i64 5, .string an, .string at_, .slice aio aN aic, .slice ako aK akc], .agg #[.int .i64 5, .string bn, .string bt, .slice bio bN bic, .slice bko bK bkc]] w fun e w' => e = .returned (.int .i64 c) ∧ Below w.heap.size w w' := by
  have HX := Hid.mk (vb2_new w (.int .i64 5) (.string an) (.string at_) (.slice aio aN aic) (.slice ako aK akc) (.string bn) (.string bt) (.slice bio bN bic) (.slice bko bK bkc))
  go_enter Try.func35, Try.ntmps35
  go_wp2_with fail
  refine (w_deciders _).mono ?_
  rintro e w2 ⟨rfl, hw2⟩
  have HL : Hid (VCm w w2 (w2.alloc (.cells #[.func (.func 70) #[] #[], .func (.func 70) #[] #[], .func (.func 70) #[] #[], .func (.func 71) #[] #[], .func (.func 72) #[] #[], .func (.func 73) #[] #[], .func (.func 74) #[] #[]] 70)) 5 (.func (.func 73) #[] #[]) (.int .i64 5) (.string an) (.string at_) (.slice aio aN aic) (.slice ako aK akc) (.string bn) (.string bt) (.slice bio bN bic) (.slice bko bK bkc)) := ⟨(HX.out.keep hw2).keep (below1 w2 _), by simp [go_sem], by simp⟩
  have HG : Hid (∀ u, VCm w w2 u 5 (.func (.func 73) #[] #[]) (.int .i64 5) (.string an) (.string at_) (.slice aio aN aic) (.slice ako aK akc) (.string bn) (.string bt) (.slice bio bN bic) (.slice bko bK bkc) → Calls Try.prog 73 #[.agg #[.int .i64 5, .string an, .string at_, .slice aio aN aic, .slice ako aK akc], .agg #[.int .i64 5, .string bn, .string bt, .slice bio bN bic, .slice bko bK bkc]] u fun e w' => e = .returned (.int .i64 c) ∧ Hid (VCm w w2 w' 5 (.func (.func 73) #[] #[]) (.int .i64 5) (.string an) (.string at_) (.slice aio aN aic) (.slice ako aK akc) (.string bn) (.string bt) (.slice bio bN bic) (.slice bko bK bkc))) := fun u hu => (HF.out u hu.v.one.below).mono fun e w' ⟨he, hb⟩ => ⟨he, hu.keep hb⟩
  clear hw2 HX HF
  have p0 := HL.out.v.one.c0
  have p1 := HL.out.v.one.c1
  have p2 := HL.out.v.one.c2
  have p3 := HL.out.v.one.c3
  have p4 := HL.out.v.one.c4
  have q0 := HL.out.v.d0
  have q1 := HL.out.v.d1
  have q2 := HL.out.v.d2
  have q3 := HL.out.v.d3
  have q4 := HL.out.v.d4
  go_wp2_with fail
  go_region_held3 (fun u => u.cell? ⟨w.heap.size, 0, none⟩ = some (.int .i64 5) ∧ u.cell? ⟨w.heap.size, 1, none⟩ = some (.string an) ∧ u.cell? ⟨w.heap.size, 2, none⟩ = some (.string at_) ∧ u.cell? ⟨w.heap.size, 3, none⟩ = some (.slice aio aN aic) ∧ u.cell? ⟨w.heap.size, 4, none⟩ = some (.slice ako aK akc) ∧ u.cell? ⟨w.heap.size + 1, 0, none⟩ = some (.int .i64 5) ∧ u.cell? ⟨w.heap.size + 1, 1, none⟩ = some (.string bn) ∧ u.cell? ⟨w.heap.size + 1, 2, none⟩ = some (.string bt) ∧ u.cell? ⟨w.heap.size + 1, 3, none⟩ = some (.slice bio bN bic) ∧ u.cell? ⟨w.heap.size + 1, 4, none⟩ = some (.slice bko bK bkc) ∧ u.cell? ⟨w2.heap.size, 5, none⟩ = some (.func (.func 73) #[] #[])) (exact ⟨HL.out.v.one.c0, HL.out.v.one.c1, HL.out.v.one.c2, HL.out.v.one.c3, HL.out.v.one.c4, HL.out.v.d0, HL.out.v.d1, HL.out.v.d2, HL.out.v.d3, HL.out.v.d4, HL.out.way⟩) (first | (go_at_call 73; refine (HG.out _ (by first | exact HL.out | exact HL.out.drew)).mono ?_; rintro e w4 ⟨rfl, HL⟩))
  all_goals clear p0 p1 p2 p3 p4 q0 q1 q2 q3 q4
  all_goals go_wp2_with fail
  all_goals go_ret
  all_goals exact ⟨rfl, HL.out.v.one.below⟩

set_option maxRecDepth 100000 in
set_option maxHeartbeats 3200000 in
theorem vcmp_6 (w : World) (an at_ : ByteArray) (aio : Option Addr) (aN aic : Nat) (ako : Option Addr) (aK akc : Nat) (bn bt : ByteArray) (bio : Option Addr) (bN bic : Nat) (bko : Option Addr) (bK bkc : Nat) (c : Int) (HF : Hid (∀ u, Below w.heap.size w u → Calls Try.prog 74 #[.agg #[.int .i64 6, .string an, .string at_, .slice aio aN aic, .slice ako aK akc], .agg #[.int .i64 6, .string bn, .string bt, .slice bio bN bic, .slice bko bK bkc]] u fun e w' => e = .returned (.int .i64 c) ∧ Below u.heap.size u w')) :
    Calls Try.prog 35 #[.agg #[.int .i64 6, .string an, .string at_, .slice aio aN aic, .slice ako aK akc], .agg #[.int .i64 6, .string bn, .string bt, .slice bio bN bic, .slice bko bK bkc]] w fun e w' => e = .returned (.int .i64 c) ∧ Below w.heap.size w w' := by
  have HX := Hid.mk (vb2_new w (.int .i64 6) (.string an) (.string at_) (.slice aio aN aic) (.slice ako aK akc) (.string bn) (.string bt) (.slice bio bN bic) (.slice bko bK bkc))
  go_enter Try.func35, Try.ntmps35
  go_wp2_with fail
  refine (w_deciders _).mono ?_
  rintro e w2 ⟨rfl, hw2⟩
  have HL : Hid (VCm w w2 (w2.alloc (.cells #[.func (.func 70) #[] #[], .func (.func 70) #[] #[], .func (.func 70) #[] #[], .func (.func 71) #[] #[], .func (.func 72) #[] #[], .func (.func 73) #[] #[], .func (.func 74) #[] #[]] 70)) 6 (.func (.func 74) #[] #[]) (.int .i64 6) (.string an) (.string at_) (.slice aio aN aic) (.slice ako aK akc) (.string bn) (.string bt) (.slice bio bN bic) (.slice bko bK bkc)) := ⟨(HX.out.keep hw2).keep (below1 w2 _), by simp [go_sem], by simp⟩
  have HG : Hid (∀ u, VCm w w2 u 6 (.func (.func 74) #[] #[]) (.int .i64 6) (.string an) (.string at_) (.slice aio aN aic) (.slice ako aK akc) (.string bn) (.string bt) (.slice bio bN bic) (.slice bko bK bkc) → Calls Try.prog 74 #[.agg #[.int .i64 6, .string an, .string at_, .slice aio aN aic, .slice ako aK akc], .agg #[.int .i64 6, .string bn, .string bt, .slice bio bN bic, .slice bko bK bkc]] u fun e w' => e = .returned (.int .i64 c) ∧ Hid (VCm w w2 w' 6 (.func (.func 74) #[] #[]) (.int .i64 6) (.string an) (.string at_) (.slice aio aN aic) (.slice ako aK akc) (.string bn) (.string bt) (.slice bio bN bic) (.slice bko bK bkc))) := fun u hu => (HF.out u hu.v.one.below).mono fun e w' ⟨he, hb⟩ => ⟨he, hu.keep hb⟩
  clear hw2 HX HF
  have p0 := HL.out.v.one.c0
  have p1 := HL.out.v.one.c1
  have p2 := HL.out.v.one.c2
  have p3 := HL.out.v.one.c3
  have p4 := HL.out.v.one.c4
  have q0 := HL.out.v.d0
  have q1 := HL.out.v.d1
  have q2 := HL.out.v.d2
  have q3 := HL.out.v.d3
  have q4 := HL.out.v.d4
  go_wp2_with fail
  go_region_held3 (fun u => u.cell? ⟨w.heap.size, 0, none⟩ = some (.int .i64 6) ∧ u.cell? ⟨w.heap.size, 1, none⟩ = some (.string an) ∧ u.cell? ⟨w.heap.size, 2, none⟩ = some (.string at_) ∧ u.cell? ⟨w.heap.size, 3, none⟩ = some (.slice aio aN aic) ∧ u.cell? ⟨w.heap.size, 4, none⟩ = some (.slice ako aK akc) ∧ u.cell? ⟨w.heap.size + 1, 0, none⟩ = some (.int .i64 6) ∧ u.cell? ⟨w.heap.size + 1, 1, none⟩ = some (.string bn) ∧ u.cell? ⟨w.heap.size + 1, 2, none⟩ = some (.string bt) ∧ u.cell? ⟨w.heap.size + 1, 3, none⟩ = some (.slice bio bN bic) ∧ u.cell? ⟨w.heap.size + 1, 4, none⟩ = some (.slice bko bK bkc) ∧ u.cell? ⟨w2.heap.size, 6, none⟩ = some (.func (.func 74) #[] #[])) (exact ⟨HL.out.v.one.c0, HL.out.v.one.c1, HL.out.v.one.c2, HL.out.v.one.c3, HL.out.v.one.c4, HL.out.v.d0, HL.out.v.d1, HL.out.v.d2, HL.out.v.d3, HL.out.v.d4, HL.out.way⟩) (first | (go_at_call 74; refine (HG.out _ (by first | exact HL.out | exact HL.out.drew)).mono ?_; rintro e w4 ⟨rfl, HL⟩))
  all_goals clear p0 p1 p2 p3 p4 q0 q1 q2 q3 q4
  all_goals go_wp2_with fail
  all_goals go_ret
  all_goals exact ⟨rfl, HL.out.v.one.below⟩
end Go.Proofs.Ytmknelkgfnklfaa
namespace Go.Proofs.Ytmknelkgfnklfaa
open Go.RowKit
set_option linter.unusedVariables false
set_option linter.unusedSimpArgs false

theorem VT.kind_bool (a b : Int) (h : a ≠ b) : (a != b) = true := by simpa using h
set_option maxRecDepth 100000 in
set_option maxHeartbeats 3200000 in
theorem vcmp_ne (w : World) (ka kb : Int) (hk : ¬ ka = kb) (an at_ : ByteArray) (aio : Option Addr) (aN aic : Nat) (ako : Option Addr) (aK akc : Nat) (bn bt : ByteArray) (bio : Option Addr) (bN bic : Nat) (bko : Option Addr) (bK bkc : Nat) :
    Calls Try.prog 35 #[.agg #[.int .i64 ka, .string an, .string at_, .slice aio aN aic, .slice ako aK akc], .agg #[.int .i64 kb, .string bn, .string bt, .slice bio bN bic, .slice bko bK bkc]] w fun e w' => e = .returned (.int .i64 (Pl.cmpI ka kb)) ∧ Below w.heap.size w w' := by
  have HB := Hid.mk (below2 w (.cells #[.int .i64 ka, .string an, .string at_, .slice aio aN aic, .slice ako aK akc] 25) (.cells #[.int .i64 kb, .string bn, .string bt, .slice bio bN bic, .slice bko bK bkc] 25))
  have hk' := VT.kind_bool ka kb hk
  have HC := Hid.mk (fun u => w_CompareInt ka kb u)
  generalize Pl.cmpI ka kb = c at HC ⊢
  clear hk
  go_enter Try.func35, Try.ntmps35
  go_wp2_with fail
  refine (HC.out _).mono ?_
  rintro e w1 ⟨rfl, hw⟩
  obtain rfl := hw.symm
  go_wp2_with fail
  go_ret
  exact ⟨rfl, HB.out⟩

set_option maxRecDepth 100000 in
set_option maxHeartbeats 3200000 in
theorem vcmp_else (w : World) (ka : Int) (hk : ka < 0 ∨ 6 < ka) (an at_ : ByteArray) (aio : Option Addr) (aN aic : Nat) (ako : Option Addr) (aK akc : Nat) (bn bt : ByteArray) (bio : Option Addr) (bN bic : Nat) (bko : Option Addr) (bK bkc : Nat) :
    Calls Try.prog 35 #[.agg #[.int .i64 ka, .string an, .string at_, .slice aio aN aic, .slice ako aK akc], .agg #[.int .i64 ka, .string bn, .string bt, .slice bio bN bic, .slice bko bK bkc]] w fun e w' => e = .returned (.int .i64 0) ∧ Below w.heap.size w w' := by
  have HX := Hid.mk (vb2_new w (.int .i64 ka) (.string an) (.string at_) (.slice aio aN aic) (.slice ako aK akc) (.string bn) (.string bt) (.slice bio bN bic) (.slice bko bK bkc))
  rcases hk with hk | hk
  · go_enter Try.func35, Try.ntmps35
    go_wp2_with fail
    refine (w_deciders _).mono ?_
    rintro e w2 ⟨rfl, hw2⟩
    have HL := Hid.mk ((HX.out.keep hw2).keep (below1 w2 (.cells wayC 70)))
    unfold wayC at HL
    clear hw2 HX
    have p0 := HL.out.one.c0
    go_wp2_with fail
    go_ret
    exact ⟨rfl, HL.out.one.below⟩
  · have hk1 : ¬ ka < 0 := by omega
    have hk2 : 7 ≤ ka := by omega
    clear hk
    go_enter Try.func35, Try.ntmps35
    go_wp2_with fail
    refine (w_deciders _).mono ?_
    rintro e w2 ⟨rfl, hw2⟩
    have HL := Hid.mk ((HX.out.keep hw2).keep (below1 w2 (.cells wayC 70)))
    unfold wayC at HL
    clear hw2 HX
    have p0 := HL.out.one.c0
    go_wp2_with fail
    go_ret
    exact ⟨rfl, HL.out.one.below⟩

theorem cmpV_ne {ka kb : Int} (hk : ¬ ka = kb) (nc tc kc ic : Int) : cmpV ka kb nc tc kc ic = Pl.cmpI ka kb := by
  unfold cmpV Pl.cmpI
  by_cases h : ka < kb
  · rw [if_pos h, if_pos h]
  · rw [if_neg h, if_neg h, if_pos (by omega), if_pos (by omega)]
theorem cmpV_eq (k : Int) (nc tc kc ic : Int) : cmpV k k nc tc kc ic = if k = 3 then nc else if k = 4 then tc else if k = 5 then ic else if k = 6 then (if kc = 0 then ic else kc) else 0 := by
  unfold cmpV; rw [if_neg (by omega), if_neg (by omega)]

theorem w_vCmp : ∀ h, FcOk h
  | 0 => fun A B va vb w hA _ => hA.elim
  | h + 1 => fun A B va vb w hA hB => by
    obtain ⟨io, icap, ko, kcap, rfl, a1, a2, a3, a4, a5, a6, a7, hk, hi⟩ := hA.open
    obtain ⟨jo, jcap, lo, lcap, rfl, b1, b2, b3, b4, b5, b6, b7, hl, hj⟩ := hB.open
    show Calls Try.prog 35 _ w fun e w' => e = .returned (.int .i64 (cmpV A.kind B.kind (numC A.num B.num) (keyC A.text B.text) (listC keyC A.keys B.keys) (listC (cmpH h) A.items B.items))) ∧ Below w.heap.size w w'
    by_cases ek : A.kind = B.kind
    · have HCI : Hid (∀ u, Below w.heap.size w u → Calls Try.prog 80 #[.slice io A.items.length icap, .slice jo B.items.length jcap, .func (.func 35) #[] #[]] u fun e w' => e = .returned (.int .i64 (listC (cmpH h) A.items B.items)) ∧ Below u.heap.size u w') :=
        fun u hu => w_slCompareFunc h (w_vCmp h) io _ icap A.items jo _ jcap B.items u (hi.keep hu) (hj.keep hu) rfl rfl a5 b5 a3 b3
      have HCK : Hid (∀ u, Below w.heap.size w u → Calls Try.prog 81 #[.slice ko A.keys.length kcap, .slice lo B.keys.length lcap] u fun e w' => e = .returned (.int .i64 (listC keyC A.keys B.keys)) ∧ w' = u) :=
        fun u hu => w_slCompare ko _ kcap A.keys lo _ lcap B.keys u (hk.keep hu) (hl.keep hu) rfl rfl a6 b6 a4 b4
      rw [← ek, cmpV_eq]
      generalize A.kind = kd
      by_cases h3 : kd = 3
      · rw [if_pos h3, h3]
        exact vcmp_3 w _ _ _ _ _ _ _ _ _ _ _ _ _ _ _ _ _ (fun u hu => w_byWorth 3 3 _ _ _ _ _ _ _ _ _ _ _ _ _ _ _ _ a1 b1 u)
      rw [if_neg h3]
      by_cases h4 : kd = 4
      · rw [if_pos h4, h4]
        exact vcmp_4 w _ _ _ _ _ _ _ _ _ _ _ _ _ _ _ _ _ (fun u hu => w_byText 4 4 _ _ _ _ _ _ _ _ _ _ _ _ _ _ _ _ u)
      rw [if_neg h4]
      by_cases h5 : kd = 5
      · rw [if_pos h5, h5]
        exact vcmp_5 w _ _ _ _ _ _ _ _ _ _ _ _ _ _ _ _ _ (fun u hu => w_byItems u 5 5 _ _ _ _ _ _ _ _ _ _ _ _ _ _ _ _ _ (fun u2 hu2 => HCI.out u2 (below_more hu hu2)))
      rw [if_neg h5]
      by_cases h6 : kd = 6
      · rw [if_pos h6, h6]
        exact vcmp_6 w _ _ _ _ _ _ _ _ _ _ _ _ _ _ _ _ _ (fun u hu => w_byFields u 6 6 _ _ _ _ _ _ _ _ _ _ _ _ _ _ _ _ _ _ (fun u2 hu2 => HCI.out u2 (below_more hu hu2)) (fun u2 hu2 => HCK.out u2 (below_more hu hu2)))
      rw [if_neg h6]
      by_cases h0 : kd = 0
      · rw [h0]; exact vcmp_0 w _ _ _ _ _ _ _ _ _ _ _ _ _ _ _ _ _ (fun u hu => w_alike 0 0 _ _ _ _ _ _ _ _ _ _ _ _ _ _ _ _ u)
      by_cases h1 : kd = 1
      · rw [h1]; exact vcmp_1 w _ _ _ _ _ _ _ _ _ _ _ _ _ _ _ _ _ (fun u hu => w_alike 1 1 _ _ _ _ _ _ _ _ _ _ _ _ _ _ _ _ u)
      by_cases h2 : kd = 2
      · rw [h2]; exact vcmp_2 w _ _ _ _ _ _ _ _ _ _ _ _ _ _ _ _ _ (fun u hu => w_alike 2 2 _ _ _ _ _ _ _ _ _ _ _ _ _ _ _ _ u)
      exact vcmp_else w kd (by omega) _ _ _ _ _ _ _ _ _ _ _ _ _ _ _ _
    · rw [cmpV_ne ek]
      exact vcmp_ne w _ _ ek _ _ _ _ _ _ _ _ _ _ _ _ _ _ _ _
end Go.Proofs.Ytmknelkgfnklfaa
