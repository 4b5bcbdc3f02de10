import Derived.Test.YtjfbbdhmcljhnaaZO3
import Derived.Laws.EntriesVeiled
import Derived.Deep.RegionHeld3
namespace Go.Proofs.Ytjfbbdhmcljhnaa
open Go.RowKit
set_option linter.unusedVariables false
set_option linter.unusedSimpArgs false

set_option maxRecDepth 100000 in
set_option maxHeartbeats 3200000 in
theorem w_alike (ka kb : Int) (an at_ : ByteArray) (aio : Option Addr) (aN aic : Nat) (ako : Option Addr) (aK akc : Nat) (bn bt : ByteArray) (bio : Option Addr) (bN bic : Nat) (bko : Option Addr) (bK bkc : Nat) (w : World) :
    Calls Try.prog 62 #[.agg #[.int .i64 ka, .string an, .string at_, .slice aio aN aic, .slice ako aK akc], .agg #[.int .i64 kb, .string bn, .string bt, .slice bio bN bic, .slice bko bK bkc]] w fun e w' => e = .returned (.int .i64 (0)) ∧ Below w.heap.size w w' := by
  have HB := Hid.mk (below2 w (.cells #[.int .i64 ka, .string an, .string at_, .slice aio aN aic, .slice ako aK akc] 56) (.cells #[.int .i64 kb, .string bn, .string bt, .slice bio bN bic, .slice bko bK bkc] 56))
  go_enter Try.func62, Try.ntmps62
  go_wp2_with fail
  go_ret
  exact ⟨rfl, HB.out⟩

set_option maxRecDepth 100000 in
set_option maxHeartbeats 3200000 in
theorem w_byWorth (ka kb : Int) (an at_ : ByteArray) (aio : Option Addr) (aN aic : Nat) (ako : Option Addr) (aK akc : Nat) (bn bt : ByteArray) (bio : Option Addr) (bN bic : Nat) (bko : Option Addr) (bK bkc : Nat) (ha : an.size ≤ 140737488355328) (hb : bn.size ≤ 140737488355328) (w : World) :
    Calls Try.prog 63 #[.agg #[.int .i64 ka, .string an, .string at_, .slice aio aN aic, .slice ako aK akc], .agg #[.int .i64 kb, .string bn, .string bt, .slice bio bN bic, .slice bko bK bkc]] w fun e w' => e = .returned (.int .i64 (numC an bn)) ∧ Below w.heap.size w w' := by
  have HB := Hid.mk (below2 w (.cells #[.int .i64 ka, .string an, .string at_, .slice aio aN aic, .slice ako aK akc] 56) (.cells #[.int .i64 kb, .string bn, .string bt, .slice bio bN bic, .slice bko bK bkc] 56))
  have HC := Hid.mk (fun u => w_Cmp an bn u (by unfold maxLen; omega) (by unfold maxLen; omega))
  have hc : Pl.cmpN an.data.toList bn.data.toList = numC an bn := rfl
  rw [hc] at HC
  generalize numC an bn = c at HC ⊢
  generalize Pl.errN an.data.toList bn.data.toList = er at HC
  clear hc ha hb
  go_enter Try.func63, Try.ntmps63
  go_wp2_with fail
  refine (HC.out _).mono ?_
  rintro e w1 ⟨rfl, hb1⟩
  have HB1 := Hid.mk (below_more HB.out hb1)
  clear hb1
  go_wp2_with fail
  go_ret
  exact ⟨rfl, HB1.out⟩

set_option maxRecDepth 100000 in
set_option maxHeartbeats 3200000 in
theorem w_byText (ka kb : Int) (an at_ : ByteArray) (aio : Option Addr) (aN aic : Nat) (ako : Option Addr) (aK akc : Nat) (bn bt : ByteArray) (bio : Option Addr) (bN bic : Nat) (bko : Option Addr) (bK bkc : Nat) (w : World) :
    Calls Try.prog 64 #[.agg #[.int .i64 ka, .string an, .string at_, .slice aio aN aic, .slice ako aK akc], .agg #[.int .i64 kb, .string bn, .string bt, .slice bio bN bic, .slice bko bK bkc]] w fun e w' => e = .returned (.int .i64 (keyC at_ bt)) ∧ Below w.heap.size w w' := by
  have HB := Hid.mk (below2 w (.cells #[.int .i64 ka, .string an, .string at_, .slice aio aN aic, .slice ako aK akc] 56) (.cells #[.int .i64 kb, .string bn, .string bt, .slice bio bN bic, .slice bko bK bkc] 56))
  have HC := Hid.mk (fun u => w_CompareString at_ bt u)
  have hc : Pl.cmpS at_.toList bt.toList = keyC at_ bt := rfl
  rw [hc] at HC
  generalize keyC at_ bt = c at HC ⊢
  clear hc
  go_enter Try.func64, Try.ntmps64
  go_wp2_with fail
  refine (HC.out _).mono ?_
  rintro e w1 ⟨rfl, hw⟩
  obtain rfl := hw.symm
  go_wp2_with fail
  go_ret
  exact ⟨rfl, HB.out⟩

set_option maxRecDepth 100000 in
set_option maxHeartbeats 3200000 in
theorem w_byItems (w : World) (ka kb : Int) (an at_ : ByteArray) (aio : Option Addr) (aN aic : Nat) (ako : Option Addr) (aK akc : Nat) (bn bt : ByteArray) (bio : Option Addr) (bN bic : Nat) (bko : Option Addr) (bK bkc : Nat) (c : Int) (HC : Hid (∀ u, Below w.heap.size w u → Calls Try.prog 78 #[.slice aio aN aic, .slice bio bN bic, .func (.func 14) #[] #[]] u fun e w' => e = .returned (.int .i64 c) ∧ Below u.heap.size u w')) :
    Calls Try.prog 65 #[.agg #[.int .i64 ka, .string an, .string at_, .slice aio aN aic, .slice ako aK akc], .agg #[.int .i64 kb, .string bn, .string bt, .slice bio bN bic, .slice bko bK bkc]] w fun e w' => e = .returned (.int .i64 (c)) ∧ Below w.heap.size w w' := by
  have HB := Hid.mk (below2 w (.cells #[.int .i64 ka, .string an, .string at_, .slice aio aN aic, .slice ako aK akc] 56) (.cells #[.int .i64 kb, .string bn, .string bt, .slice bio bN bic, .slice bko bK bkc] 56))
  go_enter Try.func65, Try.ntmps65
  go_wp2_with fail
  refine (HC.out _ HB.out).mono ?_
  rintro e w1 ⟨rfl, hb1⟩
  have HB1 := Hid.mk (below_more HB.out hb1)
  clear hb1
  go_wp2_with fail
  go_ret
  exact ⟨rfl, HB1.out⟩

set_option maxRecDepth 100000 in
set_option maxHeartbeats 3200000 in
theorem w_byFields (w : World) (ka kb : Int) (an at_ : ByteArray) (aio : Option Addr) (aN aic : Nat) (ako : Option Addr) (aK akc : Nat) (bn bt : ByteArray) (bio : Option Addr) (bN bic : Nat) (bko : Option Addr) (bK bkc : Nat) (c kc : Int) (HC : Hid (∀ u, Below w.heap.size w u → Calls Try.prog 78 #[.slice aio aN aic, .slice bio bN bic, .func (.func 14) #[] #[]] u fun e w' => e = .returned (.int .i64 c) ∧ Below u.heap.size u w')) (HK : Hid (∀ u, Below w.heap.size w u → Calls Try.prog 79 #[.slice ako aK akc, .slice bko bK bkc] u fun e w' => e = .returned (.int .i64 kc) ∧ w' = u)) :
    Calls Try.prog 66 #[.agg #[.int .i64 ka, .string an, .string at_, .slice aio aN aic, .slice ako aK akc], .agg #[.int .i64 kb, .string bn, .string bt, .slice bio bN bic, .slice bko bK bkc]] w fun e w' => e = .returned (.int .i64 (if kc = 0 then c else kc)) ∧ Below w.heap.size w w' := by
  have HB := Hid.mk (below2 w (.cells #[.int .i64 ka, .string an, .string at_, .slice aio aN aic, .slice ako aK akc] 56) (.cells #[.int .i64 kb, .string bn, .string bt, .slice bio bN bic, .slice bko bK bkc] 56))
  by_cases h0 : kc = 0
  · subst h0
    rw [if_pos rfl]
    have HI := Hid.mk (w_byItems ((w.alloc (.cells #[.int .i64 ka, .string an, .string at_, .slice aio aN aic, .slice ako aK akc] 56)).alloc (.cells #[.int .i64 kb, .string bn, .string bt, .slice bio bN bic, .slice bko bK bkc] 56)) ka kb an at_ aio aN aic ako aK akc bn bt bio bN bic bko bK bkc c (fun u hu => HC.out u (below_more HB.out hu)))
    go_enter Try.func66, Try.ntmps66
    go_wp2_with fail
    refine (HK.out _ HB.out).mono ?_
    rintro e w1 ⟨rfl, hw⟩
    obtain rfl := hw.symm
    go_wp2_with fail
    refine HI.out.mono ?_
    rintro e w2 ⟨rfl, hb2⟩
    have HB2 := Hid.mk (below_more HB.out hb2)
    clear hb2
    go_wp2_with fail
    go_ret
    exact ⟨rfl, HB2.out⟩
  · rw [if_neg h0]
    have h0' : (kc != 0) = true := by simpa using h0
    clear h0
    go_enter Try.func66, Try.ntmps66
    go_wp2_with fail
    refine (HK.out _ HB.out).mono ?_
    rintro e w1 ⟨rfl, hw⟩
    obtain rfl := hw.symm
    go_wp2_with fail
    go_ret
    exact ⟨rfl, HB.out⟩

/-- the ways of deciding, by the kind's number -/
abbrev wayC : Array Value := #[.func (.func 62) #[] #[], .func (.func 62) #[] #[], .func (.func 62) #[] #[], .func (.func 63) #[] #[], .func (.func 64) #[] #[], .func (.func 65) #[] #[], .func (.func 66) #[] #[]]
set_option maxRecDepth 100000 in
set_option maxHeartbeats 3200000 in
theorem w_deciders (w : World) : Calls Try.prog 44 #[] w fun e w' => e = .returned (.agg #[.func (.func 62) #[] #[], .func (.func 62) #[] #[], .func (.func 62) #[] #[], .func (.func 63) #[] #[], .func (.func 64) #[] #[], .func (.func 65) #[] #[], .func (.func 66) #[] #[]]) ∧ Below w.heap.size w w' := by
  have HB := Hid.mk (below1 w (.cells #[.func (.func 62) #[] #[], .func (.func 62) #[] #[], .func (.func 62) #[] #[], .func (.func 63) #[] #[], .func (.func 64) #[] #[], .func (.func 65) #[] #[], .func (.func 66) #[] #[]] 54))
  go_enter Try.func44, Try.ntmps44
  go_wp2_with fail
  (try simp only [Exit.inBlock, Exit.then])
  refine bodyPost_ret (v := .agg #[.func (.func 62) #[] #[], .func (.func 62) #[] #[], .func (.func 62) #[] #[], .func (.func 63) #[] #[], .func (.func 64) #[] #[], .func (.func 65) #[] #[], .func (.func 66) #[] #[]]) (by simp [results, Try.results44, go_sem]) rfl ?_
  exact ⟨rfl, HB.out⟩
end Go.Proofs.Ytjfbbdhmcljhnaa
