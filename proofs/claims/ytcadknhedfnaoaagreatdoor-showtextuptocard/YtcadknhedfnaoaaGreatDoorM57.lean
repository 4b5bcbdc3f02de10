import Derived.Test.YtcadknhedfnaoaaGreatDoorM56
import Derived.Test.YtcadknhedfnaoaaGreatDoorM55
namespace Go.Proofs.YtcadknhedfnaoaaGreatDoor
open Go.RowKit Go.Shelf Go.Sort
set_option linter.unusedVariables false
set_option linter.unusedSimpArgs false
attribute [local go_sem] Oper.semAt_some

set_option maxRecDepth 100000 in
set_option maxHeartbeats 3200000 in
theorem w_rpInner7 (w : World) (aat avk : Int) (atx avn avx : ByteArray) (aio ayo ano ako : Option Addr) (avi aic avy ayc ann anc N kc : Nat) (X : List UInt8) (hc : ∀ u, Below w.heap.size w u → Calls Tryz.prog 37 #[.agg #[.int .i64 7, .int .i64 aat, .string atx, .int .i64 avk, .string avn, .string avx, .slice aio avi aic, .slice ayo avy ayc, .slice ano ann anc, .slice ako N kc]] u fun e w' => e = .returned (.string (bs X)) ∧ Below u.heap.size u w') : Calls Tryz.prog 13 #[.agg #[.int .i64 7, .int .i64 aat, .string atx, .int .i64 avk, .string avn, .string avx, .slice aio avi aic, .slice ayo avy ayc, .slice ano ann anc, .slice ako N kc]] w fun e w' => e = .returned (.string (bs (X))) ∧ Below w.heap.size w w' := by
  have HSg : Hid (∀ u, Calls Tryz.prog 31 #[.int .i64 7] u fun e w' => e = .returned (.tuple #[.string (bs (pRow 7).1), .int .i64 ((pRow 7).2.2.1 : Int), .int .i64 ((pRow 7).2.2.2 : Int)]) ∧ w' = u) := fun u => w_psign 7 u
  have HSg : Hid (∀ u, Calls Tryz.prog 31 #[.int .i64 7] u fun e w' => e = .returned (.tuple #[.string ⟨#[]⟩, .int .i64 0, .int .i64 0]) ∧ w' = u) := HSg.out
  have HC := Hid.mk hc
  obtain ⟨W1, hW1⟩ : ∃ W1, w.alloc (.cells #[.int .i64 7, .int .i64 aat, .string atx, .int .i64 avk, .string avn, .string avx, .slice aio avi aic, .slice ayo avy ayc, .slice ano ann anc, .slice ako N kc] 28) = W1 := ⟨_, rfl⟩
  have HX1 := Hid.mk (B1.new hW1)
  clear hc
  generalize bs X = Y at *
  go_enter Tryz.func13, Tryz.ntmps13
  obtain ⟨x0, x1, x2, x3, x4, x5, x6, x7, x8, x9⟩ := nd_cells HX1.out.a
  go_wp2_with fail
  refine (HSg.out _).mono ?_
  rintro e wx ⟨rfl, hwx⟩
  obtain rfl := hwx.symm
  clear x0 x1 x2 x3 x4 x5 x6 x7 x8 x9
  obtain ⟨x0, x1, x2, x3, x4, x5, x6, x7, x8, x9⟩ := nd_cells HX1.out.a
  go_wp2_with fail
  refine (HC.out _ HX1.out.below).mono ?_
  rintro e w2 ⟨rfl, hb⟩
  have HX2 := Hid.mk (HX1.out.keep hb)
  clear hb hW1
  clear x0 x1 x2 x3 x4 x5 x6 x7 x8 x9
  go_wp2_with fail
  go_ret
  exact ⟨rfl, HX2.out.below⟩

set_option maxRecDepth 100000 in
set_option maxHeartbeats 3200000 in
theorem w_rpInner8 (w : World) (aat avk : Int) (atx avn avx : ByteArray) (aio ayo ano ako : Option Addr) (avi aic avy ayc ann anc N kc : Nat) (X : List UInt8) (hc : ∀ u, Below w.heap.size w u → Calls Tryz.prog 37 #[.agg #[.int .i64 8, .int .i64 aat, .string atx, .int .i64 avk, .string avn, .string avx, .slice aio avi aic, .slice ayo avy ayc, .slice ano ann anc, .slice ako N kc]] u fun e w' => e = .returned (.string (bs X)) ∧ Below u.heap.size u w') : Calls Tryz.prog 13 #[.agg #[.int .i64 8, .int .i64 aat, .string atx, .int .i64 avk, .string avn, .string avx, .slice aio avi aic, .slice ayo avy ayc, .slice ano ann anc, .slice ako N kc]] w fun e w' => e = .returned (.string (bs (X))) ∧ Below w.heap.size w w' := by
  have HSg : Hid (∀ u, Calls Tryz.prog 31 #[.int .i64 8] u fun e w' => e = .returned (.tuple #[.string (bs (pRow 8).1), .int .i64 ((pRow 8).2.2.1 : Int), .int .i64 ((pRow 8).2.2.2 : Int)]) ∧ w' = u) := fun u => w_psign 8 u
  have HSg : Hid (∀ u, Calls Tryz.prog 31 #[.int .i64 8] u fun e w' => e = .returned (.tuple #[.string ⟨#[]⟩, .int .i64 0, .int .i64 0]) ∧ w' = u) := HSg.out
  have HC := Hid.mk hc
  obtain ⟨W1, hW1⟩ : ∃ W1, w.alloc (.cells #[.int .i64 8, .int .i64 aat, .string atx, .int .i64 avk, .string avn, .string avx, .slice aio avi aic, .slice ayo avy ayc, .slice ano ann anc, .slice ako N kc] 28) = W1 := ⟨_, rfl⟩
  have HX1 := Hid.mk (B1.new hW1)
  clear hc
  generalize bs X = Y at *
  go_enter Tryz.func13, Tryz.ntmps13
  obtain ⟨x0, x1, x2, x3, x4, x5, x6, x7, x8, x9⟩ := nd_cells HX1.out.a
  go_wp2_with fail
  refine (HSg.out _).mono ?_
  rintro e wx ⟨rfl, hwx⟩
  obtain rfl := hwx.symm
  clear x0 x1 x2 x3 x4 x5 x6 x7 x8 x9
  obtain ⟨x0, x1, x2, x3, x4, x5, x6, x7, x8, x9⟩ := nd_cells HX1.out.a
  go_wp2_with fail
  refine (HC.out _ HX1.out.below).mono ?_
  rintro e w2 ⟨rfl, hb⟩
  have HX2 := Hid.mk (HX1.out.keep hb)
  clear hb hW1
  clear x0 x1 x2 x3 x4 x5 x6 x7 x8 x9
  go_wp2_with fail
  go_ret
  exact ⟨rfl, HX2.out.below⟩

set_option maxRecDepth 100000 in
set_option maxHeartbeats 3200000 in
theorem w_rpInner9 (w : World) (aat avk : Int) (atx avn avx : ByteArray) (aio ayo ano ako : Option Addr) (avi aic avy ayc ann anc N kc : Nat) (X : List UInt8) (hc : ∀ u, Below w.heap.size w u → Calls Tryz.prog 37 #[.agg #[.int .i64 9, .int .i64 aat, .string atx, .int .i64 avk, .string avn, .string avx, .slice aio avi aic, .slice ayo avy ayc, .slice ano ann anc, .slice ako N kc]] u fun e w' => e = .returned (.string (bs X)) ∧ Below u.heap.size u w') : Calls Tryz.prog 13 #[.agg #[.int .i64 9, .int .i64 aat, .string atx, .int .i64 avk, .string avn, .string avx, .slice aio avi aic, .slice ayo avy ayc, .slice ano ann anc, .slice ako N kc]] w fun e w' => e = .returned (.string (bs (X))) ∧ Below w.heap.size w w' := by
  have HSg : Hid (∀ u, Calls Tryz.prog 31 #[.int .i64 9] u fun e w' => e = .returned (.tuple #[.string (bs (pRow 9).1), .int .i64 ((pRow 9).2.2.1 : Int), .int .i64 ((pRow 9).2.2.2 : Int)]) ∧ w' = u) := fun u => w_psign 9 u
  have HSg : Hid (∀ u, Calls Tryz.prog 31 #[.int .i64 9] u fun e w' => e = .returned (.tuple #[.string ⟨#[]⟩, .int .i64 0, .int .i64 0]) ∧ w' = u) := HSg.out
  have HC := Hid.mk hc
  obtain ⟨W1, hW1⟩ : ∃ W1, w.alloc (.cells #[.int .i64 9, .int .i64 aat, .string atx, .int .i64 avk, .string avn, .string avx, .slice aio avi aic, .slice ayo avy ayc, .slice ano ann anc, .slice ako N kc] 28) = W1 := ⟨_, rfl⟩
  have HX1 := Hid.mk (B1.new hW1)
  clear hc
  generalize bs X = Y at *
  go_enter Tryz.func13, Tryz.ntmps13
  obtain ⟨x0, x1, x2, x3, x4, x5, x6, x7, x8, x9⟩ := nd_cells HX1.out.a
  go_wp2_with fail
  refine (HSg.out _).mono ?_
  rintro e wx ⟨rfl, hwx⟩
  obtain rfl := hwx.symm
  clear x0 x1 x2 x3 x4 x5 x6 x7 x8 x9
  obtain ⟨x0, x1, x2, x3, x4, x5, x6, x7, x8, x9⟩ := nd_cells HX1.out.a
  go_wp2_with fail
  refine (HC.out _ HX1.out.below).mono ?_
  rintro e w2 ⟨rfl, hb⟩
  have HX2 := Hid.mk (HX1.out.keep hb)
  clear hb hW1
  clear x0 x1 x2 x3 x4 x5 x6 x7 x8 x9
  go_wp2_with fail
  go_ret
  exact ⟨rfl, HX2.out.below⟩

set_option maxRecDepth 100000 in
set_option maxHeartbeats 3200000 in
theorem w_rpTry (w : World) (aat avk : Int) (atx avn avx : ByteArray) (aio ayo ano ako : Option Addr) (avi aic avy ayc ann anc N kc : Nat) (X : List UInt8) (hc : ∀ u, Below w.heap.size w u → Calls Tryz.prog 38 #[.agg #[.int .i64 10, .int .i64 aat, .string atx, .int .i64 avk, .string avn, .string avx, .slice aio avi aic, .slice ayo avy ayc, .slice ano ann anc, .slice ako N kc]] u fun e w' => e = .returned (.string (bs X)) ∧ Below u.heap.size u w') : Calls Tryz.prog 13 #[.agg #[.int .i64 10, .int .i64 aat, .string atx, .int .i64 avk, .string avn, .string avx, .slice aio avi aic, .slice ayo avy ayc, .slice ano ann anc, .slice ako N kc]] w fun e w' => e = .returned (.string (bs (X))) ∧ Below w.heap.size w w' := by
  have HSg : Hid (∀ u, Calls Tryz.prog 31 #[.int .i64 10] u fun e w' => e = .returned (.tuple #[.string (bs (pRow 10).1), .int .i64 ((pRow 10).2.2.1 : Int), .int .i64 ((pRow 10).2.2.2 : Int)]) ∧ w' = u) := fun u => w_psign 10 u
  have HSg : Hid (∀ u, Calls Tryz.prog 31 #[.int .i64 10] u fun e w' => e = .returned (.tuple #[.string ⟨#[]⟩, .int .i64 0, .int .i64 0]) ∧ w' = u) := HSg.out
  have HC := Hid.mk hc
  obtain ⟨W1, hW1⟩ : ∃ W1, w.alloc (.cells #[.int .i64 10, .int .i64 aat, .string atx, .int .i64 avk, .string avn, .string avx, .slice aio avi aic, .slice ayo avy ayc, .slice ano ann anc, .slice ako N kc] 28) = W1 := ⟨_, rfl⟩
  have HX1 := Hid.mk (B1.new hW1)
  clear hc
  generalize bs X = Y at *
  go_enter Tryz.func13, Tryz.ntmps13
  obtain ⟨x0, x1, x2, x3, x4, x5, x6, x7, x8, x9⟩ := nd_cells HX1.out.a
  go_wp2_with fail
  refine (HSg.out _).mono ?_
  rintro e wx ⟨rfl, hwx⟩
  obtain rfl := hwx.symm
  clear x0 x1 x2 x3 x4 x5 x6 x7 x8 x9
  obtain ⟨x0, x1, x2, x3, x4, x5, x6, x7, x8, x9⟩ := nd_cells HX1.out.a
  go_wp2_with fail
  refine (HC.out _ HX1.out.below).mono ?_
  rintro e w2 ⟨rfl, hb⟩
  have HX2 := Hid.mk (HX1.out.keep hb)
  clear hb hW1
  clear x0 x1 x2 x3 x4 x5 x6 x7 x8 x9
  go_wp2_with fail
  go_ret
  exact ⟨rfl, HX2.out.below⟩

set_option maxRecDepth 100000 in
set_option maxHeartbeats 3200000 in
theorem w_rpLonger28 (w : World) (aat avk : Int) (atx avn avx : ByteArray) (aio ayo ano ako : Option Addr) (avi aic avy ayc ann anc N kc : Nat) (X : List UInt8) (hc : ∀ u, Below w.heap.size w u → Calls Tryz.prog 39 #[.agg #[.int .i64 28, .int .i64 aat, .string atx, .int .i64 avk, .string avn, .string avx, .slice aio avi aic, .slice ayo avy ayc, .slice ano ann anc, .slice ako N kc]] u fun e w' => e = .returned (.string (bs X)) ∧ Below u.heap.size u w') : Calls Tryz.prog 13 #[.agg #[.int .i64 28, .int .i64 aat, .string atx, .int .i64 avk, .string avn, .string avx, .slice aio avi aic, .slice ayo avy ayc, .slice ano ann anc, .slice ako N kc]] w fun e w' => e = .returned (.string (bs (X))) ∧ Below w.heap.size w w' := by
  have HSg : Hid (∀ u, Calls Tryz.prog 31 #[.int .i64 28] u fun e w' => e = .returned (.tuple #[.string (bs (pRow 28).1), .int .i64 ((pRow 28).2.2.1 : Int), .int .i64 ((pRow 28).2.2.2 : Int)]) ∧ w' = u) := fun u => w_psign 28 u
  have HSg : Hid (∀ u, Calls Tryz.prog 31 #[.int .i64 28] u fun e w' => e = .returned (.tuple #[.string ⟨#[]⟩, .int .i64 0, .int .i64 0]) ∧ w' = u) := HSg.out
  have HC := Hid.mk hc
  obtain ⟨W1, hW1⟩ : ∃ W1, w.alloc (.cells #[.int .i64 28, .int .i64 aat, .string atx, .int .i64 avk, .string avn, .string avx, .slice aio avi aic, .slice ayo avy ayc, .slice ano ann anc, .slice ako N kc] 28) = W1 := ⟨_, rfl⟩
  have HX1 := Hid.mk (B1.new hW1)
  clear hc
  generalize bs X = Y at *
  go_enter Tryz.func13, Tryz.ntmps13
  obtain ⟨x0, x1, x2, x3, x4, x5, x6, x7, x8, x9⟩ := nd_cells HX1.out.a
  go_wp2_with fail
  refine (HSg.out _).mono ?_
  rintro e wx ⟨rfl, hwx⟩
  obtain rfl := hwx.symm
  clear x0 x1 x2 x3 x4 x5 x6 x7 x8 x9
  obtain ⟨x0, x1, x2, x3, x4, x5, x6, x7, x8, x9⟩ := nd_cells HX1.out.a
  go_wp2_with fail
  refine (HC.out _ HX1.out.below).mono ?_
  rintro e w2 ⟨rfl, hb⟩
  have HX2 := Hid.mk (HX1.out.keep hb)
  clear hb hW1
  clear x0 x1 x2 x3 x4 x5 x6 x7 x8 x9
  go_wp2_with fail
  go_ret
  exact ⟨rfl, HX2.out.below⟩

set_option maxRecDepth 100000 in
set_option maxHeartbeats 3200000 in
theorem w_rpLonger29 (w : World) (aat avk : Int) (atx avn avx : ByteArray) (aio ayo ano ako : Option Addr) (avi aic avy ayc ann anc N kc : Nat) (X : List UInt8) (hc : ∀ u, Below w.heap.size w u → Calls Tryz.prog 39 #[.agg #[.int .i64 29, .int .i64 aat, .string atx, .int .i64 avk, .string avn, .string avx, .slice aio avi aic, .slice ayo avy ayc, .slice ano ann anc, .slice ako N kc]] u fun e w' => e = .returned (.string (bs X)) ∧ Below u.heap.size u w') : Calls Tryz.prog 13 #[.agg #[.int .i64 29, .int .i64 aat, .string atx, .int .i64 avk, .string avn, .string avx, .slice aio avi aic, .slice ayo avy ayc, .slice ano ann anc, .slice ako N kc]] w fun e w' => e = .returned (.string (bs (X))) ∧ Below w.heap.size w w' := by
  have HSg : Hid (∀ u, Calls Tryz.prog 31 #[.int .i64 29] u fun e w' => e = .returned (.tuple #[.string (bs (pRow 29).1), .int .i64 ((pRow 29).2.2.1 : Int), .int .i64 ((pRow 29).2.2.2 : Int)]) ∧ w' = u) := fun u => w_psign 29 u
  have HSg : Hid (∀ u, Calls Tryz.prog 31 #[.int .i64 29] u fun e w' => e = .returned (.tuple #[.string ⟨#[]⟩, .int .i64 0, .int .i64 0]) ∧ w' = u) := HSg.out
  have HC := Hid.mk hc
  obtain ⟨W1, hW1⟩ : ∃ W1, w.alloc (.cells #[.int .i64 29, .int .i64 aat, .string atx, .int .i64 avk, .string avn, .string avx, .slice aio avi aic, .slice ayo avy ayc, .slice ano ann anc, .slice ako N kc] 28) = W1 := ⟨_, rfl⟩
  have HX1 := Hid.mk (B1.new hW1)
  clear hc
  generalize bs X = Y at *
  go_enter Tryz.func13, Tryz.ntmps13
  obtain ⟨x0, x1, x2, x3, x4, x5, x6, x7, x8, x9⟩ := nd_cells HX1.out.a
  go_wp2_with fail
  refine (HSg.out _).mono ?_
  rintro e wx ⟨rfl, hwx⟩
  obtain rfl := hwx.symm
  clear x0 x1 x2 x3 x4 x5 x6 x7 x8 x9
  obtain ⟨x0, x1, x2, x3, x4, x5, x6, x7, x8, x9⟩ := nd_cells HX1.out.a
  go_wp2_with fail
  refine (HC.out _ HX1.out.below).mono ?_
  rintro e w2 ⟨rfl, hb⟩
  have HX2 := Hid.mk (HX1.out.keep hb)
  clear hb hW1
  clear x0 x1 x2 x3 x4 x5 x6 x7 x8 x9
  go_wp2_with fail
  go_ret
  exact ⟨rfl, HX2.out.below⟩

set_option maxRecDepth 100000 in
set_option maxHeartbeats 3200000 in
theorem w_rpLonger30 (w : World) (aat avk : Int) (atx avn avx : ByteArray) (aio ayo ano ako : Option Addr) (avi aic avy ayc ann anc N kc : Nat) (X : List UInt8) (hc : ∀ u, Below w.heap.size w u → Calls Tryz.prog 39 #[.agg #[.int .i64 30, .int .i64 aat, .string atx, .int .i64 avk, .string avn, .string avx, .slice aio avi aic, .slice ayo avy ayc, .slice ano ann anc, .slice ako N kc]] u fun e w' => e = .returned (.string (bs X)) ∧ Below u.heap.size u w') : Calls Tryz.prog 13 #[.agg #[.int .i64 30, .int .i64 aat, .string atx, .int .i64 avk, .string avn, .string avx, .slice aio avi aic, .slice ayo avy ayc, .slice ano ann anc, .slice ako N kc]] w fun e w' => e = .returned (.string (bs (X))) ∧ Below w.heap.size w w' := by
  have HSg : Hid (∀ u, Calls Tryz.prog 31 #[.int .i64 30] u fun e w' => e = .returned (.tuple #[.string (bs (pRow 30).1), .int .i64 ((pRow 30).2.2.1 : Int), .int .i64 ((pRow 30).2.2.2 : Int)]) ∧ w' = u) := fun u => w_psign 30 u
  have HSg : Hid (∀ u, Calls Tryz.prog 31 #[.int .i64 30] u fun e w' => e = .returned (.tuple #[.string ⟨#[]⟩, .int .i64 0, .int .i64 0]) ∧ w' = u) := HSg.out
  have HC := Hid.mk hc
  obtain ⟨W1, hW1⟩ : ∃ W1, w.alloc (.cells #[.int .i64 30, .int .i64 aat, .string atx, .int .i64 avk, .string avn, .string avx, .slice aio avi aic, .slice ayo avy ayc, .slice ano ann anc, .slice ako N kc] 28) = W1 := ⟨_, rfl⟩
  have HX1 := Hid.mk (B1.new hW1)
  clear hc
  generalize bs X = Y at *
  go_enter Tryz.func13, Tryz.ntmps13
  obtain ⟨x0, x1, x2, x3, x4, x5, x6, x7, x8, x9⟩ := nd_cells HX1.out.a
  go_wp2_with fail
  refine (HSg.out _).mono ?_
  rintro e wx ⟨rfl, hwx⟩
  obtain rfl := hwx.symm
  clear x0 x1 x2 x3 x4 x5 x6 x7 x8 x9
  obtain ⟨x0, x1, x2, x3, x4, x5, x6, x7, x8, x9⟩ := nd_cells HX1.out.a
  go_wp2_with fail
  refine (HC.out _ HX1.out.below).mono ?_
  rintro e w2 ⟨rfl, hb⟩
  have HX2 := Hid.mk (HX1.out.keep hb)
  clear hb hW1
  clear x0 x1 x2 x3 x4 x5 x6 x7 x8 x9
  go_wp2_with fail
  go_ret
  exact ⟨rfl, HX2.out.below⟩

set_option maxRecDepth 100000 in
set_option maxHeartbeats 3200000 in
theorem w_rpLonger31 (w : World) (aat avk : Int) (atx avn avx : ByteArray) (aio ayo ano ako : Option Addr) (avi aic avy ayc ann anc N kc : Nat) (X : List UInt8) (hc : ∀ u, Below w.heap.size w u → Calls Tryz.prog 39 #[.agg #[.int .i64 31, .int .i64 aat, .string atx, .int .i64 avk, .string avn, .string avx, .slice aio avi aic, .slice ayo avy ayc, .slice ano ann anc, .slice ako N kc]] u fun e w' => e = .returned (.string (bs X)) ∧ Below u.heap.size u w') : Calls Tryz.prog 13 #[.agg #[.int .i64 31, .int .i64 aat, .string atx, .int .i64 avk, .string avn, .string avx, .slice aio avi aic, .slice ayo avy ayc, .slice ano ann anc, .slice ako N kc]] w fun e w' => e = .returned (.string (bs (X))) ∧ Below w.heap.size w w' := by
  have HSg : Hid (∀ u, Calls Tryz.prog 31 #[.int .i64 31] u fun e w' => e = .returned (.tuple #[.string (bs (pRow 31).1), .int .i64 ((pRow 31).2.2.1 : Int), .int .i64 ((pRow 31).2.2.2 : Int)]) ∧ w' = u) := fun u => w_psign 31 u
  have HSg : Hid (∀ u, Calls Tryz.prog 31 #[.int .i64 31] u fun e w' => e = .returned (.tuple #[.string ⟨#[]⟩, .int .i64 0, .int .i64 0]) ∧ w' = u) := HSg.out
  have HC := Hid.mk hc
  obtain ⟨W1, hW1⟩ : ∃ W1, w.alloc (.cells #[.int .i64 31, .int .i64 aat, .string atx, .int .i64 avk, .string avn, .string avx, .slice aio avi aic, .slice ayo avy ayc, .slice ano ann anc, .slice ako N kc] 28) = W1 := ⟨_, rfl⟩
  have HX1 := Hid.mk (B1.new hW1)
  clear hc
  generalize bs X = Y at *
  go_enter Tryz.func13, Tryz.ntmps13
  obtain ⟨x0, x1, x2, x3, x4, x5, x6, x7, x8, x9⟩ := nd_cells HX1.out.a
  go_wp2_with fail
  refine (HSg.out _).mono ?_
  rintro e wx ⟨rfl, hwx⟩
  obtain rfl := hwx.symm
  clear x0 x1 x2 x3 x4 x5 x6 x7 x8 x9
  obtain ⟨x0, x1, x2, x3, x4, x5, x6, x7, x8, x9⟩ := nd_cells HX1.out.a
  go_wp2_with fail
  refine (HC.out _ HX1.out.below).mono ?_
  rintro e w2 ⟨rfl, hb⟩
  have HX2 := Hid.mk (HX1.out.keep hb)
  clear hb hW1
  clear x0 x1 x2 x3 x4 x5 x6 x7 x8 x9
  go_wp2_with fail
  go_ret
  exact ⟨rfl, HX2.out.below⟩

set_option maxRecDepth 100000 in
set_option maxHeartbeats 3200000 in
theorem w_rpLonger32 (w : World) (aat avk : Int) (atx avn avx : ByteArray) (aio ayo ano ako : Option Addr) (avi aic avy ayc ann anc N kc : Nat) (X : List UInt8) (hc : ∀ u, Below w.heap.size w u → Calls Tryz.prog 39 #[.agg #[.int .i64 32, .int .i64 aat, .string atx, .int .i64 avk, .string avn, .string avx, .slice aio avi aic, .slice ayo avy ayc, .slice ano ann anc, .slice ako N kc]] u fun e w' => e = .returned (.string (bs X)) ∧ Below u.heap.size u w') : Calls Tryz.prog 13 #[.agg #[.int .i64 32, .int .i64 aat, .string atx, .int .i64 avk, .string avn, .string avx, .slice aio avi aic, .slice ayo avy ayc, .slice ano ann anc, .slice ako N kc]] w fun e w' => e = .returned (.string (bs (X))) ∧ Below w.heap.size w w' := by
  have HSg : Hid (∀ u, Calls Tryz.prog 31 #[.int .i64 32] u fun e w' => e = .returned (.tuple #[.string (bs (pRow 32).1), .int .i64 ((pRow 32).2.2.1 : Int), .int .i64 ((pRow 32).2.2.2 : Int)]) ∧ w' = u) := fun u => w_psign 32 u
  have HSg : Hid (∀ u, Calls Tryz.prog 31 #[.int .i64 32] u fun e w' => e = .returned (.tuple #[.string ⟨#[]⟩, .int .i64 0, .int .i64 0]) ∧ w' = u) := HSg.out
  have HC := Hid.mk hc
  obtain ⟨W1, hW1⟩ : ∃ W1, w.alloc (.cells #[.int .i64 32, .int .i64 aat, .string atx, .int .i64 avk, .string avn, .string avx, .slice aio avi aic, .slice ayo avy ayc, .slice ano ann anc, .slice ako N kc] 28) = W1 := ⟨_, rfl⟩
  have HX1 := Hid.mk (B1.new hW1)
  clear hc
  generalize bs X = Y at *
  go_enter Tryz.func13, Tryz.ntmps13
  obtain ⟨x0, x1, x2, x3, x4, x5, x6, x7, x8, x9⟩ := nd_cells HX1.out.a
  go_wp2_with fail
  refine (HSg.out _).mono ?_
  rintro e wx ⟨rfl, hwx⟩
  obtain rfl := hwx.symm
  clear x0 x1 x2 x3 x4 x5 x6 x7 x8 x9
  obtain ⟨x0, x1, x2, x3, x4, x5, x6, x7, x8, x9⟩ := nd_cells HX1.out.a
  go_wp2_with fail
  refine (HC.out _ HX1.out.below).mono ?_
  rintro e w2 ⟨rfl, hb⟩
  have HX2 := Hid.mk (HX1.out.keep hb)
  clear hb hW1
  clear x0 x1 x2 x3 x4 x5 x6 x7 x8 x9
  go_wp2_with fail
  go_ret
  exact ⟨rfl, HX2.out.below⟩

set_option maxRecDepth 100000 in
set_option maxHeartbeats 3200000 in
theorem w_rpLonger33 (w : World) (aat avk : Int) (atx avn avx : ByteArray) (aio ayo ano ako : Option Addr) (avi aic avy ayc ann anc N kc : Nat) (X : List UInt8) (hc : ∀ u, Below w.heap.size w u → Calls Tryz.prog 39 #[.agg #[.int .i64 33, .int .i64 aat, .string atx, .int .i64 avk, .string avn, .string avx, .slice aio avi aic, .slice ayo avy ayc, .slice ano ann anc, .slice ako N kc]] u fun e w' => e = .returned (.string (bs X)) ∧ Below u.heap.size u w') : Calls Tryz.prog 13 #[.agg #[.int .i64 33, .int .i64 aat, .string atx, .int .i64 avk, .string avn, .string avx, .slice aio avi aic, .slice ayo avy ayc, .slice ano ann anc, .slice ako N kc]] w fun e w' => e = .returned (.string (bs (X))) ∧ Below w.heap.size w w' := by
  have HSg : Hid (∀ u, Calls Tryz.prog 31 #[.int .i64 33] u fun e w' => e = .returned (.tuple #[.string (bs (pRow 33).1), .int .i64 ((pRow 33).2.2.1 : Int), .int .i64 ((pRow 33).2.2.2 : Int)]) ∧ w' = u) := fun u => w_psign 33 u
  have HSg : Hid (∀ u, Calls Tryz.prog 31 #[.int .i64 33] u fun e w' => e = .returned (.tuple #[.string ⟨#[]⟩, .int .i64 0, .int .i64 0]) ∧ w' = u) := HSg.out
  have HC := Hid.mk hc
  obtain ⟨W1, hW1⟩ : ∃ W1, w.alloc (.cells #[.int .i64 33, .int .i64 aat, .string atx, .int .i64 avk, .string avn, .string avx, .slice aio avi aic, .slice ayo avy ayc, .slice ano ann anc, .slice ako N kc] 28) = W1 := ⟨_, rfl⟩
  have HX1 := Hid.mk (B1.new hW1)
  clear hc
  generalize bs X = Y at *
  go_enter Tryz.func13, Tryz.ntmps13
  obtain ⟨x0, x1, x2, x3, x4, x5, x6, x7, x8, x9⟩ := nd_cells HX1.out.a
  go_wp2_with fail
  refine (HSg.out _).mono ?_
  rintro e wx ⟨rfl, hwx⟩
  obtain rfl := hwx.symm
  clear x0 x1 x2 x3 x4 x5 x6 x7 x8 x9
  obtain ⟨x0, x1, x2, x3, x4, x5, x6, x7, x8, x9⟩ := nd_cells HX1.out.a
  go_wp2_with fail
  refine (HC.out _ HX1.out.below).mono ?_
  rintro e w2 ⟨rfl, hb⟩
  have HX2 := Hid.mk (HX1.out.keep hb)
  clear hb hW1
  clear x0 x1 x2 x3 x4 x5 x6 x7 x8 x9
  go_wp2_with fail
  go_ret
  exact ⟨rfl, HX2.out.below⟩

set_option maxRecDepth 100000 in
set_option maxHeartbeats 3200000 in
theorem w_rpLonger34 (w : World) (aat avk : Int) (atx avn avx : ByteArray) (aio ayo ano ako : Option Addr) (avi aic avy ayc ann anc N kc : Nat) (X : List UInt8) (hc : ∀ u, Below w.heap.size w u → Calls Tryz.prog 39 #[.agg #[.int .i64 34, .int .i64 aat, .string atx, .int .i64 avk, .string avn, .string avx, .slice aio avi aic, .slice ayo avy ayc, .slice ano ann anc, .slice ako N kc]] u fun e w' => e = .returned (.string (bs X)) ∧ Below u.heap.size u w') : Calls Tryz.prog 13 #[.agg #[.int .i64 34, .int .i64 aat, .string atx, .int .i64 avk, .string avn, .string avx, .slice aio avi aic, .slice ayo avy ayc, .slice ano ann anc, .slice ako N kc]] w fun e w' => e = .returned (.string (bs (X))) ∧ Below w.heap.size w w' := by
  have HSg : Hid (∀ u, Calls Tryz.prog 31 #[.int .i64 34] u fun e w' => e = .returned (.tuple #[.string (bs (pRow 34).1), .int .i64 ((pRow 34).2.2.1 : Int), .int .i64 ((pRow 34).2.2.2 : Int)]) ∧ w' = u) := fun u => w_psign 34 u
  have HSg : Hid (∀ u, Calls Tryz.prog 31 #[.int .i64 34] u fun e w' => e = .returned (.tuple #[.string ⟨#[]⟩, .int .i64 0, .int .i64 0]) ∧ w' = u) := HSg.out
  have HC := Hid.mk hc
  obtain ⟨W1, hW1⟩ : ∃ W1, w.alloc (.cells #[.int .i64 34, .int .i64 aat, .string atx, .int .i64 avk, .string avn, .string avx, .slice aio avi aic, .slice ayo avy ayc, .slice ano ann anc, .slice ako N kc] 28) = W1 := ⟨_, rfl⟩
  have HX1 := Hid.mk (B1.new hW1)
  clear hc
  generalize bs X = Y at *
  go_enter Tryz.func13, Tryz.ntmps13
  obtain ⟨x0, x1, x2, x3, x4, x5, x6, x7, x8, x9⟩ := nd_cells HX1.out.a
  go_wp2_with fail
  refine (HSg.out _).mono ?_
  rintro e wx ⟨rfl, hwx⟩
  obtain rfl := hwx.symm
  clear x0 x1 x2 x3 x4 x5 x6 x7 x8 x9
  obtain ⟨x0, x1, x2, x3, x4, x5, x6, x7, x8, x9⟩ := nd_cells HX1.out.a
  go_wp2_with fail
  refine (HC.out _ HX1.out.below).mono ?_
  rintro e w2 ⟨rfl, hb⟩
  have HX2 := Hid.mk (HX1.out.keep hb)
  clear hb hW1
  clear x0 x1 x2 x3 x4 x5 x6 x7 x8 x9
  go_wp2_with fail
  go_ret
  exact ⟨rfl, HX2.out.below⟩
end Go.Proofs.YtcadknhedfnaoaaGreatDoor
namespace Go.Proofs.YtcadknhedfnaoaaGreatDoor
open Go.RowKit Go.Shelf Go.Sort
set_option linter.unusedVariables false
set_option linter.unusedSimpArgs false
attribute [local go_sem] Oper.semAt_some

set_option maxRecDepth 100000 in
set_option maxHeartbeats 3200000 in
theorem w_rpNeg (w : World) (aat avk : Int) (atx avn avx : ByteArray) (aio ayo ano : Option Addr) (avi aic avy ayc ann anc b off N kc h : Nat) (K : Nat → NT) (t : Nat → List UInt8) (hN : 1 ≤ N) (hcap : N ≤ kc) (hbig : N ≤ 140737488355328) (c0 : Fin 10 → Value) (r0 : RK w b (off) c0 h (K 0) (t 0)) (hk0 : KdK w c0 9 (pHd (t 0) (K 0) 9)) (hl : (sNeg K t).length ≤ 140737488355328) : Calls Tryz.prog 13 #[.agg #[.int .i64 11, .int .i64 aat, .string atx, .int .i64 avk, .string avn, .string avx, .slice aio avi aic, .slice ayo avy ayc, .slice ano ann anc, .slice (some ⟨b, off, none⟩) N kc]] w fun e w' => e = .returned (.string (bs (sNeg K t))) ∧ Below w.heap.size w w' := by
  have q0 : ((0 : Int) < (N : Int)) := by omega
  have HSg : Hid (∀ u, Calls Tryz.prog 31 #[.int .i64 11] u fun e w' => e = .returned (.tuple #[.string (bs (pRow 11).1), .int .i64 ((pRow 11).2.2.1 : Int), .int .i64 ((pRow 11).2.2.2 : Int)]) ∧ w' = u) := fun u => w_psign 11 u
  have HSg : Hid (∀ u, Calls Tryz.prog 31 #[.int .i64 11] u fun e w' => e = .returned (.tuple #[.string ⟨#[]⟩, .int .i64 0, .int .i64 0]) ∧ w' = u) := HSg.out
  have HC0 := Hid.mk (fun u (hu : Below w.heap.size w u) => r0.cells hu)
  have HK0 := Hid.mk hk0
  have s_A : (bs (pHd (t 0) (K 0) 9)).size ≤ 140737488355328 := by rw [bs_size]; have := hl; simp [sNeg] at this; omega
  have p0 := (rk_parts r0).1
  obtain ⟨W1, hW1⟩ : ∃ W1, w.alloc (.cells #[.int .i64 11, .int .i64 aat, .string atx, .int .i64 avk, .string avn, .string avx, .slice aio avi aic, .slice ayo avy ayc, .slice ano ann anc, .slice (some ⟨b, off, none⟩) N kc] 28) = W1 := ⟨_, rfl⟩
  have HX1 := Hid.mk (B1.new hW1)
  unfold KdK at HK0
  rw [p0] at HC0 HK0
  clear r0 hk0 hl p0
  unfold sNeg
  by_cases h1 : (K 0).op = 11
  · rw [if_pos h1]
    have HE : Hid ((⟨#[45, 32]⟩ : ByteArray) ++ bs (pHd (t 0) (K 0) 9) = bs ([45] ++ ([32] ++ pHd (t 0) (K 0) 9))) := by
      show bs [45, 32] ++ bs (pHd (t 0) (K 0) 9) = _
      rw [bs_app]
      rfl
    rw [h1] at HC0 HK0
    generalize bs (pHd (t 0) (K 0) 9) = Y0 at *
    have f0 : ¬ 9223372036854775807 < 2 + Y0.size := by omega
    go_enter Tryz.func13, Tryz.ntmps13
    obtain ⟨x0, x1, x2, x3, x4, x5, x6, x7, x8, x9⟩ := nd_cells HX1.out.a
    obtain ⟨k0_0, k0_1, k0_2, k0_3, k0_4, k0_5, k0_6, k0_7, k0_8, k0_9⟩ := HC0.out _ HX1.out.below
    go_wp2_with fail
    refine (HSg.out _).mono ?_
    rintro e wx ⟨rfl, hwx⟩
    obtain rfl := hwx.symm
    clear x0 x1 x2 x3 x4 x5 x6 x7 x8 x9 k0_0 k0_1 k0_2 k0_3 k0_4 k0_5 k0_6 k0_7 k0_8 k0_9
    obtain ⟨x0, x1, x2, x3, x4, x5, x6, x7, x8, x9⟩ := nd_cells HX1.out.a
    obtain ⟨k0_0, k0_1, k0_2, k0_3, k0_4, k0_5, k0_6, k0_7, k0_8, k0_9⟩ := HC0.out _ HX1.out.below
    go_wp2_with fail
    refine (HK0.out _ HX1.out.below).mono ?_
    rintro e w2 ⟨rfl, hb⟩
    have HX2 := Hid.mk (HX1.out.keep hb)
    clear hb hW1
    clear x0 x1 x2 x3 x4 x5 x6 x7 x8 x9 k0_0 k0_1 k0_2 k0_3 k0_4 k0_5 k0_6 k0_7 k0_8 k0_9
    go_wp2_with fail
    go_ret
    exact ⟨congrArg (fun z => Ending.returned (.string z)) HE.out, HX2.out.below⟩
  · rw [if_neg h1, List.nil_append]
    have HE : Hid ((⟨#[45]⟩ : ByteArray) ++ bs (pHd (t 0) (K 0) 9) = bs ([45] ++ pHd (t 0) (K 0) 9)) := by
      show bs [45] ++ bs (pHd (t 0) (K 0) 9) = _
      rw [bs_app]
    have b1 : ((K 0).op == 11) = false := by rw [beq_eq_false_iff_ne]; exact h1
    generalize bs (pHd (t 0) (K 0) 9) = Y0 at *
    generalize (K 0).op = op0 at *
    have f0 : ¬ 9223372036854775807 < 1 + Y0.size := by omega
    go_enter Tryz.func13, Tryz.ntmps13
    obtain ⟨x0, x1, x2, x3, x4, x5, x6, x7, x8, x9⟩ := nd_cells HX1.out.a
    obtain ⟨k0_0, k0_1, k0_2, k0_3, k0_4, k0_5, k0_6, k0_7, k0_8, k0_9⟩ := HC0.out _ HX1.out.below
    go_wp2_with fail
    refine (HSg.out _).mono ?_
    rintro e wx ⟨rfl, hwx⟩
    obtain rfl := hwx.symm
    clear x0 x1 x2 x3 x4 x5 x6 x7 x8 x9 k0_0 k0_1 k0_2 k0_3 k0_4 k0_5 k0_6 k0_7 k0_8 k0_9
    obtain ⟨x0, x1, x2, x3, x4, x5, x6, x7, x8, x9⟩ := nd_cells HX1.out.a
    obtain ⟨k0_0, k0_1, k0_2, k0_3, k0_4, k0_5, k0_6, k0_7, k0_8, k0_9⟩ := HC0.out _ HX1.out.below
    go_wp2_with fail
    refine (HK0.out _ HX1.out.below).mono ?_
    rintro e w2 ⟨rfl, hb⟩
    have HX2 := Hid.mk (HX1.out.keep hb)
    clear hb hW1
    clear x0 x1 x2 x3 x4 x5 x6 x7 x8 x9 k0_0 k0_1 k0_2 k0_3 k0_4 k0_5 k0_6 k0_7 k0_8 k0_9
    go_wp2_with fail
    go_ret
    exact ⟨congrArg (fun z => Ending.returned (.string z)) HE.out, HX2.out.below⟩

set_option maxRecDepth 100000 in
set_option maxHeartbeats 3200000 in
theorem w_rpOp (w : World) (aop : Int) (aat avk : Int) (atx avn avx : ByteArray) (aio ayo ano : Option Addr) (avi aic avy ayc ann anc b off N kc h : Nat) (K : Nat → NT) (t : Nat → List UInt8) (hN : 2 ≤ N) (hcap : N ≤ kc) (hbig : N ≤ 140737488355328) (hne : pSg aop ≠ []) (c0 : Fin 10 → Value) (r0 : RK w b (off) c0 h (K 0) (t 0)) (c1 : Fin 10 → Value) (r1 : RK w b (off + 10) c1 h (K 1) (t 1)) (hk0 : KdK w c0 ((pRow aop).2.2.1 : Int) (pHd (t 0) (K 0) ((pRow aop).2.2.1 : Int))) (hk1 : KdK w c1 ((pRow aop).2.2.2 : Int) (pHd (t 1) (K 1) ((pRow aop).2.2.2 : Int))) (hl : (sOp aop K t).length ≤ 140737488355328) : Calls Tryz.prog 13 #[.agg #[.int .i64 aop, .int .i64 aat, .string atx, .int .i64 avk, .string avn, .string avx, .slice aio avi aic, .slice ayo avy ayc, .slice ano ann anc, .slice (some ⟨b, off, none⟩) N kc]] w fun e w' => e = .returned (.string (bs (sOp aop K t))) ∧ Below w.heap.size w w' := by
  have q0 : ((0 : Int) < (N : Int)) := by omega
  have q1 : ((1 : Int) < (N : Int)) := by omega
  have HSg : Hid (∀ u, Calls Tryz.prog 31 #[.int .i64 aop] u fun e w' => e = .returned (.tuple #[.string (bs (pRow aop).1), .int .i64 ((pRow aop).2.2.1 : Int), .int .i64 ((pRow aop).2.2.2 : Int)]) ∧ w' = u) := fun u => w_psign aop u
  have HC0 := Hid.mk (fun u (hu : Below w.heap.size w u) => r0.cells hu)
  have HC1 := Hid.mk (fun u (hu : Below w.heap.size w u) => r1.cells hu)
  have HK0 := Hid.mk hk0
  have HK1 := Hid.mk hk1
  have s_A : (bs (pHd (t 0) (K 0) ((pRow aop).2.2.1 : Int))).size ≤ 140737488355328 := by rw [bs_size]; have := hl; simp [sOp] at this; omega
  have s_B : (bs (pHd (t 1) (K 1) ((pRow aop).2.2.2 : Int))).size ≤ 140737488355328 := by rw [bs_size]; have := hl; simp [sOp] at this; omega
  have s_C : (bs (pSg aop)).size ≤ 140737488355328 := by rw [bs_size]; have := hl; simp [sOp] at this; omega
  have HE : Hid (bs (pHd (t 0) (K 0) ((pRow aop).2.2.1 : Int)) ++ bs (pSg aop) ++ bs (pHd (t 1) (K 1) ((pRow aop).2.2.2 : Int)) = bs (sOp aop K t)) := by
    show _ = _
    simp only [bs_app]
    exact congrArg bs (by simp [sOp])
  have hsn : (bs (pSg aop)).toList.isEmpty = false := by
    rw [Lib.toList_data, bs_list]
    cases hx : pSg aop with
    | nil => exact absurd hx hne
    | cons a r => rfl
  obtain ⟨W1, hW1⟩ : ∃ W1, w.alloc (.cells #[.int .i64 aop, .int .i64 aat, .string atx, .int .i64 avk, .string avn, .string avx, .slice aio avi aic, .slice ayo avy ayc, .slice ano ann anc, .slice (some ⟨b, off, none⟩) N kc] 28) = W1 := ⟨_, rfl⟩
  have HX1 := Hid.mk (B1.new hW1)
  unfold KdK at HK0 HK1
  clear r0 r1 hk0 hk1 hl hne
  change Hid (∀ u, Calls Tryz.prog 31 #[.int .i64 aop] u fun e w' => e = .returned (.tuple #[.string (bs (pSg aop)), .int .i64 ((pRow aop).2.2.1 : Int), .int .i64 ((pRow aop).2.2.2 : Int)]) ∧ w' = u) at HSg
  generalize bs (pHd (t 0) (K 0) ((pRow aop).2.2.1 : Int)) = Y0 at *
  generalize bs (pHd (t 1) (K 1) ((pRow aop).2.2.2 : Int)) = Y1 at *
  generalize bs (pSg aop) = Ys at *
  generalize (pRow aop).2.2.1 = le at *
  generalize (pRow aop).2.2.2 = ri at *
  have f0 : ¬ 9223372036854775807 < Y0.size + Ys.size := by omega
  have f1 : ¬ 9223372036854775807 < Y0.size + Ys.size + Y1.size := by omega
  go_enter Tryz.func13, Tryz.ntmps13
  obtain ⟨x0, x1, x2, x3, x4, x5, x6, x7, x8, x9⟩ := nd_cells HX1.out.a
  obtain ⟨k0_0, k0_1, k0_2, k0_3, k0_4, k0_5, k0_6, k0_7, k0_8, k0_9⟩ := HC0.out _ HX1.out.below
  obtain ⟨k1_0, k1_1, k1_2, k1_3, k1_4, k1_5, k1_6, k1_7, k1_8, k1_9⟩ := HC1.out _ HX1.out.below
  go_wp2_with fail
  refine (HSg.out _).mono ?_
  rintro e wx ⟨rfl, hwx⟩
  obtain rfl := hwx.symm
  clear x0 x1 x2 x3 x4 x5 x6 x7 x8 x9 k0_0 k0_1 k0_2 k0_3 k0_4 k0_5 k0_6 k0_7 k0_8 k0_9 k1_0 k1_1 k1_2 k1_3 k1_4 k1_5 k1_6 k1_7 k1_8 k1_9
  obtain ⟨x0, x1, x2, x3, x4, x5, x6, x7, x8, x9⟩ := nd_cells HX1.out.a
  obtain ⟨k0_0, k0_1, k0_2, k0_3, k0_4, k0_5, k0_6, k0_7, k0_8, k0_9⟩ := HC0.out _ HX1.out.below
  obtain ⟨k1_0, k1_1, k1_2, k1_3, k1_4, k1_5, k1_6, k1_7, k1_8, k1_9⟩ := HC1.out _ HX1.out.below
  go_wp2_with fail
  have R_x0 := fun d os => cell_regrown x0 d os
  have R_x1 := fun d os => cell_regrown x1 d os
  have R_x2 := fun d os => cell_regrown x2 d os
  have R_x3 := fun d os => cell_regrown x3 d os
  have R_x4 := fun d os => cell_regrown x4 d os
  have R_x5 := fun d os => cell_regrown x5 d os
  have R_x6 := fun d os => cell_regrown x6 d os
  have R_x7 := fun d os => cell_regrown x7 d os
  have R_x8 := fun d os => cell_regrown x8 d os
  have R_x9 := fun d os => cell_regrown x9 d os
  have R_k0_0 := fun d os => cell_regrown k0_0 d os
  have R_k0_1 := fun d os => cell_regrown k0_1 d os
  have R_k0_2 := fun d os => cell_regrown k0_2 d os
  have R_k0_3 := fun d os => cell_regrown k0_3 d os
  have R_k0_4 := fun d os => cell_regrown k0_4 d os
  have R_k0_5 := fun d os => cell_regrown k0_5 d os
  have R_k0_6 := fun d os => cell_regrown k0_6 d os
  have R_k0_7 := fun d os => cell_regrown k0_7 d os
  have R_k0_8 := fun d os => cell_regrown k0_8 d os
  have R_k0_9 := fun d os => cell_regrown k0_9 d os
  have R_k1_0 := fun d os => cell_regrown k1_0 d os
  have R_k1_1 := fun d os => cell_regrown k1_1 d os
  have R_k1_2 := fun d os => cell_regrown k1_2 d os
  have R_k1_3 := fun d os => cell_regrown k1_3 d os
  have R_k1_4 := fun d os => cell_regrown k1_4 d os
  have R_k1_5 := fun d os => cell_regrown k1_5 d os
  have R_k1_6 := fun d os => cell_regrown k1_6 d os
  have R_k1_7 := fun d os => cell_regrown k1_7 d os
  have R_k1_8 := fun d os => cell_regrown k1_8 d os
  have R_k1_9 := fun d os => cell_regrown k1_9 d os
  have G0 := Hid.mk (fun (d : Nat) (os : Array Obj) => HK0.out (grow (redrawn W1 d) os) (HX1.out.below.trans ((below_regrown W1 d os).mono HX1.out.below.size)))
  have G1 := Hid.mk (fun (d : Nat) (os : Array Obj) => HK1.out (grow (redrawn W1 d) os) (HX1.out.below.trans ((below_regrown W1 d os).mono HX1.out.below.size)))
  refine wp_region_quiet_below (by kernel_rfl) (by kernel_rfl) ?_
  iterate 6 (go_big_quiet_step (exact Calls.regrown_of (G0.out _ _)))
  iterate 8 (go_big_quiet_step (exact Calls.regrown_of (G1.out _ _)))
  repeat (go_big_quiet_step (fail))
  refine wpQuiet_nil ?_
  intro w2 hw'
  have HX2 := Hid.mk (by obtain ⟨⟨dq, osq⟩, rfl⟩ := hw'; exact HX1.out.keep (below_regrown W1 dq osq) : B1 w _ _ w2)
  clear hw' R_x0 R_x1 R_x2 R_x3 R_x4 R_x5 R_x6 R_x7 R_x8 R_x9 R_k0_0 R_k0_1 R_k0_2 R_k0_3 R_k0_4 R_k0_5 R_k0_6 R_k0_7 R_k0_8 R_k0_9 R_k1_0 R_k1_1 R_k1_2 R_k1_3 R_k1_4 R_k1_5 R_k1_6 R_k1_7 R_k1_8 R_k1_9 G0 G1 hW1
  clear x0 x1 x2 x3 x4 x5 x6 x7 x8 x9 k0_0 k0_1 k0_2 k0_3 k0_4 k0_5 k0_6 k0_7 k0_8 k0_9 k1_0 k1_1 k1_2 k1_3 k1_4 k1_5 k1_6 k1_7 k1_8 k1_9
  go_wp2_with fail
  go_ret
  exact ⟨congrArg (fun z => Ending.returned (.string z)) HE.out, HX2.out.below⟩
end Go.Proofs.YtcadknhedfnaoaaGreatDoor
namespace Go.Proofs.YtcadknhedfnaoaaGreatDoor
open Go.RowKit Go.Shelf Go.Sort
set_option linter.unusedVariables false
set_option linter.unusedSimpArgs false

theorem pLo_le {h : Nat} {A : NT} (hf : fpN h A = true) : pLo A ≤ 10 := by
  cases h with
  | zero => cases hf
  | succ h =>
    have hm := (fp_open hf).1
    unfold pLo
    split
    · omega
    · split
      · omega
      · split
        · rename_i h10
          rw [h10] at hm
          simp [mfB] at hm
          omega
        · split
          · have hd : ∀ r ∈ pTab, r.2.1 ≤ 10 := by decide
            unfold pRow
            split
            · simp
            · rw [List.getD_eq_getElem?_getD]
              cases hx : pTab[A.op.toNat]? with
              | none => simp
              | some r =>
                have := hd r (List.mem_of_getElem? hx)
                simp
                omega
          · omega
theorem pHd11 {h : Nat} {A : NT} (hf : fpN h A = true) (t : List UInt8) : pHd t A 11 = [40] ++ (t ++ [41]) := by
  unfold pHd
  rw [decide_eq_true (by have := pLo_le hf; omega)]
  rfl
def JnOk (h : Nat) : Prop := ∀ (A : NT) (va : Value) (w : World), InA w h A va → fpN h A = true → A.op = 3 → bkT h A ≤ 1048576 → Calls Tryz.prog 34 #[va] w fun e w' => e = .returned (.string (bs (shT h A))) ∧ Below w.heap.size w w'
/-- the kids of a part, as the reference meets them -/
structure Kds (w : World) (h : Nat) (A : NT) (ko : Option Addr) (b off : Nat) (K : Nat → NT) (t : Nat → List UInt8) : Prop where
  ko : 0 < A.kids.length → ko = some ⟨b, off, none⟩
  row : ∀ i, i < A.kids.length → ∃ c : Fin 10 → Value, (∀ j : Fin 10, w.cell? ⟨b, off + i * 10 + j.1, none⟩ = some (c j)) ∧ InA w h (K i) (ndV c)
  fm : ∀ i, i < A.kids.length → (A.op = 8 → 0 < i → (K i).op ≠ 0) → fpN h (K i) = true
  bk : ∀ i, i < A.kids.length → bkT h (K i) ≤ 1048576
  tx : ∀ i, t i = shT h (K i)
theorem Kds.keep {w u : World} {h : Nat} {A : NT} {ko : Option Addr} {b off : Nat} {K : Nat → NT} {t : Nat → List UInt8} (k : Kds w h A ko b off K t) (hu : Below w.heap.size w u) : Kds u h A ko b off K t :=
  ⟨k.ko, fun i hi => by
    obtain ⟨c, hc, hin⟩ := k.row i hi
    exact ⟨c, fun j => (hu.cell (p := ⟨b, off + i * 10 + j.1, none⟩) (block_lt_of_cell (hc j))).trans (hc j), InN.low hin hu⟩, k.fm, k.bk, k.tx⟩
/-- all that is known of a kid -/
structure Kd1 (w : World) (h : Nat) (b o : Nat) (c : Fin 10 → Value) (K : NT) (t : List UInt8) : Prop where
  rk : RK w b o c h K t
  k : ∀ n, KdK w c n (pHd t K n)
  k0 : KdK w c 0 t
  ba : KdB w c (pBs t K)
  fm : fpN h K = true
  bk : bkT h K ≤ 1048576
theorem KdB.keep {w u : World} {c : Fin 10 → Value} {X : List UInt8} (h : KdB w c X) (hu : Below w.heap.size w u) : KdB u c X := fun v hv => h v (hu.trans (hv.mono hu.size))
theorem Kds.one {w : World} {h : Nat} {A : NT} {ko : Option Addr} {b off : Nat} {K : Nat → NT} {t : Nat → List UInt8} (k : Kds w h A ko b off K t) (ih : PtOk h) {i : Nat} (hi : i < A.kids.length) (h8 : A.op = 8 → 0 < i → (K i).op ≠ 0) : ∃ c, Kd1 w h b (off + i * 10) c (K i) (t i) := by
  obtain ⟨c, hc, hin⟩ := k.row i hi
  have hf := k.fm i hi h8
  have hb := k.bk i hi
  have hl := shT_len h (K i) hf
  have hk : ∀ n, KdK w c n (pHd (t i) (K i) n) := fun n u hu => by
    rw [k.tx i]
    exact w_rk h ih n (K i) _ u (InN.low hin hu) hf hb
  refine ⟨c, ⟨hc, hin, by rw [k.tx i]; omega⟩, hk, ?_, fun u hu => ?_, hf, hb⟩
  · have := hk 0
    rw [pHd0 hf] at this
    exact this
  · rw [k.tx i]
    exact w_rbase h ih (K i) _ u (InN.low hin hu) hf hb
theorem kds_of {w : World} {h : Nat} {A : NT} {io yo no ko : Option Addr} {ic yc nc kc : Nat} (hf : fpN (h + 1) A = true) (hbk : bkT (h + 1) A ≤ 1048576)
    (hkr : 0 < A.kids.length → ∃ b off, ko = some ⟨b, off, none⟩ ∧ True ∧ b < w.heap.size ∧ ∀ i, (hi : i < A.kids.length) → ∃ c : Fin 10 → Value, (∀ j : Fin 10, w.cell? ⟨b, off + i * 10 + j.1, none⟩ = some (c j)) ∧ InN (fun _ => True) w h A.kids[i] (ndV c)) :
    ∃ b off, Kds w h A ko b off (fun i => A.kids.getD i nn0) (fun i => shT h (A.kids.getD i nn0)) := by
  obtain ⟨hm, hk⟩ := fp_open hf
  by_cases h0 : 0 < A.kids.length
  · obtain ⟨b, off, e, _, _, hr⟩ := hkr h0
    exact ⟨b, off, fun _ => e, fun i hi => by
      obtain ⟨c, hc, hin⟩ := hr i hi
      refine ⟨c, hc, ?_⟩
      show InA w h (A.kids.getD i nn0) _
      rw [getD_kid hi]
      exact hin, fun i hi hn => kf_fm (hk i hi) hn, fun i hi => Nat.le_trans (bk_kid hi) hbk, fun i => rfl⟩
  · exact ⟨0, 0, fun h => absurd h h0, fun i hi => absurd (Nat.lt_of_le_of_lt (Nat.zero_le _) hi) h0, fun i hi hn => kf_fm (hk i hi) hn, fun i hi => Nat.le_trans (bk_kid hi) hbk, fun i => rfl⟩

set_option maxRecDepth 100000 in
set_option maxHeartbeats 1600000 in
theorem jn_step (h : Nat) (ih : PtOk h) : JnOk (h + 1) := by
  intro A va w hA hf h3 hbk
  have hl := shT_len (h + 1) A hf
  have hm := (fp_open hf).1
  obtain ⟨io, ic, yo, yc, no, nc, ko, kc, e, htx, hval, hnm, hkl, hnr, hkr⟩ := hA
  subst e
  obtain ⟨b, off, KD⟩ := kds_of (io := io) (yo := yo) (no := no) (ic := ic) (yc := yc) (nc := nc) (kc := kc) hf hbk hkr
  have e : shT (h + 1) A = sJoin (fun i => A.kids.getD i nn0) (fun i => shT h (A.kids.getD i nn0)) A.kids.length := by rw [shT_up]; simp only [h3]; rfl
  rw [e] at hl ⊢
  have hx := tx_of_bk (h + 1) A hbk
  refine w_rjoin w _ _ _ _ _ _ _ _ _ _ _ _ _ _ _ _ b off _ _ h (fun i => A.kids.getD i nn0) (fun i => shT h (A.kids.getD i nn0)) KD.ko hkl.1 hkl.2 (fun i hi => ?_) (fun i hi => ?_) (by omega)
  · obtain ⟨c, k⟩ := KD.one ih hi (fun h8 => by omega)
    exact ⟨c, k.rk, fun _ => k.k0⟩
  · have := hx.2 i hi
    have hfm := KD.fm i hi (fun h8 => by omega)
    cases h with
    | zero => cases hfm
    | succ h => exact this.1

set_option maxRecDepth 100000 in
set_option maxHeartbeats 3200000 in
theorem pt_step (h : Nat) (ih : PtOk h) (jh : JnOk h) : PtOk (h + 1) := by
  intro A va w hA hf hbk
  have hA0 := hA
  have hl := shT_len (h + 1) A hf
  have hm := (fp_open hf).1
  obtain ⟨r1, r2⟩ := mf_rng hm
  obtain ⟨io, ic, yo, yc, no, nc, ko, kc, e, htx, hval, hnm, hkl, hnr, hkr⟩ := hA
  subst e
  obtain ⟨b, off, KD0⟩ := kds_of (io := io) (yo := yo) (no := no) (ic := ic) (yc := yc) (nc := nc) (kc := kc) hf hbk hkr
  have hx := tx_of_bk (h + 1) A hbk
  have hsh := shT_up h A
  simp only at hsh
  obtain ⟨K, hK⟩ : ∃ K, K = fun i => A.kids.getD i nn0 := ⟨_, rfl⟩
  obtain ⟨t, hT0⟩ : ∃ t, t = fun i => shT h (A.kids.getD i nn0) := ⟨_, rfl⟩
  have hkx : ∀ i, i < A.kids.length → TxB h (K i) := fun i hi => by rw [hK]; exact hx.2 i hi
  rw [← hK, ← hT0] at hsh KD0
  have KD := KD0
  have hsz : A.op ≠ 8 → ∀ i, i < A.kids.length → (K i).value.text.size ≤ 1048576 := fun h8 i hi => by
    have hfm := KD.fm i hi (fun e => absurd e h8)
    have := hkx i hi
    cases h with
    | zero => cases hfm
    | succ h => exact this.1
  have one : ∀ i, i < A.kids.length → (A.op = 8 → 0 < i → (K i).op ≠ 0) → ∃ c, Kd1 w h b (off + i * 10) c (K i) (t i) := fun i hi h8 => KD.one ih hi h8
  have hrw : ∀ u, Below w.heap.size w u → A.op ≠ 8 → ∀ i, i < A.kids.length → ∃ c, RK u b (off + i * 10) c h (K i) (t i) ∧ KdK u c 0 (t i) := fun u hu h8 i hi => by
    obtain ⟨c, k⟩ := (KD.keep hu).one ih hi (fun e => absurd e h8)
    exact ⟨c, k.rk, k.k0⟩
  by_cases k1 : A.op = 1
  · have e : shT (h + 1) A = [46] := by rw [hsh]; simp only [k1]; rfl
    rw [e] at hl ⊢
    have h8 : A.op ≠ 8 := by omega
    rw [k1]
    exact w_rpSelf w _ _ _ _ _ _ _ _ _ _ _ _ _ _ _ _ _
  by_cases k2 : A.op = 2
  · have e : shT (h + 1) A = pCn A.value := by rw [hsh]; simp only [k2]; rfl
    rw [e] at hl ⊢
    have h8 : A.op ≠ 8 := by omega
    rw [k2]
    exact w_rpConst w (hc := fun u hu => w_rconstant A.value io yo _ _ _ _ u hx.1) _ _ _ _ _ _ _ _ _ _ _ _ _ _ _ _ _ _
  by_cases k3 : A.op = 3
  · have e : shT (h + 1) A = sJoin K t A.kids.length := by rw [hsh]; simp only [k3]; rfl
    rw [e] at hl ⊢
    have h8 : A.op ≠ 8 := by omega
    have hj := jn_step h ih A _ w hA0 hf k3 hbk
    have hjj : ∀ u, Below w.heap.size w u → _ := fun u hu => jn_step h ih A _ u (InN.low hA0 hu) hf k3 hbk
    rw [e, k3] at hjj
    rw [k3]
    exact w_rpJoin w (hc := hjj) _ _ _ _ _ _ _ _ _ _ _ _ _ _ _ _ _ _
  by_cases k4 : A.op = 4
  · have e : shT (h + 1) A = sList t A.kids.length := by rw [hsh]; simp only [k4]; rfl
    rw [e] at hl ⊢
    have h8 : A.op ≠ 8 := by omega
    rw [k4]
    exact w_rpList w (hr := rwK KD.ko hkl.1 hkl.2 (hrw w (Below.refl _ _) h8) (by simp [sList] at hl; omega)) (hl := by omega) _ _ _ _ _ _ _ _ _ _ _ _ _ _ _ _ _ _
  by_cases k5 : A.op = 5
  · have e : shT (h + 1) A = sRecord K t (A.kids.length / 2) := by rw [hsh]; simp only [k5]; rfl
    rw [e] at hl ⊢
    have hN : A.kids.length = 2 * (A.kids.length / 2) := by
      rw [k5] at hm
      simp [mfB] at hm
      omega
    have h8 : A.op ≠ 8 := by omega
    rw [k5]
    refine w_rpRecord w (hc := fun u hu => ?_) _ _ _ _ _ _ _ _ _ _ _ _ _ _ _ _ _ _
    exact w_rrecord u (b := b) (off := off) (h := h) (K := K) (t := t) (hko := KD.ko) (hcap := hkl.1) (hbig := hkl.2) (M := A.kids.length / 2) (hM := hN) (hK := fun i hi => by
      obtain ⟨c, k⟩ := (KD.keep hu).one ih hi (fun e => absurd e h8)
      exact ⟨c, k.rk, k.k0, k.k 3, fun h3 v hv => by
        have := jh (K i) _ v (InN.low k.rk.in_ hv) k.fm h3 k.bk
        rw [← KD.tx i] at this
        exact this, pHd11 k.fm _⟩) (htx := hsz h8) (hl := by omega) _ _ _ _ _ _ _ _ _ _ _ _ _ _ _ _ _ _
  by_cases k6 : A.op = 6
  · have e : shT (h + 1) A = sVar A.op A.text := by rw [hsh]; simp only [k6]; rfl
    rw [e] at hl ⊢
    have h8 : A.op ≠ 8 := by omega
    rw [k6]
    exact w_rpVar6 w (htx := htx) _ _ _ _ _ _ _ _ _ _ _ _ _ _ _ _ _
  by_cases k35 : A.op = 35
  · have e : shT (h + 1) A = sVar A.op A.text := by rw [hsh]; simp only [k35]; rfl
    rw [e] at hl ⊢
    have h8 : A.op ≠ 8 := by omega
    rw [k35]
    exact w_rpVar35 w (htx := htx) _ _ _ _ _ _ _ _ _ _ _ _ _ _ _ _ _
  by_cases k7 : A.op = 7
  · have e : shT (h + 1) A = sIndex K t := by rw [hsh]; simp only [k7]; rfl
    rw [e] at hl ⊢
    have hN : A.kids.length = 2 := by
      rw [k7] at hm
      simp [mfB] at hm
      omega
    have h8 : A.op ≠ 8 := by omega
    obtain ⟨c0, q0⟩ : ∃ c, Kd1 w h b (off) c (K 0) (t 0) := one 0 (by omega) (fun e => absurd e h8)
    obtain ⟨c1, q1⟩ : ∃ c, Kd1 w h b (off + 10) c (K 1) (t 1) := one 1 (by omega) (fun e => absurd e h8)
    have hkk := KD.ko (by omega)
    subst hkk
    rw [k7]
    refine w_rpInner7 w (hc := fun u hu => ?_) _ _ _ _ _ _ _ _ _ _ _ _ _ _ _ _ _ _
    exact w_rindex u (h := h) (K := K) (t := t) (hcap := hkl.1) (hbig := hkl.2) (hN := by omega) (c0 := c0) (r0 := q0.rk.keep hu) (c1 := c1) (r1 := q1.rk.keep hu) (hb0 := q0.ba.keep hu) (hk1 := q1.k0.keep hu) (hz := hsz h8 1 (by omega)) (hself := fun h1 => by
      have hf0 := q0.fm
      have ht := KD.tx 0
      cases h with
      | zero => cases hf0
      | succ h =>
        have e2 : shT (h + 1) (K 0) = [46] := by rw [shT_up]; simp only [h1]; rfl
        rw [ht, e2]
        unfold pBs pHd pLo
        rw [h1]
        rfl) (hl := by omega) _ _ _ _ _ _ _ _ _ _ _ _ _ _ _ _ _ _
  by_cases k8 : A.op = 8
  · have e : shT (h + 1) A = sSlice K t := by rw [hsh]; simp only [k8]; rfl
    rw [e] at hl ⊢
    have hN : A.kids.length = 3 := by
      rw [k8] at hm
      simp [mfB] at hm
      omega
    obtain ⟨c0, q0⟩ : ∃ c, Kd1 w h b off c (K 0) (t 0) := one 0 (by omega) (fun _ h0 => absurd h0 (Nat.lt_irrefl 0))
    have hkk := KD.ko (by omega)
    subst hkk
    obtain ⟨t2, ht2⟩ : ∃ t2 : Nat → List UInt8, t2 = fun i => if (K i).op = 0 then [] else t i := ⟨_, rfl⟩
    have ev : ∀ i, i < 3 → ∃ c, RK w b (off + i * 10) c h (K i) (t2 i) ∧ ((K i).op ≠ 0 → KdK w c 0 (t2 i)) := fun i hi => by
      by_cases hz : (K i).op = 0
      · obtain ⟨c, hc, hin⟩ := KD.row i (by omega)
        exact ⟨c, ⟨hc, hin, by rw [ht2]; simp only [if_pos hz]; simp⟩, fun hn => absurd hz hn⟩
      · obtain ⟨c, k⟩ := one i (by omega) (fun _ _ => hz)
        have e2 : t2 i = t i := by rw [ht2]; simp only [if_neg hz]
        rw [e2]
        exact ⟨c, k.rk, fun _ => k.k0⟩
    have z0 : (K 0).op ≠ 0 := by
      have hf0 := q0.fm
      cases h with
      | zero => cases hf0
      | succ h => have := mf_rng (fp_open hf0).1; omega
    have e0 : t2 0 = t 0 := by rw [ht2]; simp only [if_neg z0]
    have ee : ∀ i, pEn (t2 i) (K i) = pEn (t i) (K i) := fun i => by unfold pEn; rw [ht2]; by_cases hz : (K i).op = 0 <;> simp [hz]
    have es : sSlice K t = sSlice K t2 := by unfold sSlice; rw [ee 1, ee 2, e0]
    obtain ⟨c1, v1, w1⟩ : ∃ c, RK w b (off + 10) c h (K 1) (t2 1) ∧ ((K 1).op ≠ 0 → KdK w c 0 (t2 1)) := ev 1 (by omega)
    obtain ⟨c2, v2, w2⟩ : ∃ c, RK w b (off + 20) c h (K 2) (t2 2) ∧ ((K 2).op ≠ 0 → KdK w c 0 (t2 2)) := ev 2 (by omega)
    rw [k8]
    rw [es] at hl ⊢
    rw [← e0] at q0
    refine w_rpInner8 w (hc := fun u hu => ?_) _ _ _ _ _ _ _ _ _ _ _ _ _ _ _ _ _ _
    exact w_rslice u (h := h) (K := K) (t := t2) (hcap := hkl.1) (hbig := hkl.2) (hN := by omega) (c0 := c0) (r0 := q0.rk.keep hu) (c1 := c1) (r1 := v1.keep hu) (c2 := c2) (r2 := v2.keep hu) (hb0 := q0.ba.keep hu) (hk1 := fun hn => (w1 hn).keep hu) (hk2 := fun hn => (w2 hn).keep hu) (hl := by omega) _ _ _ _ _ _ _ _ _ _ _ _ _ _ _ _ _ _
  by_cases k9 : A.op = 9
  · have e : shT (h + 1) A = sEach K t := by rw [hsh]; simp only [k9]; rfl
    rw [e] at hl ⊢
    have hN : A.kids.length = 1 := by
      rw [k9] at hm
      simp [mfB] at hm
      omega
    have h8 : A.op ≠ 8 := by omega
    obtain ⟨c0, q0⟩ : ∃ c, Kd1 w h b (off) c (K 0) (t 0) := one 0 (by omega) (fun e => absurd e h8)
    have hkk := KD.ko (by omega)
    subst hkk
    rw [k9]
    refine w_rpInner9 w (hc := fun u hu => ?_) _ _ _ _ _ _ _ _ _ _ _ _ _ _ _ _ _ _
    exact w_reach u (h := h) (K := K) (t := t) (hcap := hkl.1) (hbig := hkl.2) (hN := by omega) (c0 := c0) (r0 := q0.rk.keep hu) (hb0 := q0.ba.keep hu) (hl := by omega) _ _ _ _ _ _ _ _ _ _ _ _ _ _ _ _ _ _
  by_cases k10 : A.op = 10
  · have e : shT (h + 1) A = sTry K t A.kids.length := by rw [hsh]; simp only [k10]; rfl
    rw [e] at hl ⊢
    have hN : A.kids.length = 1 ∨ A.kids.length = 2 := by
      rw [k10] at hm
      simp [mfB] at hm
      omega
    have h8 : A.op ≠ 8 := by omega
    rcases hN with hN | hN
    · obtain ⟨c0, q0⟩ : ∃ c, Kd1 w h b off c (K 0) (t 0) := one 0 (by omega) (fun e => absurd e h8)
      have hkk := KD.ko (by omega)
      subst hkk
      rw [hN] at hkl hl ⊢
      rw [k10]
      refine w_rpTry w (hc := fun u hu => ?_) _ _ _ _ _ _ _ _ _ _ _ _ _ _ _ _ _ _
      exact w_rtry1 u (h := h) (K := K) (t := t) (hcap := hkl.1) (c0 := c0) (r0 := q0.rk.keep hu) (hb0 := q0.ba.keep hu) (hl := by omega) _ _ _ _ _ _ _ _ _ _ _ _ _ _ _ _ _
    · obtain ⟨c0, q0⟩ : ∃ c, Kd1 w h b off c (K 0) (t 0) := one 0 (by omega) (fun e => absurd e h8)
      obtain ⟨c1, q1⟩ : ∃ c, Kd1 w h b (off + 10) c (K 1) (t 1) := one 1 (by omega) (fun e => absurd e h8)
      have hkk := KD.ko (by omega)
      subst hkk
      rw [hN] at hkl hl ⊢
      rw [k10]
      refine w_rpTry w (hc := fun u hu => ?_) _ _ _ _ _ _ _ _ _ _ _ _ _ _ _ _ _ _
      exact w_rtry2 u (h := h) (K := K) (t := t) (hcap := hkl.1) (c0 := c0) (r0 := q0.rk.keep hu) (c1 := c1) (r1 := q1.rk.keep hu) (hk0 := (q0.k 10).keep hu) (hk1 := (q1.k 10).keep hu) (hl := by omega) _ _ _ _ _ _ _ _ _ _ _ _ _ _ _ _ _
  by_cases k11 : A.op = 11
  · have e : shT (h + 1) A = sNeg K t := by rw [hsh]; simp only [k11]; rfl
    rw [e] at hl ⊢
    have hN : A.kids.length = 1 := by
      rw [k11] at hm
      simp [mfB] at hm
      omega
    have h8 : A.op ≠ 8 := by omega
    obtain ⟨c0, q0⟩ : ∃ c, Kd1 w h b (off) c (K 0) (t 0) := one 0 (by omega) (fun e => absurd e h8)
    have hkk := KD.ko (by omega)
    subst hkk
    rw [k11]
    exact w_rpNeg w (h := h) (K := K) (t := t) (hN := by omega) (hcap := hkl.1) (hbig := hkl.2) (c0 := c0) (r0 := q0.rk) (hk0 := q0.k 9) (hl := by omega) _ _ _ _ _ _ _ _ _ _ _ _ _ _ _ _ _ _
  by_cases k28 : A.op = 28
  · have e : shT (h + 1) A = sIf t := by rw [hsh]; simp only [k28]; rfl
    rw [e] at hl ⊢
    have hN : A.kids.length = 3 := by
      rw [k28] at hm
      simp [mfB] at hm
      omega
    have h8 : A.op ≠ 8 := by omega
    obtain ⟨c0, q0⟩ : ∃ c, Kd1 w h b (off) c (K 0) (t 0) := one 0 (by omega) (fun e => absurd e h8)
    obtain ⟨c1, q1⟩ : ∃ c, Kd1 w h b (off + 10) c (K 1) (t 1) := one 1 (by omega) (fun e => absurd e h8)
    obtain ⟨c2, q2⟩ : ∃ c, Kd1 w h b (off + 20) c (K 2) (t 2) := one 2 (by omega) (fun e => absurd e h8)
    have hkk := KD.ko (by omega)
    subst hkk
    rw [k28]
    refine w_rpLonger28 w (hc := fun u hu => ?_) _ _ _ _ _ _ _ _ _ _ _ _ _ _ _ _ _ _
    exact w_rif u (h := h) (K := K) (t := t) (hcap := hkl.1) (hbig := hkl.2) (hN := by omega) (c0 := c0) (r0 := q0.rk.keep hu) (c1 := c1) (r1 := q1.rk.keep hu) (c2 := c2) (r2 := q2.rk.keep hu) (hk0 := q0.k0.keep hu) (hk1 := q1.k0.keep hu) (hk2 := q2.k0.keep hu) (hl := by omega) _ _ _ _ _ _ _ _ _ _ _ _ _ _ _ _ _ _
  by_cases k29 : A.op = 29
  · have e : shT (h + 1) A = sBind K t A.text := by rw [hsh]; simp only [k29]; rfl
    rw [e] at hl ⊢
    have hN : A.kids.length = 2 := by
      rw [k29] at hm
      simp [mfB] at hm
      omega
    have h8 : A.op ≠ 8 := by omega
    obtain ⟨c0, q0⟩ : ∃ c, Kd1 w h b (off) c (K 0) (t 0) := one 0 (by omega) (fun e => absurd e h8)
    obtain ⟨c1, q1⟩ : ∃ c, Kd1 w h b (off + 10) c (K 1) (t 1) := one 1 (by omega) (fun e => absurd e h8)
    have hkk := KD.ko (by omega)
    subst hkk
    rw [k29]
    refine w_rpLonger29 w (hc := fun u hu => ?_) _ _ _ _ _ _ _ _ _ _ _ _ _ _ _ _ _ _
    exact w_rbind u (h := h) (K := K) (t := t) (hcap := hkl.1) (hbig := hkl.2) (hN := by omega) (htx := htx) (c0 := c0) (r0 := q0.rk.keep hu) (c1 := c1) (r1 := q1.rk.keep hu) (hk0 := (q0.k 10).keep hu) (hk1 := q1.k0.keep hu) (hl := by omega) _ _ _ _ _ _ _ _ _ _ _ _ _ _ _ _ _ _
  by_cases k30 : A.op = 30
  · have e : shT (h + 1) A = sLoop A.op K t A.text A.kids.length := by rw [hsh]; simp only [k30]; rfl
    rw [e] at hl ⊢
    have hN : A.kids.length = 3 := by
      rw [k30] at hm
      simp [mfB] at hm
      omega
    have h8 : A.op ≠ 8 := by omega
    obtain ⟨c0, q0⟩ : ∃ c, Kd1 w h b (off) c (K 0) (t 0) := one 0 (by omega) (fun e => absurd e h8)
    have hkk := KD.ko (by omega)
    subst hkk
    rw [k30] at hl ⊢
    have hrr : ∀ u, Below w.heap.size w u → RwK u (some ⟨b, off + 10, none⟩) (A.kids.length - 1) (kc - 1) (pRw (fun i => t (i + 1)) (A.kids.length - 1)) := fun u hu => rwK (b := b) (off := off + 10) (h := h) (K := fun i => K (i + 1)) (fun _ => rfl) (by have := hkl.1; omega) (by have := hkl.2; omega) (fun i hi => by
      obtain ⟨c, r, k⟩ := hrw u hu h8 (i + 1) (by omega)
      rw [show off + (i + 1) * 10 = off + 10 + i * 10 by omega] at r
      exact ⟨c, r, k⟩) (by simp [sLoop, sSrc] at hl; omega)
    exact w_rpLonger30 w (hc := fun u hu => w_rloop30 u (h := h) (K := K) (t := t) (hcap := hkl.1) (hbig := hkl.2) (hN := by omega) (htx := htx) (c0 := c0) (r0 := q0.rk.keep hu) (hk0 := (q0.k 10).keep hu) (hr := hrr u hu) (hl := by omega) _ _ _ _ _ _ _ _ _ _ _ _ _ _ _ _ _ _) _ _ _ _ _ _ _ _ _ _ _ _ _ _ _ _ _ _
  by_cases k31 : A.op = 31
  · have e : shT (h + 1) A = sLoop A.op K t A.text A.kids.length := by rw [hsh]; simp only [k31]; rfl
    rw [e] at hl ⊢
    have hN : A.kids.length = 3 ∨ A.kids.length = 4 := by
      rw [k31] at hm
      simp [mfB] at hm
      omega
    have h8 : A.op ≠ 8 := by omega
    obtain ⟨c0, q0⟩ : ∃ c, Kd1 w h b (off) c (K 0) (t 0) := one 0 (by omega) (fun e => absurd e h8)
    have hkk := KD.ko (by omega)
    subst hkk
    rw [k31] at hl ⊢
    have hrr : ∀ u, Below w.heap.size w u → RwK u (some ⟨b, off + 10, none⟩) (A.kids.length - 1) (kc - 1) (pRw (fun i => t (i + 1)) (A.kids.length - 1)) := fun u hu => rwK (b := b) (off := off + 10) (h := h) (K := fun i => K (i + 1)) (fun _ => rfl) (by have := hkl.1; omega) (by have := hkl.2; omega) (fun i hi => by
      obtain ⟨c, r, k⟩ := hrw u hu h8 (i + 1) (by omega)
      rw [show off + (i + 1) * 10 = off + 10 + i * 10 by omega] at r
      exact ⟨c, r, k⟩) (by simp [sLoop, sSrc] at hl; omega)
    exact w_rpLonger31 w (hc := fun u hu => w_rloop31 u (h := h) (K := K) (t := t) (hcap := hkl.1) (hbig := hkl.2) (hN := by omega) (htx := htx) (c0 := c0) (r0 := q0.rk.keep hu) (hk0 := (q0.k 10).keep hu) (hr := hrr u hu) (hl := by omega) _ _ _ _ _ _ _ _ _ _ _ _ _ _ _ _ _ _) _ _ _ _ _ _ _ _ _ _ _ _ _ _ _ _ _ _
  by_cases k32 : A.op = 32
  · have e : shT (h + 1) A = sDef t A.text A.names := by rw [hsh]; simp only [k32]; rfl
    rw [e] at hl ⊢
    have hN : A.kids.length = 2 := by
      rw [k32] at hm
      simp [mfB] at hm
      omega
    have h8 : A.op ≠ 8 := by omega
    obtain ⟨c0, q0⟩ : ∃ c, Kd1 w h b (off) c (K 0) (t 0) := one 0 (by omega) (fun e => absurd e h8)
    obtain ⟨c1, q1⟩ : ∃ c, Kd1 w h b (off + 10) c (K 1) (t 1) := one 1 (by omega) (fun e => absurd e h8)
    have hkk := KD.ko (by omega)
    subst hkk
    have hnk : KIn w no A.names := ⟨fun h0 => by
      obtain ⟨b, off, e, _, hl, hc⟩ := hnr h0
      exact ⟨b, off, e, hl, hc⟩⟩
    rw [hN] at hkl ⊢
    rw [k32]
    refine w_rpLonger32 w (hc := fun u hu => ?_) _ _ _ _ _ _ _ _ _ _ _ _ _ _ _ _ _ _
    exact w_rdef u (h := h) (K := K) (t := t) (hcap := hkl.1) (htx := htx) (ns := A.names) (hNn := rfl) (hns := hnk.keep hu) (hnc := hnm.1) (hnb := hnm.2.1) (c0 := c0) (r0 := q0.rk.keep hu) (c1 := c1) (r1 := q1.rk.keep hu) (hk0 := q0.k0.keep hu) (hk1 := q1.k0.keep hu) (hl := by omega) _ _ _ _ _ _ _ _ _ _ _ _ _ _ _ _ _
  by_cases k33 : A.op = 33
  · have e : shT (h + 1) A = sCall t A.text A.kids.length := by rw [hsh]; simp only [k33]; rfl
    rw [e] at hl ⊢
    have h8 : A.op ≠ 8 := by omega
    rw [k33]
    have hpr : (pRw t A.kids.length).length ≤ 140737488355328 := by
      by_cases hz : A.kids.length = 0
      · rw [hz]; simp [pRw]
      · simp [sCall, hz] at hl; omega
    refine w_rpLonger33 w (hc := fun u hu => ?_) _ _ _ _ _ _ _ _ _ _ _ _ _ _ _ _ _ _
    exact w_rcall u (hcap := hkl.1) (hbig := hkl.2) (htx := htx) (hr := rwK KD.ko hkl.1 hkl.2 (hrw u hu h8) hpr) (hl := by omega) _ _ _ _ _ _ _ _ _ _ _ _ _ _ _ _ _ _
  by_cases k34 : A.op = 34
  · have e : shT (h + 1) A = sLabel t A.text := by rw [hsh]; simp only [k34]; rfl
    rw [e] at hl ⊢
    have hN : A.kids.length = 1 := by
      rw [k34] at hm
      simp [mfB] at hm
      omega
    have h8 : A.op ≠ 8 := by omega
    obtain ⟨c0, q0⟩ : ∃ c, Kd1 w h b (off) c (K 0) (t 0) := one 0 (by omega) (fun e => absurd e h8)
    have hkk := KD.ko (by omega)
    subst hkk
    rw [k34]
    refine w_rpLonger34 w (hc := fun u hu => ?_) _ _ _ _ _ _ _ _ _ _ _ _ _ _ _ _ _ _
    exact w_rlabel u (h := h) (K := K) (t := t) (hcap := hkl.1) (hbig := hkl.2) (hN := by omega) (htx := htx) (c0 := c0) (r0 := q0.rk.keep hu) (hk0 := q0.k0.keep hu) (hl := by omega) _ _ _ _ _ _ _ _ _ _ _ _ _ _ _ _ _ _
  have e : shT (h + 1) A = sOp A.op K t := by
    rw [hsh, if_neg k1, if_neg k2, if_neg k3, if_neg k4, if_neg k5, if_neg (by omega), if_neg k7, if_neg k8, if_neg k9, if_neg k10, if_neg k11, if_neg k28, if_neg k29, if_neg (by omega), if_neg k32, if_neg k33, if_neg k34]
  rw [e] at hl ⊢
  have hop : A.kids.length = 2 ∧ ((12 ≤ A.op ∧ A.op ≤ 27) ∨ (36 ≤ A.op ∧ A.op ≤ 43)) := by
    unfold mfB at hm
    rw [if_neg (by omega), if_neg (by omega), if_neg (by omega), if_neg (by omega), if_neg (by omega), if_neg (by omega), if_neg (by omega), if_neg (by omega), if_neg (by omega), if_neg (by omega)] at hm
    simp only [Bool.and_eq_true, Bool.or_eq_true, decide_eq_true_eq] at hm
    have := eq_of_beq hm.1
    exact ⟨by omega, hm.2⟩
  have hN := hop.1
  have hne : pSg A.op ≠ [] := by
    have hd : ∀ m : Fin 44, ((12 ≤ m.1 && m.1 ≤ 27) || (36 ≤ m.1)) = true → pSg (m.1 : Int) ≠ [] := by decide
    obtain ⟨m, hm2⟩ : ∃ m : Nat, A.op = (m : Int) := ⟨A.op.toNat, by omega⟩
    rw [hm2]
    exact hd ⟨m, by omega⟩ (by simp; omega)
  have h8 : A.op ≠ 8 := k8
  obtain ⟨c0, q0⟩ : ∃ c, Kd1 w h b off c (K 0) (t 0) := one 0 (by omega) (fun e => absurd e h8)
  obtain ⟨c1, q1⟩ : ∃ c, Kd1 w h b (off + 10) c (K 1) (t 1) := one 1 (by omega) (fun e => absurd e h8)
  have hkk := KD.ko (by omega)
  subst hkk
  exact w_rpOp w (aop := A.op) (h := h) (K := K) (t := t) (hN := by omega) (hcap := hkl.1) (hbig := hkl.2) (hne := hne) (c0 := c0) (r0 := q0.rk) (c1 := c1) (r1 := q1.rk) (hk0 := q0.k _) (hk1 := q1.k _) (hl := by omega) _ _ _ _ _ _ _ _ _ _ _ _ _ _ _ _ _ _
theorem w_part : ∀ h, PtOk h ∧ JnOk h
  | 0 => ⟨fun _ _ _ hA => hA.elim, fun _ _ _ hA => hA.elim⟩
  | h + 1 => ⟨pt_step h (w_part h).1 (w_part h).2, jn_step h (w_part h).1⟩
end Go.Proofs.YtcadknhedfnaoaaGreatDoor
