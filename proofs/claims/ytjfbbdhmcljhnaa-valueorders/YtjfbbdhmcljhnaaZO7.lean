import Derived.Test.YtjfbbdhmcljhnaaZO5
import Derived.Test.YtjfbbdhmcljhnaaZO6
namespace Go.Proofs.Ytjfbbdhmcljhnaa
open Go.RowKit
set_option linter.unusedVariables false
set_option linter.unusedSimpArgs false

theorem VT.kind_bool (a b : Int) (h : a ≠ b) : (a != b) = true := by simpa using h
set_option maxRecDepth 100000 in
set_option maxHeartbeats 3200000 in
theorem vcmp_ne (w : World) (ka kb : Int) (hk : ¬ ka = kb) (an at_ : ByteArray) (aio : Option Addr) (aN aic : Nat) (ako : Option Addr) (aK akc : Nat) (bn bt : ByteArray) (bio : Option Addr) (bN bic : Nat) (bko : Option Addr) (bK bkc : Nat) :
    Calls Try.prog 14 #[.agg #[.int .i64 ka, .string an, .string at_, .slice aio aN aic, .slice ako aK akc], .agg #[.int .i64 kb, .string bn, .string bt, .slice bio bN bic, .slice bko bK bkc]] w fun e w' => e = .returned (.int .i64 (Pl.cmpI ka kb)) ∧ Below w.heap.size w w' := by
  have HB := Hid.mk (below2 w (.cells #[.int .i64 ka, .string an, .string at_, .slice aio aN aic, .slice ako aK akc] 25) (.cells #[.int .i64 kb, .string bn, .string bt, .slice bio bN bic, .slice bko bK bkc] 25))
  have hk' := VT.kind_bool ka kb hk
  have HC := Hid.mk (fun u => w_CompareInt ka kb u)
  generalize Pl.cmpI ka kb = c at HC ⊢
  clear hk
  go_enter Try.func14, Try.ntmps14
  go_wp2_with fail
  refine (HC.out _).mono ?_
  rintro e w1 ⟨rfl, hw⟩
  obtain rfl := hw.symm
  go_wp2_with fail
  go_ret
  exact ⟨rfl, HB.out⟩

set_option maxRecDepth 100000 in
set_option maxHeartbeats 3200000 in
theorem vcmp_else (w : World) (ka : Int) (hk : ka < 0 ∨ 6 < ka) (an at_ : ByteArray) (aio : Option Addr) (aN aic : Nat) (ako : Option Addr) (aK akc : Nat) (bn bt : ByteArray) (bio : Option Addr) (bN bic : Nat) (bko : Option Addr) (bK bkc : Nat) :
    Calls Try.prog 14 #[.agg #[.int .i64 ka, .string an, .string at_, .slice aio aN aic, .slice ako aK akc], .agg #[.int .i64 ka, .string bn, .string bt, .slice bio bN bic, .slice bko bK bkc]] w fun e w' => e = .returned (.int .i64 0) ∧ Below w.heap.size w w' := by
  have HX := Hid.mk (vb2_new w (.int .i64 ka) (.string an) (.string at_) (.slice aio aN aic) (.slice ako aK akc) (.string bn) (.string bt) (.slice bio bN bic) (.slice bko bK bkc))
  rcases hk with hk | hk
  · go_enter Try.func14, Try.ntmps14
    go_wp2_with fail
    refine (w_deciders _).mono ?_
    rintro e w2 ⟨rfl, hw2⟩
    have HL := Hid.mk ((HX.out.keep hw2).keep (below1 w2 (.cells wayC 54)))
    unfold wayC at HL
    clear hw2 HX
    have p0 := HL.out.one.c0
    go_wp2_with fail
    go_ret
    exact ⟨rfl, HL.out.one.below⟩
  · have hk1 : ¬ ka < 0 := by omega
    have hk2 : 7 ≤ ka := by omega
    clear hk
    go_enter Try.func14, Try.ntmps14
    go_wp2_with fail
    refine (w_deciders _).mono ?_
    rintro e w2 ⟨rfl, hw2⟩
    have HL := Hid.mk ((HX.out.keep hw2).keep (below1 w2 (.cells wayC 54)))
    unfold wayC at HL
    clear hw2 HX
    have p0 := HL.out.one.c0
    go_wp2_with fail
    go_ret
    exact ⟨rfl, HL.out.one.below⟩

theorem cmpV_ne {ka kb : Int} (hk : ¬ ka = kb) (nc tc kc ic : Int) : cmpV ka kb nc tc kc ic = Pl.cmpI ka kb := by
  unfold cmpV Pl.cmpI
  by_cases h : ka < kb
  · rw [if_pos h, if_pos h]
  · rw [if_neg h, if_neg h, if_pos (by omega), if_pos (by omega)]
theorem cmpV_eq (k : Int) (nc tc kc ic : Int) : cmpV k k nc tc kc ic = if k = 3 then nc else if k = 4 then tc else if k = 5 then ic else if k = 6 then (if kc = 0 then ic else kc) else 0 := by
  unfold cmpV; rw [if_neg (by omega), if_neg (by omega)]

theorem w_vCmp : ∀ h, FcOk h
  | 0 => fun A B va vb w hA _ => hA.elim
  | h + 1 => fun A B va vb w hA hB => by
    obtain ⟨io, icap, ko, kcap, rfl, a1, a2, a3, a4, a5, a6, a7, hk, hi⟩ := hA.open
    obtain ⟨jo, jcap, lo, lcap, rfl, b1, b2, b3, b4, b5, b6, b7, hl, hj⟩ := hB.open
    show Calls Try.prog 14 _ w fun e w' => e = .returned (.int .i64 (cmpV A.kind B.kind (numC A.num B.num) (keyC A.text B.text) (listC keyC A.keys B.keys) (listC (cmpH h) A.items B.items))) ∧ Below w.heap.size w w'
    by_cases ek : A.kind = B.kind
    · have HCI : Hid (∀ u, Below w.heap.size w u → Calls Try.prog 78 #[.slice io A.items.length icap, .slice jo B.items.length jcap, .func (.func 14) #[] #[]] u fun e w' => e = .returned (.int .i64 (listC (cmpH h) A.items B.items)) ∧ Below u.heap.size u w') :=
        fun u hu => w_slCompareFunc h (w_vCmp h) io _ icap A.items jo _ jcap B.items u (hi.keep hu) (hj.keep hu) rfl rfl a5 b5 a3 b3
      have HCK : Hid (∀ u, Below w.heap.size w u → Calls Try.prog 79 #[.slice ko A.keys.length kcap, .slice lo B.keys.length lcap] u fun e w' => e = .returned (.int .i64 (listC keyC A.keys B.keys)) ∧ w' = u) :=
        fun u hu => w_slCompare ko _ kcap A.keys lo _ lcap B.keys u (hk.keep hu) (hl.keep hu) rfl rfl a6 b6 a4 b4
      rw [← ek, cmpV_eq]
      generalize A.kind = kd
      by_cases h3 : kd = 3
      · rw [if_pos h3, h3]
        exact vcmp_3 w _ _ _ _ _ _ _ _ _ _ _ _ _ _ _ _ _ (fun u hu => w_byWorth 3 3 _ _ _ _ _ _ _ _ _ _ _ _ _ _ _ _ a1 b1 u)
      rw [if_neg h3]
      by_cases h4 : kd = 4
      · rw [if_pos h4, h4]
        exact vcmp_4 w _ _ _ _ _ _ _ _ _ _ _ _ _ _ _ _ _ (fun u hu => w_byText 4 4 _ _ _ _ _ _ _ _ _ _ _ _ _ _ _ _ u)
      rw [if_neg h4]
      by_cases h5 : kd = 5
      · rw [if_pos h5, h5]
        exact vcmp_5 w _ _ _ _ _ _ _ _ _ _ _ _ _ _ _ _ _ (fun u hu => w_byItems u 5 5 _ _ _ _ _ _ _ _ _ _ _ _ _ _ _ _ _ (fun u2 hu2 => HCI.out u2 (below_more hu hu2)))
      rw [if_neg h5]
      by_cases h6 : kd = 6
      · rw [if_pos h6, h6]
        exact vcmp_6 w _ _ _ _ _ _ _ _ _ _ _ _ _ _ _ _ _ (fun u hu => w_byFields u 6 6 _ _ _ _ _ _ _ _ _ _ _ _ _ _ _ _ _ _ (fun u2 hu2 => HCI.out u2 (below_more hu hu2)) (fun u2 hu2 => HCK.out u2 (below_more hu hu2)))
      rw [if_neg h6]
      by_cases h0 : kd = 0
      · rw [h0]; exact vcmp_0 w _ _ _ _ _ _ _ _ _ _ _ _ _ _ _ _ _ (fun u hu => w_alike 0 0 _ _ _ _ _ _ _ _ _ _ _ _ _ _ _ _ u)
      by_cases h1 : kd = 1
      · rw [h1]; exact vcmp_1 w _ _ _ _ _ _ _ _ _ _ _ _ _ _ _ _ _ (fun u hu => w_alike 1 1 _ _ _ _ _ _ _ _ _ _ _ _ _ _ _ _ u)
      by_cases h2 : kd = 2
      · rw [h2]; exact vcmp_2 w _ _ _ _ _ _ _ _ _ _ _ _ _ _ _ _ _ (fun u hu => w_alike 2 2 _ _ _ _ _ _ _ _ _ _ _ _ _ _ _ _ u)
      exact vcmp_else w kd (by omega) _ _ _ _ _ _ _ _ _ _ _ _ _ _ _ _
    · rw [cmpV_ne ek]
      exact vcmp_ne w _ _ ek _ _ _ _ _ _ _ _ _ _ _ _ _ _ _ _
end Go.Proofs.Ytjfbbdhmcljhnaa
