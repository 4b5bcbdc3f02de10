import Derived.Test.YtkoednenjnnjoaaDoorM27
import Derived.Test.YtkoednenjnnjoaaDoorZW12
namespace Go.Proofs.YtkoednenjnnjoaaDoor
open Go.RowKit
set_option linter.unusedVariables false
set_option linter.unusedSimpArgs false

set_option maxRecDepth 100000 in
set_option maxHeartbeats 3200000 in
theorem w_WriterPlain (h : Nat) (T : VT) (w : World) (k : Int) (n t : ByteArray) (io : Option Addr) (N icap : Nat) (ko : Option Addr) (K kcap : Nat) (hI : InH w h T (.agg #[.int .i64 k, .string n, .string t, .slice io N icap, .slice ko K kcap])) (hsh : ShV h T) (hwd : WordsAt w) :
    Calls Tryd.prog 3 #[.agg #[.int .i64 k, .string n, .string t, .slice io N icap, .slice ko K kcap]] w fun e w' => e = .returned (.bool true) ∧ Below w.heap.size w w' := by
  have HX := Hid.mk (vbx_new w (.int .i64 k) (.string n) (.string t) (.slice io N icap) (.slice ko K kcap))
  obtain ⟨W0, hW0⟩ : ∃ W0, W0 = w.alloc (.cells #[.int .i64 k, .string n, .string t, .slice io N icap, .slice ko K kcap] 25) := ⟨_, rfl⟩
  rw [← hW0] at HX
  have HW0 := Hid.mk hW0
  have HLv : Hid (∀ u, VBx w u (.int .i64 k) (.string n) (.string t) (.slice io N icap) (.slice ko K kcap) → Calls Tryd.prog 8 #[] u fun e w' => e = .returned (.bool true) ∧ Hid (VBx w w' (.int .i64 k) (.string n) (.string t) (.slice io N icap) (.slice ko K kcap))) := fun u hu => (w_lives6 u (hwd.keep hu.below)).mono fun e w' ⟨he, hb⟩ => ⟨he, hu.keep hb⟩
  have HSm : Hid (∀ u, VBx w u (.int .i64 k) (.string n) (.string t) (.slice io N icap) (.slice ko K kcap) → Calls Tryd.prog 9 #[.agg #[.int .i64 k, .string n, .string t, .slice io N icap, .slice ko K kcap]] u fun e w' => e = .returned (.bool (decide (szN h T ≤ 20000))) ∧ Hid (VBx w w' (.int .i64 k) (.string n) (.string t) (.slice io N icap) (.slice ko K kcap))) := fun u hu => (w_small6 h T u _ _ _ _ _ _ _ _ _ (hI.keep hu.below)).mono fun e w' ⟨he, hb⟩ => ⟨he, hu.keep hb⟩
  clear hW0
  cases hd : decide (szN h T ≤ 20000) with
  | false =>
    rw [hd] at HSm
    clear hd hI hsh hwd
    go_enter Tryd.func3, Tryd.ntmps3
    go_wp2_with fail
    rw [← HW0.out]
    refine (HLv.out _ HX.out).mono ?_
    rintro e w1 ⟨rfl, HX1⟩
    obtain ⟨_, c0, c1, c2, c3, c4, _⟩ := HX1.out
    go_wp2_with fail
    refine (HSm.out _ HX1.out).mono ?_
    rintro e w2 ⟨rfl, HX2⟩
    clear c0 c1 c2 c3 c4
    go_wp2_with fail
    go_ret
    exact ⟨rfl, HX2.out.below⟩
  | true =>
    have hsz : szN h T ≤ 20000 := of_decide_eq_true hd
    rw [hd] at HSm
    obtain ⟨A, hA⟩ : ∃ A : ByteArray, A = ⟨(if formN h T = true then wrV none h 0 T else []).toArray⟩ := ⟨_, rfl⟩
    obtain ⟨er, her⟩ : ∃ er : Int, er = (if formN h T = true then 0 else 1) := ⟨_, rfl⟩
    have hln : (if formN h T = true then ((wrV none h 0 T).length : Int) else 0) = (A.size : Int) := by
      rw [hA]
      by_cases hf : formN h T = true
      · rw [if_pos hf, if_pos hf]; simp [ByteArray.size]
      · rw [if_neg hf, if_neg hf]; rfl
    have HTx : Hid (∀ u, VBx w u (.int .i64 k) (.string n) (.string t) (.slice io N icap) (.slice ko K kcap) → Calls Tryd.prog 10 #[.agg #[.int .i64 k, .string n, .string t, .slice io N icap, .slice ko K kcap]] u fun e w' => e = .returned (.tuple #[.string A, .int .i64 er]) ∧ Hid (VBx w w' (.int .i64 k) (.string n) (.string t) (.slice io N icap) (.slice ko K kcap))) := fun u hu => (w_Text h T u _ _ _ _ _ _ _ _ _ (hI.keep hu.below) hsh hsz (hwd.keep hu.below)).mono fun e w' ⟨he, hb⟩ => ⟨by rw [he, hA, her], hu.keep hb⟩
    have HSz : Hid (∀ u, VBx w u (.int .i64 k) (.string n) (.string t) (.slice io N icap) (.slice ko K kcap) → Calls Tryd.prog 11 #[.agg #[.int .i64 k, .string n, .string t, .slice io N icap, .slice ko K kcap]] u fun e w' => e = .returned (.tuple #[.int .i64 (A.size : Int), .int .i64 er]) ∧ Hid (VBx w w' (.int .i64 k) (.string n) (.string t) (.slice io N icap) (.slice ko K kcap))) := fun u hu => (w_Size h T u _ _ _ _ _ _ _ _ _ (hI.keep hu.below) hsh hsz (hwd.keep hu.below)).mono fun e w' ⟨he, hb⟩ => ⟨by rw [he, hln, her], hu.keep hb⟩
    have HRx : Hid (∀ u, VBx w u (.int .i64 k) (.string n) (.string t) (.slice io N icap) (.slice ko K kcap) → Calls Tryd.prog 12 #[.agg #[.int .i64 k, .string n, .string t, .slice io N icap, .slice ko K kcap]] u fun e w' => e = .returned (.tuple #[.string A, .int .i64 er]) ∧ Hid (VBx w w' (.int .i64 k) (.string n) (.string t) (.slice io N icap) (.slice ko K kcap))) := fun u hu => (w_rText h T u _ _ _ _ _ _ _ _ _ (hI.keep hu.below) hsh hsz).mono fun e w' ⟨he, hb⟩ => ⟨by rw [he, hA, her], hu.keep hb⟩
    clear hd hI hsh hwd hA her hln hsz
    go_enter Tryd.func3, Tryd.ntmps3
    go_wp2_with fail
    rw [← HW0.out]
    refine (HLv.out _ HX.out).mono ?_
    rintro e w1 ⟨rfl, HX1⟩
    obtain ⟨_, c0, c1, c2, c3, c4, _⟩ := HX1.out
    go_wp2_with fail
    refine (HSm.out _ HX1.out).mono ?_
    rintro e w2 ⟨rfl, HX2⟩
    clear c0 c1 c2 c3 c4
    obtain ⟨_, c0, c1, c2, c3, c4, _⟩ := HX2.out
    go_wp2_with fail
    refine (HTx.out _ HX2.out).mono ?_
    rintro e w3 ⟨rfl, HX3⟩
    clear c0 c1 c2 c3 c4
    obtain ⟨_, c0, c1, c2, c3, c4, _⟩ := HX3.out
    go_wp2_with fail
    refine (HSz.out _ HX3.out).mono ?_
    rintro e w4 ⟨rfl, HX4⟩
    clear c0 c1 c2 c3 c4
    obtain ⟨_, c0, c1, c2, c3, c4, _⟩ := HX4.out
    go_wp2_with fail
    refine (HRx.out _ HX4.out).mono ?_
    rintro e w5 ⟨rfl, HX5⟩
    clear c0 c1 c2 c3 c4
    go_wp2_with fail
    go_ret
    exact ⟨by first | rfl | simp, HX5.out.below⟩
end Go.Proofs.YtkoednenjnnjoaaDoor
