import Derived.Test.YtkoednenjnnjoaaDoorZW26
import Derived.Test.YtkoednenjnnjoaaDoorZW21
import Derived.Test.YtkoednenjnnjoaaDoorM27
import Derived.Test.YtkoednenjnnjoaaDoorM9
namespace Go.Proofs.YtkoednenjnnjoaaDoor
open Go.RowKit
set_option linter.unusedVariables false
set_option linter.unusedSimpArgs false

theorem good_byte {A : ByteArray} {l : List UInt8} (hA : A.data.toList = l) (hg : goodL l) (k : Nat) (h : k < A.size) : ¬ (((A[k]'h).toNat : Int) < 32) := by
  have hm : A[k]'h ∈ l := by
    rw [← hA]
    have : A[k]'h = A.data[k]'h := rfl
    rw [this]
    exact Array.mem_toList_iff.2 (Array.getElem_mem h)
  have := hg.2 _ hm
  omega

set_option maxRecDepth 100000 in
set_option maxHeartbeats 3200000 in
theorem w_WriterBare (h : Nat) (T : VT) (w : World) (k : Int) (n t : ByteArray) (io : Option Addr) (N icap : Nat) (ko : Option Addr) (K kcap : Nat) (sp : Int) (hI : InH w h T (.agg #[.int .i64 k, .string n, .string t, .slice io N icap, .slice ko K kcap])) (hsh : ShV h T) (hwd : WordsAt w) :
    Calls Tryd.prog 7 #[.agg #[.int .i64 k, .string n, .string t, .slice io N icap, .slice ko K kcap], .int .i64 sp] w fun e w' => e = .returned (.bool true) ∧ Below w.heap.size w w' := by
  have HX := Hid.mk (vbx_new w (.int .i64 k) (.string n) (.string t) (.slice io N icap) (.slice ko K kcap))
  obtain ⟨W0, hW0⟩ : ∃ W0, W0 = w.alloc (.cells #[.int .i64 k, .string n, .string t, .slice io N icap, .slice ko K kcap] 25) := ⟨_, rfl⟩
  rw [← hW0] at HX
  have HW0 := Hid.mk hW0
  have HLv : Hid (∀ u, VBx w u (.int .i64 k) (.string n) (.string t) (.slice io N icap) (.slice ko K kcap) → Calls Tryd.prog 8 #[] u fun e w' => e = .returned (.bool true) ∧ Hid (VBx w w' (.int .i64 k) (.string n) (.string t) (.slice io N icap) (.slice ko K kcap))) := fun u hu => (w_lives6 u (hwd.keep hu.below)).mono fun e w' ⟨he, hb⟩ => ⟨he, hu.keep hb⟩
  have HSm : Hid (∀ u, VBx w u (.int .i64 k) (.string n) (.string t) (.slice io N icap) (.slice ko K kcap) → Calls Tryd.prog 9 #[.agg #[.int .i64 k, .string n, .string t, .slice io N icap, .slice ko K kcap]] u fun e w' => e = .returned (.bool (decide (szN h T ≤ 20000))) ∧ Hid (VBx w w' (.int .i64 k) (.string n) (.string t) (.slice io N icap) (.slice ko K kcap))) := fun u hu => (w_small6 h T u _ _ _ _ _ _ _ _ _ (hI.keep hu.below)).mono fun e w' ⟨he, hb⟩ => ⟨he, hu.keep hb⟩
  have HFm : Hid (∀ u, VBx w u (.int .i64 k) (.string n) (.string t) (.slice io N icap) (.slice ko K kcap) → Calls Tryd.prog 18 #[.agg #[.int .i64 k, .string n, .string t, .slice io N icap, .slice ko K kcap]] u fun e w' => e = .returned (.bool (formN h T)) ∧ Hid (VBx w w' (.int .i64 k) (.string n) (.string t) (.slice io N icap) (.slice ko K kcap))) := fun u hu => (w_rFormed h T _ u (hI.keep hu.below)).mono fun e w' ⟨he, hb⟩ => ⟨he, hu.keep hb⟩
  clear hW0
  cases hd : decide (szN h T ≤ 20000) with
  | false =>
    rw [hd] at HSm
    clear hd hI hsh hwd
    go_enter Tryd.func7, Tryd.ntmps7
    go_wp2_with fail
    rw [← HW0.out]
    refine (HLv.out _ HX.out).mono ?_
    rintro e w1 ⟨rfl, HX1⟩
    obtain ⟨_, c0, c1, c2, c3, c4, _⟩ := HX1.out
    go_wp2_with fail
    refine (HSm.out _ HX1.out).mono ?_
    rintro e w2 ⟨rfl, HX2⟩
    clear c0 c1 c2 c3 c4
    go_wp2_with fail
    go_ret
    exact ⟨rfl, HX2.out.below⟩
  | true =>
    have hsz : szN h T ≤ 20000 := of_decide_eq_true hd
    rw [hd] at HSm
    clear hd
    cases hf : formN h T with
    | false =>
      rw [hf] at HFm
      clear hf hI hsh hwd hsz
      go_enter Tryd.func7, Tryd.ntmps7
      go_wp2_with fail
      rw [← HW0.out]
      refine (HLv.out _ HX.out).mono ?_
      rintro e w1 ⟨rfl, HX1⟩
      obtain ⟨_, c0, c1, c2, c3, c4, _⟩ := HX1.out
      go_wp2_with fail
      refine (HSm.out _ HX1.out).mono ?_
      rintro e w2 ⟨rfl, HX2⟩
      clear c0 c1 c2 c3 c4
      obtain ⟨_, c0, c1, c2, c3, c4, _⟩ := HX2.out
      go_wp2_with fail
      refine (HFm.out _ HX2.out).mono ?_
      rintro e w3 ⟨rfl, HX3⟩
      clear c0 c1 c2 c3 c4
      go_wp2_with fail
      go_ret
      exact ⟨rfl, HX3.out.below⟩
    | true =>
      rw [hf] at HFm
      by_cases h0 : sp < 0
      · clear hf hI hsh hwd hsz
        go_enter Tryd.func7, Tryd.ntmps7
        go_wp2_with fail
        rw [← HW0.out]
        refine (HLv.out _ HX.out).mono ?_
        rintro e w1 ⟨rfl, HX1⟩
        obtain ⟨_, c0, c1, c2, c3, c4, _⟩ := HX1.out
        go_wp2_with fail
        refine (HSm.out _ HX1.out).mono ?_
        rintro e w2 ⟨rfl, HX2⟩
        clear c0 c1 c2 c3 c4
        obtain ⟨_, c0, c1, c2, c3, c4, _⟩ := HX2.out
        go_wp2_with fail
        refine (HFm.out _ HX2.out).mono ?_
        rintro e w3 ⟨rfl, HX3⟩
        clear c0 c1 c2 c3 c4
        go_wp2_with fail
        go_ret
        exact ⟨rfl, HX3.out.below⟩
      by_cases h8 : 8 < sp
      · clear hf hI hsh hwd hsz
        go_enter Tryd.func7, Tryd.ntmps7
        go_wp2_with fail
        rw [← HW0.out]
        refine (HLv.out _ HX.out).mono ?_
        rintro e w1 ⟨rfl, HX1⟩
        obtain ⟨_, c0, c1, c2, c3, c4, _⟩ := HX1.out
        go_wp2_with fail
        refine (HSm.out _ HX1.out).mono ?_
        rintro e w2 ⟨rfl, HX2⟩
        clear c0 c1 c2 c3 c4
        obtain ⟨_, c0, c1, c2, c3, c4, _⟩ := HX2.out
        go_wp2_with fail
        refine (HFm.out _ HX2.out).mono ?_
        rintro e w3 ⟨rfl, HX3⟩
        clear c0 c1 c2 c3 c4
        go_wp2_with fail
        go_ret
        exact ⟨rfl, HX3.out.below⟩
      obtain ⟨s, hs⟩ : ∃ s : Nat, sp = (s : Int) := ⟨sp.toNat, by omega⟩
      subst hs
      have hs8 : s ≤ 8 := by omega
      obtain ⟨A, hA⟩ : ∃ A : ByteArray, A = ⟨(wrV none h 0 T).toArray⟩ := ⟨_, rfl⟩
      obtain ⟨X, hX⟩ : ∃ X : ByteArray, X = ⟨(wrV (some s) h 0 T).toArray⟩ := ⟨_, rfl⟩
      have hAl : A.data.toList = wrV none h 0 T := by rw [hA]
      have hXl : X.data.toList = wrV (some s) h 0 T := by rw [hX]
      have hg := good_wrV h 0 T hf
      have HGB := Hid.mk (good_byte hAl hg)
      have hAz : A.size ≤ 70368744177664 := by
        have e1 : A.size = (wrV none h 0 T).length := by rw [hA]; simp [ByteArray.size]
        have e2 := wrV_len none (fun s e => by cases e) h 0 T hf hsh (by omega)
        omega
      have hXz : X.size ≤ 70368744177664 := by
        have e1 : X.size = (wrV (some s) h 0 T).length := by rw [hX]; simp [ByteArray.size]
        have e2 := wrV_len (some s) (fun s' e => by cases e; exact hs8) h 0 T hf hsh (by omega)
        omega
      have hbare : bareF false X.data.toList = A.data.toList := by
        have e := bare_wrV s h 0 0 T hf []
        rw [List.append_nil, show bareF false [] = [] from rfl, List.append_nil] at e
        rw [hXl, hAl, e]
      have HTx : Hid (∀ u, VBx w u (.int .i64 k) (.string n) (.string t) (.slice io N icap) (.slice ko K kcap) → Calls Tryd.prog 10 #[.agg #[.int .i64 k, .string n, .string t, .slice io N icap, .slice ko K kcap]] u fun e w' => e = .returned (.tuple #[.string A, .int .i64 0]) ∧ Hid (VBx w w' (.int .i64 k) (.string n) (.string t) (.slice io N icap) (.slice ko K kcap))) := fun u hu => by
        have h1 := w_Text h T u _ _ _ _ _ _ _ _ _ (hI.keep hu.below) hsh hsz (hwd.keep hu.below)
        rw [hf] at h1
        simp only [if_true] at h1
        rw [← hA] at h1
        exact h1.mono fun e w' ⟨he, hb⟩ => ⟨he, hu.keep hb⟩
      have HLd : Hid (∀ u, VBx w u (.int .i64 k) (.string n) (.string t) (.slice io N icap) (.slice ko K kcap) → Calls Tryd.prog 13 #[.agg #[.int .i64 k, .string n, .string t, .slice io N icap, .slice ko K kcap], .int .i64 (s : Int)] u fun e w' => e = .returned (.tuple #[.string X, .int .i64 0]) ∧ Hid (VBx w w' (.int .i64 k) (.string n) (.string t) (.slice io N icap) (.slice ko K kcap))) := fun u hu => by
        have h1 := w_Laid h T u _ _ _ _ _ _ _ _ _ s hs8 (hI.keep hu.below) hsh hsz (hwd.keep hu.below)
        rw [hf] at h1
        simp only [if_true] at h1
        rw [← hX] at h1
        exact h1.mono fun e w' ⟨he, hb⟩ => ⟨he, hu.keep hb⟩
      have HBr : Hid (∀ u, VBx w u (.int .i64 k) (.string n) (.string t) (.slice io N icap) (.slice ko K kcap) → Calls Tryd.prog 20 #[.string X] u fun e w' => e = .returned (.string A) ∧ Hid (VBx w w' (.int .i64 k) (.string n) (.string t) (.slice io N icap) (.slice ko K kcap))) := fun u hu => by
        have h1 := w_rBare X u hXz
        rw [hbare] at h1
        exact h1.mono fun e w' ⟨he, hb⟩ => ⟨he, hu.keep hb⟩
      have HUt : Hid (∀ u, VBx w u (.int .i64 k) (.string n) (.string t) (.slice io N icap) (.slice ko K kcap) → Calls Tryd.prog 21 #[.string A] u fun e w' => e = .returned (.bool true) ∧ Hid (VBx w w' (.int .i64 k) (.string n) (.string t) (.slice io N icap) (.slice ko K kcap))) := fun u hu => by
        have h1 := w_UTF A u (by omega)
        rw [hAl, hg.1] at h1
        exact h1.mono fun e w' ⟨he, hb⟩ => ⟨he, by subst hb; exact hu⟩
      have h9 : ¬ (s : Int) < 0 := h0
      clear hf hI hsh hwd hsz hA hX hAl hXl hg hbare hXz hs8
      go_enter Tryd.func7, Tryd.ntmps7
      go_wp2_with fail
      rw [← HW0.out]
      refine (HLv.out _ HX.out).mono ?_
      rintro e w1 ⟨rfl, HX1⟩
      obtain ⟨_, c0, c1, c2, c3, c4, _⟩ := HX1.out
      go_wp2_with fail
      refine (HSm.out _ HX1.out).mono ?_
      rintro e w2 ⟨rfl, HX2⟩
      clear c0 c1 c2 c3 c4
      obtain ⟨_, c0, c1, c2, c3, c4, _⟩ := HX2.out
      go_wp2_with fail
      refine (HFm.out _ HX2.out).mono ?_
      rintro e w3 ⟨rfl, HX3⟩
      clear c0 c1 c2 c3 c4
      obtain ⟨_, c0, c1, c2, c3, c4, _⟩ := HX3.out
      go_wp2_with fail
      refine (HTx.out _ HX3.out).mono ?_
      rintro e w4 ⟨rfl, HX4⟩
      clear c0 c1 c2 c3 c4
      obtain ⟨_, c0, c1, c2, c3, c4, _⟩ := HX4.out
      go_wp2_with fail
      refine (HLd.out _ HX4.out).mono ?_
      rintro e w5 ⟨rfl, HX5⟩
      clear c0 c1 c2 c3 c4
      go_wp2_with fail
      go_loopw [9] (fun iv wr => ∃ j : Nat, j ≤ A.size ∧ iv = .int .i64 (j : Int) ∧ Hid (VBx w wr (.int .i64 k) (.string n) (.string t) (.slice io N icap) (.slice ko K kcap))) (fun iv _ => A.size - (intOf iv).toNat)
      case atStart => exact ⟨0, Nat.zero_le _, rfl, HX5⟩
      case round =>
        obtain ⟨j, hj, rfl, HXr⟩ := hrel
        by_cases hlt : j < A.size
        · have hl1 : (j : Int) < (A.size : Int) := by omega
          have hix : (0 : Int) ≤ (j : Int) ∧ (j : Int) < (A.size : Int) := by omega
          have hb := HGB.out j hlt
          go_wp2_with fail
          go_roundw
          case rel => exact ⟨j + 1, hlt, by go_num, HXr⟩
          case measure => simp [intOf]; omega
        · have hl1 : ¬ (j : Int) < (A.size : Int) := by omega
          go_wp2_with fail
          refine (HBr.out _ HXr.out).mono ?_
          rintro e w6 ⟨rfl, HX6⟩
          go_wp2_with fail
          refine (HUt.out _ HX6.out).mono ?_
          rintro e w7 ⟨rfl, HX7⟩
          go_wp2_with fail
          go_ret
          exact ⟨by first | rfl | simp, HX7.out.below⟩
end Go.Proofs.YtkoednenjnnjoaaDoor
