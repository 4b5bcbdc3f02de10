import Derived.Test.YtohclfgghobldaaGreatDoorM47
import Derived.Test.YtohclfgghobldaaGreatDoorM46
import Derived.Test.YtohclfgghobldaaGreatDoorM20
namespace Go.Proofs.YtohclfgghobldaaGreatDoor
open Go.RowKit Go.Shelf
set_option linter.unusedVariables false
set_option linter.unusedSimpArgs false

set_option maxRecDepth 100000 in
set_option maxHeartbeats 3200000 in
theorem w_is (s : ByteArray) (T : List Tok) (bo : Option Addr) (bc : Nat) (w : World) (ss : s.size ≤ 16777216) (hE : ErrIn w) (hsc : scW s.data.toList = T) (hok : ∀ t ∈ T, t.err = 0) (hr : TRow w bo T) (hbc : T.length ≤ bc) (hln : T.length ≤ 16777216) :
    Calls Tryz.prog 34 #[.string s, .slice bo T.length bc] w fun e w' => e = .returned (.bool true) ∧ Below w.heap.size w w' := by
  have HS : Hid (Calls Tryz.prog 5 #[.string s] w fun e w' => ∃ so sc, e = .returned (.tuple #[.slice so T.length sc, .int .i64 0, .int .i64 0]) ∧ Hid (TRow w' so T ∧ T.length ≤ sc) ∧ Below w.heap.size w w') := by
    refine (w_wScan s w ss hE).mono ?_
    unfold ScR
    rw [hsc]
    rintro e w' ⟨⟨_, so, sc, rfl, hro⟩ | ⟨pre, x, h1, h2, _⟩, hb⟩
    · exact ⟨so, sc, rfl, trow_own hro.out, hb⟩
    · exact absurd (hok x (by rw [h1]; simp)) h2
  have HSm : Hid (∀ (u : World) (so : Option Addr) (sc : Nat), TRow u so T → TRow u bo T → T.length ≤ sc → Calls Tryz.prog 6 #[.slice so T.length sc, .slice bo T.length bc] u fun e w' => e = .returned (.bool true) ∧ Below u.heap.size u w') := fun u so sc h1 h2 h3 => w_SameTokens T so bo sc bc u (by omega) h1 h2 h3 hbc
  have HR := Hid.mk hr
  clear hr hsc hok hE
  generalize hN : T.length = N at *
  clear hN
  go_enter Tryz.func34, Tryz.ntmps34
  go_wp2_with fail
  refine HS.out.mono ?_
  rintro e w1 ⟨so, sc, rfl, HT, hb1⟩
  have HB1 := Hid.mk hb1
  clear hb1
  go_wp2_with fail
  refine (HSm.out _ _ _ HT.out.1 (HR.out.keep HB1.out) HT.out.2).mono ?_
  rintro e w2 ⟨rfl, hb2⟩
  have HB2 := Hid.mk (HB1.out.trans (hb2.mono HB1.out.size))
  clear hb2
  go_wp2_with fail
  go_ret
  exact ⟨rfl, HB2.out⟩

set_option maxRecDepth 100000 in
set_option maxHeartbeats 3200000 in
theorem w_wfails (s : ByteArray) (er pa : Nat) (pre : List Tok) (x : Tok) (w : World) (ss : s.size ≤ 16777216) (hE : ErrIn w) (hall : scW s.data.toList = pre ++ [x]) (he : x.err = er) (hne : er ≠ 0) (hp : x.at_ = pa) :
    Calls Tryz.prog 35 #[.string s, .int .i64 (er : Int), .int .i64 (pa : Int)] w fun e w' => e = .returned (.bool true) ∧ Below w.heap.size w w' := by
  have HS : Hid (Calls Tryz.prog 5 #[.string s] w fun e w' => e = .returned (.tuple #[.slice none 0 0, .int .i64 (er : Int), .int .i64 (pa : Int)]) ∧ Below w.heap.size w w') := by
    refine (w_wScan s w (by omega) hE).mono ?_
    rintro e w' ⟨h | ⟨p2, x2, h1, _, h3⟩, hb⟩
    · exact absurd (h.1 x (by rw [hall]; simp)) (by rw [he]; exact hne)
    · rw [hall] at h1
      have := List.append_inj' h1 rfl
      have hx : x = x2 := by simpa using this.2
      rw [← hx, he, hp] at h3
      exact ⟨h3, hb⟩
  have h1 : (((er : Nat) : Int) == (er : Int)) = true := by simp
  have h2 : (((pa : Nat) : Int) == (pa : Int)) = true := by simp
  clear hall he hp hE
  go_enter Tryz.func35, Tryz.ntmps35
  go_wp2_with fail
  refine HS.out.mono ?_
  rintro e w1 ⟨rfl, hb1⟩
  have HB := Hid.mk hb1
  clear hb1
  go_wp2_with fail
  go_ret
  exact ⟨rfl, HB.out⟩

theorem w_isA (u : World) (hE : ErrIn u) : Calls Tryz.prog 34 #[.string ⟨#[46, 97, 32, 124, 32, 109, 97, 112, 40, 36, 120, 41]⟩, .slice (some ⟨u.heap.size, 0, none⟩) 6 6] (u.alloc (.cells #[.int .i64 4, .int .i64 0, .int .i64 2, .string ⟨#[97]⟩, .int .i64 10, .int .i64 3, .int .i64 4, .string ⟨#[124]⟩, .int .i64 1, .int .i64 5, .int .i64 8, .string ⟨#[109, 97, 112]⟩, .int .i64 10, .int .i64 8, .int .i64 9, .string ⟨#[40]⟩, .int .i64 3, .int .i64 9, .int .i64 11, .string ⟨#[120]⟩, .int .i64 10, .int .i64 11, .int .i64 12, .string ⟨#[41]⟩] 54)) fun e w' => e = .returned (.bool true) ∧ Below u.heap.size u w' := by
  have hb := below1 u (.cells #[.int .i64 4, .int .i64 0, .int .i64 2, .string ⟨#[97]⟩, .int .i64 10, .int .i64 3, .int .i64 4, .string ⟨#[124]⟩, .int .i64 1, .int .i64 5, .int .i64 8, .string ⟨#[109, 97, 112]⟩, .int .i64 10, .int .i64 8, .int .i64 9, .string ⟨#[40]⟩, .int .i64 3, .int .i64 9, .int .i64 11, .string ⟨#[120]⟩, .int .i64 10, .int .i64 11, .int .i64 12, .string ⟨#[41]⟩] 54)
  refine (w_is ⟨#[46, 97, 32, 124, 32, 109, 97, 112, 40, 36, 120, 41]⟩ yA (some ⟨u.heap.size, 0, none⟩) 6 _ (by decide) (hE.keep hb) sc_A (by decide) (trow_block (heap_alloc_new u _) rfl) (by decide) (by decide)).mono ?_
  rintro e w' ⟨h1, h2⟩
  exact ⟨h1, hb.trans (h2.mono hb.size)⟩

theorem w_isB (u : World) (hE : ErrIn u) : Calls Tryz.prog 34 #[.string ⟨#[34, 97, 92, 40, 46, 98, 41, 99, 34]⟩, .slice (some ⟨u.heap.size, 0, none⟩) 3 3] (u.alloc (.cells #[.int .i64 7, .int .i64 0, .int .i64 4, .string ⟨#[97]⟩, .int .i64 4, .int .i64 4, .int .i64 6, .string ⟨#[98]⟩, .int .i64 9, .int .i64 6, .int .i64 9, .string ⟨#[99]⟩] 54)) fun e w' => e = .returned (.bool true) ∧ Below u.heap.size u w' := by
  have hb := below1 u (.cells #[.int .i64 7, .int .i64 0, .int .i64 4, .string ⟨#[97]⟩, .int .i64 4, .int .i64 4, .int .i64 6, .string ⟨#[98]⟩, .int .i64 9, .int .i64 6, .int .i64 9, .string ⟨#[99]⟩] 54)
  refine (w_is ⟨#[34, 97, 92, 40, 46, 98, 41, 99, 34]⟩ yB (some ⟨u.heap.size, 0, none⟩) 3 _ (by decide) (hE.keep hb) sc_B (by decide) (trow_block (heap_alloc_new u _) rfl) (by decide) (by decide)).mono ?_
  rintro e w' ⟨h1, h2⟩
  exact ⟨h1, hb.trans (h2.mono hb.size)⟩

theorem w_isC (u : World) (hE : ErrIn u) : Calls Tryz.prog 34 #[.string ⟨#[34, 92, 40, 40, 49, 41, 41, 92, 40, 50, 41, 34]⟩, .slice (some ⟨u.heap.size, 0, none⟩) 7 7] (u.alloc (.cells #[.int .i64 7, .int .i64 0, .int .i64 3, .string ⟨#[]⟩, .int .i64 10, .int .i64 3, .int .i64 4, .string ⟨#[40]⟩, .int .i64 5, .int .i64 4, .int .i64 5, .string ⟨#[49]⟩, .int .i64 10, .int .i64 5, .int .i64 6, .string ⟨#[41]⟩, .int .i64 8, .int .i64 6, .int .i64 9, .string ⟨#[]⟩, .int .i64 5, .int .i64 9, .int .i64 10, .string ⟨#[50]⟩, .int .i64 9, .int .i64 10, .int .i64 12, .string ⟨#[]⟩] 54)) fun e w' => e = .returned (.bool true) ∧ Below u.heap.size u w' := by
  have hb := below1 u (.cells #[.int .i64 7, .int .i64 0, .int .i64 3, .string ⟨#[]⟩, .int .i64 10, .int .i64 3, .int .i64 4, .string ⟨#[40]⟩, .int .i64 5, .int .i64 4, .int .i64 5, .string ⟨#[49]⟩, .int .i64 10, .int .i64 5, .int .i64 6, .string ⟨#[41]⟩, .int .i64 8, .int .i64 6, .int .i64 9, .string ⟨#[]⟩, .int .i64 5, .int .i64 9, .int .i64 10, .string ⟨#[50]⟩, .int .i64 9, .int .i64 10, .int .i64 12, .string ⟨#[]⟩] 54)
  refine (w_is ⟨#[34, 92, 40, 40, 49, 41, 41, 92, 40, 50, 41, 34]⟩ yC (some ⟨u.heap.size, 0, none⟩) 7 _ (by decide) (hE.keep hb) sc_C (by decide) (trow_block (heap_alloc_new u _) rfl) (by decide) (by decide)).mono ?_
  rintro e w' ⟨h1, h2⟩
  exact ⟨h1, hb.trans (h2.mono hb.size)⟩

theorem w_isD (u : World) (hE : ErrIn u) : Calls Tryz.prog 34 #[.string ⟨#[49, 32, 35, 32, 120]⟩, .slice (some ⟨u.heap.size, 0, none⟩) 1 1] (u.alloc (.cells #[.int .i64 5, .int .i64 0, .int .i64 1, .string ⟨#[49]⟩] 54)) fun e w' => e = .returned (.bool true) ∧ Below u.heap.size u w' := by
  have hb := below1 u (.cells #[.int .i64 5, .int .i64 0, .int .i64 1, .string ⟨#[49]⟩] 54)
  refine (w_is ⟨#[49, 32, 35, 32, 120]⟩ yD (some ⟨u.heap.size, 0, none⟩) 1 _ (by decide) (hE.keep hb) sc_D (by decide) (trow_block (heap_alloc_new u _) rfl) (by decide) (by decide)).mono ?_
  rintro e w' ⟨h1, h2⟩
  exact ⟨h1, hb.trans (h2.mono hb.size)⟩

theorem w_isE (u : World) (hE : ErrIn u) : Calls Tryz.prog 34 #[.string ⟨#[105, 102]⟩, .slice (some ⟨u.heap.size, 0, none⟩) 1 1] (u.alloc (.cells #[.int .i64 2, .int .i64 0, .int .i64 2, .string ⟨#[105, 102]⟩] 54)) fun e w' => e = .returned (.bool true) ∧ Below u.heap.size u w' := by
  have hb := below1 u (.cells #[.int .i64 2, .int .i64 0, .int .i64 2, .string ⟨#[105, 102]⟩] 54)
  refine (w_is ⟨#[105, 102]⟩ yE (some ⟨u.heap.size, 0, none⟩) 1 _ (by decide) (hE.keep hb) sc_E (by decide) (trow_block (heap_alloc_new u _) rfl) (by decide) (by decide)).mono ?_
  rintro e w' ⟨h1, h2⟩
  exact ⟨h1, hb.trans (h2.mono hb.size)⟩

set_option maxRecDepth 100000 in
set_option maxHeartbeats 6400000 in
theorem w_lWordKnown (w : World) (hE : ErrIn w) : Calls Tryz.prog 9 #[] w fun e w' => e = .returned (.bool true) ∧ Below w.heap.size w w' := by
  have HER := Hid.mk hE
  have HA := Hid.mk w_isA
  have HB := Hid.mk w_isB
  have HC := Hid.mk w_isC
  have HD := Hid.mk w_isD
  have HE := Hid.mk w_isE
  have HF : Hid (∀ u, ErrIn u → Calls Tryz.prog 35 #[.string ⟨#[36, 49]⟩, .int .i64 160, .int .i64 0] u fun e w' => e = .returned (.bool true) ∧ Below u.heap.size u w') := fun u h => w_wfails ⟨#[36, 49]⟩ 160 0 _ _ u (by decide) h sc_F rfl (by decide) rfl
  have HG : Hid (∀ u, ErrIn u → Calls Tryz.prog 35 #[.string ⟨#[46, 32, 124, 32, 36, 105, 102]⟩, .int .i64 160, .int .i64 4] u fun e w' => e = .returned (.bool true) ∧ Below u.heap.size u w') := fun u h => w_wfails ⟨#[46, 32, 124, 32, 36, 105, 102]⟩ 160 4 _ _ u (by decide) h sc_G rfl (by decide) rfl
  have HH : Hid (∀ u, ErrIn u → Calls Tryz.prog 35 #[.string ⟨#[49, 46, 53]⟩, .int .i64 42, .int .i64 0] u fun e w' => e = .returned (.bool true) ∧ Below u.heap.size u w') := fun u h => w_wfails ⟨#[49, 46, 53]⟩ 42 0 _ _ u (by decide) h sc_H rfl (by decide) rfl
  have HI : Hid (∀ u, ErrIn u → Calls Tryz.prog 35 #[.string ⟨#[34, 92, 40, 49]⟩, .int .i64 21, .int .i64 4] u fun e w' => e = .returned (.bool true) ∧ Below u.heap.size u w') := fun u h => w_wfails ⟨#[34, 92, 40, 49]⟩ 21 4 _ _ u (by decide) h sc_I rfl (by decide) rfl
  have HJ : Hid (∀ u, ErrIn u → Calls Tryz.prog 35 #[.string ⟨#[34, 92, 113, 34]⟩, .int .i64 23, .int .i64 1] u fun e w' => e = .returned (.bool true) ∧ Below u.heap.size u w') := fun u h => w_wfails ⟨#[34, 92, 113, 34]⟩ 23 1 _ _ u (by decide) h sc_J rfl (by decide) rfl
  have HB0 : Hid (Below w.heap.size w w) := Below.refl _ _
  clear hE
  go_enter Tryz.func9, Tryz.ntmps9
  go_wp2_with fail
  refine (HA.out _ (HER.out.keep HB0.out)).mono ?_
  rintro e w1 ⟨rfl, hb⟩
  have HB1 := Hid.mk (HB0.out.trans (hb.mono HB0.out.size))
  clear hb
  go_wp2_with fail
  refine (HB.out _ (HER.out.keep HB1.out)).mono ?_
  rintro e w2 ⟨rfl, hb⟩
  have HB2 := Hid.mk (HB1.out.trans (hb.mono HB1.out.size))
  clear hb
  go_wp2_with fail
  refine (HC.out _ (HER.out.keep HB2.out)).mono ?_
  rintro e w3 ⟨rfl, hb⟩
  have HB3 := Hid.mk (HB2.out.trans (hb.mono HB2.out.size))
  clear hb
  go_wp2_with fail
  refine (HF.out _ (HER.out.keep HB3.out)).mono ?_
  rintro e w4 ⟨rfl, hb⟩
  have HB4 := Hid.mk (HB3.out.trans (hb.mono HB3.out.size))
  clear hb
  go_wp2_with fail
  refine (HG.out _ (HER.out.keep HB4.out)).mono ?_
  rintro e w5 ⟨rfl, hb⟩
  have HB5 := Hid.mk (HB4.out.trans (hb.mono HB4.out.size))
  clear hb
  go_wp2_with fail
  refine (HH.out _ (HER.out.keep HB5.out)).mono ?_
  rintro e w6 ⟨rfl, hb⟩
  have HB6 := Hid.mk (HB5.out.trans (hb.mono HB5.out.size))
  clear hb
  go_wp2_with fail
  refine (HI.out _ (HER.out.keep HB6.out)).mono ?_
  rintro e w7 ⟨rfl, hb⟩
  have HB7 := Hid.mk (HB6.out.trans (hb.mono HB6.out.size))
  clear hb
  go_wp2_with fail
  refine (HJ.out _ (HER.out.keep HB7.out)).mono ?_
  rintro e w8 ⟨rfl, hb⟩
  have HB8 := Hid.mk (HB7.out.trans (hb.mono HB7.out.size))
  clear hb
  go_wp2_with fail
  refine (HD.out _ (HER.out.keep HB8.out)).mono ?_
  rintro e w9 ⟨rfl, hb⟩
  have HB9 := Hid.mk (HB8.out.trans (hb.mono HB8.out.size))
  clear hb
  go_wp2_with fail
  refine (HE.out _ (HER.out.keep HB9.out)).mono ?_
  rintro e w10 ⟨rfl, hb⟩
  have HB10 := Hid.mk (HB9.out.trans (hb.mono HB9.out.size))
  clear hb
  go_wp2_with fail
  go_ret
  exact ⟨rfl, HB10.out⟩
end Go.Proofs.YtohclfgghobldaaGreatDoor
