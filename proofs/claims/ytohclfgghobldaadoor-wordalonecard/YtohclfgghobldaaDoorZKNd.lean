import Derived.Test.YtohclfgghobldaaDoorZKNc
namespace Go.Proofs.YtohclfgghobldaaDoor
open Go.RowKit Go.Shelf
set_option linter.unusedVariables false
set_option linter.unusedSimpArgs false

set_option maxRecDepth 100000 in
set_option maxHeartbeats 6400000 in
theorem w_isP (s : ByteArray) (T : List Tok) (bo : Option Addr) (bc : Nat) (w : World) (hpl : plainW s.data.toList = true) (ss : s.size ≤ 140737488355328) (hE : ErrIn w) (hsc : scW s.data.toList = T) (hok : ∀ t ∈ T, t.err = 0) (hr : TRow w bo T) (hbc : T.length ≤ bc) (hln : T.length ≤ 16777216) :
    Calls Tryd.prog 7 #[.string s, .slice bo T.length bc] w fun e w' => e = .returned (.bool true) ∧ Below w.heap.size w w' := by
  have HS : Hid (Calls Tryd.prog 9 #[.string s] w fun e w' => ∃ so sc, e = .returned (.tuple #[.slice so T.length sc, .int .i64 0, .int .i64 0]) ∧ Hid (TRow w' so T ∧ T.length ≤ sc) ∧ Below w.heap.size w w') := by
    refine (w_wScanP s w ss hpl hE).mono ?_
    unfold ScR
    rw [hsc]
    rintro e w' ⟨⟨_, so, sc, rfl, hro⟩ | ⟨pre, x, h1, h2, _⟩, hb⟩
    · exact ⟨so, sc, rfl, trow_own hro.out, hb⟩
    · exact absurd (hok x (by rw [h1]; simp)) h2
  have HSm : Hid (∀ (u : World) (so : Option Addr) (sc : Nat), TRow u so T → TRow u bo T → T.length ≤ sc → Calls Tryd.prog 10 #[.slice so T.length sc, .slice bo T.length bc] u fun e w' => e = .returned (.bool true) ∧ Below u.heap.size u w') := fun u so sc h1 h2 h3 => w_SameTokens T so bo sc bc u (by omega) h1 h2 h3 hbc
  have HR := Hid.mk hr
  clear hr hsc hok hE hpl
  generalize hN : T.length = N at *
  clear hN
  go_enter Tryd.func7, Tryd.ntmps7
  go_wp2_with fail
  refine HS.out.mono ?_
  rintro e w1 ⟨so, sc, rfl, HT, hb1⟩
  have HB1 := Hid.mk hb1
  clear hb1
  go_wp2_with fail
  refine (HSm.out _ _ _ HT.out.1 (HR.out.keep HB1.out) HT.out.2).mono ?_
  rintro e w2 ⟨rfl, hb2⟩
  have HB2 := Hid.mk (HB1.out.trans (hb2.mono HB1.out.size))
  clear hb2
  go_wp2_with fail
  go_ret
  exact ⟨rfl, HB2.out⟩

set_option maxRecDepth 100000 in
set_option maxHeartbeats 6400000 in
theorem w_WordAloneF (s : ByteArray) (w : World) (ss : s.size ≤ 140737488355328) (hE : ErrIn w) : Calls Tryd.prog 6 #[.string s] w fun e w' => e = .returned (.bool true) ∧ Below w.heap.size w w' := by
  have HE := Hid.mk hE
  have HP := Hid.mk (fun u => w_Plain s u (by omega))
  have HIS : Hid (plainW s.data.toList = true → ∀ u, ErrIn u → Calls Tryd.prog 7 #[.string s, .slice (some ⟨u.heap.size, 0, none⟩) 1 1] (u.alloc (.cells #[.int .i64 1, .int .i64 0, .int .i64 (s.size : Int), .string s] 23)) fun e w' => e = .returned (.bool true) ∧ Below u.heap.size u w') := fun hpl u hu => by
    have hb := below1 u (.cells #[.int .i64 1, .int .i64 0, .int .i64 (s.size : Int), .string s] 23)
    refine (w_isP s [⟨1, 0, s.data.toList.length, s.data.toList, 0⟩] (some ⟨u.heap.size, 0, none⟩) 1 _ hpl (by omega) (hu.keep hb) (sc_plain hpl) (by intro t ht; rw [List.mem_singleton.1 ht]) (trow_block (heap_alloc_new u _) ?_) (by simp) (by simp)).mono ?_
    · show _ = [Value.int .i64 1, .int .i64 0, .int .i64 ((s.data.toList.length : Nat) : Int), .string ⟨s.data.toList.toArray⟩]
      rw [size_lst]
      rfl
    · rintro e w' ⟨h1, h2⟩
      exact ⟨h1, hb.trans (h2.mono hb.size)⟩
  clear hE
  cases hpl : plainW s.data.toList with
  | false =>
    rw [hpl] at HP
    clear HIS hpl
    go_enter Tryd.func6, Tryd.ntmps6
    go_wp2_with fail
    refine (w_lWordKnown w HE.out).mono ?_
    rintro e w1 ⟨rfl, hb1⟩
    have HB1 := Hid.mk hb1
    clear hb1
    go_wp2_with fail
    refine (HP.out _).mono ?_
    rintro e wq ⟨rfl, hwq⟩
    obtain rfl := hwq.symm
    go_wp2_with fail
    go_ret
    exact ⟨rfl, HB1.out⟩
  | true =>
    have HIS2 := Hid.mk (HIS.out hpl)
    rw [hpl] at HP
    clear HIS hpl
    go_enter Tryd.func6, Tryd.ntmps6
    go_wp2_with fail
    refine (w_lWordKnown w HE.out).mono ?_
    rintro e w1 ⟨rfl, hb1⟩
    have HB1 := Hid.mk hb1
    clear hb1
    go_wp2_with fail
    refine (HP.out _).mono ?_
    rintro e wq ⟨rfl, hwq⟩
    obtain rfl := hwq.symm
    go_wp2_with fail
    refine (HIS2.out _ (HE.out.keep HB1.out)).mono ?_
    rintro e w2 ⟨rfl, hb2⟩
    have HB2 := Hid.mk (HB1.out.trans (hb2.mono HB1.out.size))
    clear hb2
    go_wp2_with fail
    go_ret
    exact ⟨rfl, HB2.out⟩

end Go.Proofs.YtohclfgghobldaaDoor
