import Derived.Test.YtdjleoglphgdgaaGreatDoorM39
import Derived.Test.YtdjleoglphgdgaaGreatDoorM40
import Derived.Test.YtdjleoglphgdgaaGreatDoorM25
import Derived.Test.YtdjleoglphgdgaaGreatDoorM20
import Derived.Test.YtdjleoglphgdgaaGreatDoorM1
namespace Go.Proofs.YtdjleoglphgdgaaGreatDoor
open Go.RowKit Go.Shelf Go.Sort
set_option linter.unusedVariables false
set_option linter.unusedSimpArgs false
attribute [local go_sem] Oper.semAt_some

def vt0 : VT := .mk 0 .empty .empty [] []
def nn0 : NT := .mk 0 0 .empty vt0 [] []
theorem inH_0 (w : World) (h : Nat) : InH w (h + 1) vt0 (.agg #[.int .i64 0, .string ⟨#[]⟩, .string ⟨#[]⟩, .slice none 0 0, .slice none 0 0]) :=
  ⟨none, 0, none, 0, rfl, by decide, by decide, Nat.zero_le _, Nat.zero_le _, Nat.le_refl _, Nat.le_refl _, fun k hk => (by cases hk), ⟨fun h => absurd h (by show ¬ 0 < 0; omega)⟩, fun h => absurd h (by show ¬ 0 < 0; omega)⟩
theorem VAt.up {w : World} {h : Nat} {A : VT} {g o : Nat} (hv : VAt w h A g o) : VAt w (h + 1) A g o := by
  obtain ⟨v0, v1, v2, v3, v4, c, hi⟩ := hv
  exact ⟨v0, v1, v2, v3, v4, c, hi.up⟩

set_option maxRecDepth 100000 in
set_option maxHeartbeats 3200000 in
theorem w_isZero (h : Nat) (V : VT) (g o : Nat) (w : World) (hV : VAt w h V g o) : Calls Tryz.prog 133 #[.pointer (some ⟨g, o, none⟩)] w fun e w' => e = .returned (.bool (sq V vt0)) ∧ Below w.heap.size w w' := by
  obtain ⟨W1, hW1⟩ : ∃ W1, w.alloc (.cells #[.int .i64 0, .string ⟨#[]⟩, .string ⟨#[]⟩, .slice none 0 0, .slice none 0 0] 25) = W1 := ⟨_, rfl⟩
  have HX := Hid.mk (B1.new hW1)
  have HC : Hid (Calls Tryz.prog 177 #[.pointer (some ⟨g, o, none⟩), .pointer (some ⟨w.heap.size, 0, none⟩)] W1 fun e w' => e = .returned (.bool (sq V vt0)) ∧ Below W1.heap.size W1 w') := w_alike (h + 1) V vt0 g o _ 0 W1 (hV.keep HX.out.below).up
    ⟨_, _, _, _, _, ⟨HX.out.ca (j := 0) rfl, HX.out.ca (j := 1) rfl, HX.out.ca (j := 2) rfl, HX.out.ca (j := 3) rfl, HX.out.ca (j := 4) rfl⟩, inH_0 W1 h⟩
  generalize sq V vt0 = r at *
  clear hV
  go_enter Tryz.func133, Tryz.ntmps133
  go_wp2_with fail
  refine HC.out.mono ?_
  rintro e w2 ⟨rfl, hb2⟩
  have HX2 := Hid.mk (HX.out.keep hb2)
  clear hb2
  go_wp2_with fail
  go_ret
  exact ⟨rfl, HX2.out.below⟩

theorem noneIff {A : NT} : noA A = noA nn0 ↔ A.op = 0 ∧ A.text = .empty ∧ A.value = vt0 ∧ A.names = [] ∧ A.kids = [] := by
  rw [noA_eq]
  constructor
  · rintro ⟨h1, h2, h3, h4, h5⟩
    refine ⟨h1, h2, h3, h4, ?_⟩
    have := noAs_len_eq h5
    exact List.eq_nil_of_length_eq_zero this
  · rintro ⟨h1, h2, h3, h4, h5⟩
    exact ⟨h1, h2, h3, h4, by rw [h5]; rfl⟩
theorem ne_bytes {x : ByteArray} (h : ¬ x = .empty) : x.toList.isEmpty = false ∧ (x.toList == []) = false ∧ ¬ x.toList = [] := by
  have h1 : ¬ x.toList = [] := fun e => h (by
    rw [Lib.toList_data] at e
    exact ByteArray.ext (Array.toList_inj.1 (by rw [e]; rfl)))
  refine ⟨?_, ?_, h1⟩
  · cases hx : x.toList with
    | nil => exact absurd hx h1
    | cons a l => rfl
  · rw [beq_eq_false_iff_ne]; exact h1

set_option maxRecDepth 100000 in
set_option maxHeartbeats 3200000 in
theorem w_isNone (h : Nat) (A : NT) (g o : Nat) (w : World) (hA : NAt w (h + 1) A g o) : Calls Tryz.prog 176 #[.pointer (some ⟨g, o, none⟩)] w fun e w' => e = .returned (.bool (sq (noA A) (noA nn0))) ∧ Below w.heap.size w w' := by
  obtain ⟨aio, aic, ayo, ayc, ano, anc, ako, akc, HA⟩ := hA.open_
  obtain ⟨R, HR⟩ : ∃ R, Hid (sq (noA A) (noA nn0) = R) := ⟨_, rfl⟩
  rw [HR.out]
  have HEq : Hid (noA A = noA nn0 ↔ A.op = 0 ∧ A.text = .empty ∧ A.value = vt0 ∧ A.names = [] ∧ A.kids = []) := noneIff
  have HV : Hid (Calls Tryz.prog 133 #[.pointer (some ⟨g, o + 3, none⟩)] w fun e w' => e = .returned (.bool (sq A.value vt0)) ∧ Below w.heap.size w w') := w_isZero (h + 1) _ _ _ w HA.val
  have c0 := HA.c0
  have c2 := HA.c2
  have HP := Hid.mk (And.intro HA.c8 HA.c9)
  clear HA hA
  obtain ⟨aop, aat, atx, aV, aN, aI⟩ := A
  simp only [NT.op, NT.text, NT.value, NT.names, NT.kids] at *
  by_cases hk : aop = 0
  rotate_left
  · have HT : Hid (R = false) := HR.out.symm.trans (sq_no (fun e => hk (HEq.out.1 e).1))
    have g1 : (aop == 0) = false := by rw [beq_eq_false_iff_ne]; exact hk
    go_enter Tryz.func176, Tryz.ntmps176
    go_wp2_with fail
    go_ret
    exact ⟨by rw [HT.out]; rfl, Below.refl _ _⟩
  subst hk
  by_cases hx : atx = .empty
  rotate_left
  · have HT : Hid (R = false) := HR.out.symm.trans (sq_no (fun e => hx (HEq.out.1 e).2.1))
    obtain ⟨g2, g3, g4⟩ := ne_bytes hx
    clear hx
    go_enter Tryz.func176, Tryz.ntmps176
    go_wp2_with fail
    go_ret
    exact ⟨by rw [HT.out]; rfl, Below.refl _ _⟩
  subst hx
  by_cases hv : aV = vt0
  rotate_left
  · have HT : Hid (R = false) := HR.out.symm.trans (sq_no (fun e => hv (HEq.out.1 e).2.2.1))
    rw [sq_no hv] at HV
    go_enter Tryz.func176, Tryz.ntmps176
    go_wp2_with fail
    refine HV.out.mono ?_
    rintro e w2 ⟨rfl, hb2⟩
    have c8 := (hb2.cell (p := ⟨g, o + 8, none⟩) (block_lt_of_cell HP.out.1)).trans HP.out.1
    have c9 := (hb2.cell (p := ⟨g, o + 9, none⟩) (block_lt_of_cell HP.out.2)).trans HP.out.2
    have HB2 := Hid.mk hb2
    clear hb2
    go_wp2_with fail
    go_ret
    exact ⟨by rw [HT.out]; rfl, HB2.out⟩
  rw [sq_iff.2 hv] at HV
  have HVV := Hid.mk hv
  clear hv
  by_cases hl : aN.length = 0
  rotate_left
  · have HT : Hid (R = false) := HR.out.symm.trans (sq_no (fun e => hl (by rw [(HEq.out.1 e).2.2.2.1]; rfl)))
    have g5 : ((aN.length : Int) == 0) = false := by rw [beq_eq_false_iff_ne]; omega
    go_enter Tryz.func176, Tryz.ntmps176
    go_wp2_with fail
    refine HV.out.mono ?_
    rintro e w2 ⟨rfl, hb2⟩
    have c8 := (hb2.cell (p := ⟨g, o + 8, none⟩) (block_lt_of_cell HP.out.1)).trans HP.out.1
    have c9 := (hb2.cell (p := ⟨g, o + 9, none⟩) (block_lt_of_cell HP.out.2)).trans HP.out.2
    have HB2 := Hid.mk hb2
    clear hb2
    go_wp2_with fail
    go_ret
    exact ⟨by rw [HT.out]; rfl, HB2.out⟩
  have HN : Hid (aN = []) := List.eq_nil_of_length_eq_zero hl
  rw [hl] at HP
  clear hl
  by_cases hl : aI.length = 0
  rotate_left
  · have HT : Hid (R = false) := HR.out.symm.trans (sq_no (fun e => hl (by rw [(HEq.out.1 e).2.2.2.2]; rfl)))
    have g5 : ((aI.length : Int) == 0) = false := by rw [beq_eq_false_iff_ne]; omega
    go_enter Tryz.func176, Tryz.ntmps176
    go_wp2_with fail
    refine HV.out.mono ?_
    rintro e w2 ⟨rfl, hb2⟩
    have c8 := (hb2.cell (p := ⟨g, o + 8, none⟩) (block_lt_of_cell HP.out.1)).trans HP.out.1
    have c9 := (hb2.cell (p := ⟨g, o + 9, none⟩) (block_lt_of_cell HP.out.2)).trans HP.out.2
    have HB2 := Hid.mk hb2
    clear hb2
    go_wp2_with fail
    go_ret
    exact ⟨by rw [HT.out]; rfl, HB2.out⟩
  have HI : Hid (aI = []) := List.eq_nil_of_length_eq_zero hl
  rw [hl] at HP
  clear hl
  have HT : Hid (R = true) := HR.out.symm.trans (sq_iff.2 (HEq.out.2 ⟨by first | rfl | trivial, by first | rfl | trivial, HVV.out, HN.out, HI.out⟩))
  go_enter Tryz.func176, Tryz.ntmps176
  go_wp2_with fail
  refine HV.out.mono ?_
  rintro e w2 ⟨rfl, hb2⟩
  have c8 := (hb2.cell (p := ⟨g, o + 8, none⟩) (block_lt_of_cell HP.out.1)).trans HP.out.1
  have c9 := (hb2.cell (p := ⟨g, o + 9, none⟩) (block_lt_of_cell HP.out.2)).trans HP.out.2
  have HB2 := Hid.mk hb2
  clear hb2
  go_wp2_with fail
  go_ret
  exact ⟨by rw [HT.out]; rfl, HB2.out⟩

/-- has a part of an operation a name? -/
def nmO (op : Int) : Bool := op == 6 || op == 35 || op == 29 || op == 30 || op == 31 || op == 32 || op == 33 || op == 34
def ttB (op : Int) (tx : ByteArray) : Bool := if nmO op then plainW tx.data.toList else tx.data.toList.isEmpty
theorem empty_l {x : ByteArray} : x.data.toList.isEmpty = true ↔ x = .empty := by
  constructor
  · intro h
    exact ByteArray.ext (Array.toList_inj.1 (by rw [List.isEmpty_iff.1 h]; rfl))
  · rintro rfl; rfl

set_option maxRecDepth 100000 in
set_option maxHeartbeats 3200000 in
theorem w_textFits (h : Nat) (A : NT) (g o : Nat) (w : World) (hA : NAt w (h + 1) A g o) : Calls Tryz.prog 73 #[.pointer (some ⟨g, o, none⟩)] w fun e w' => e = .returned (.bool (ttB A.op A.text)) ∧ Below w.heap.size w w' := by
  obtain ⟨aio, aic, ayo, ayc, ano, anc, ako, akc, HA⟩ := hA.open_
  have HPl : Hid (Calls Tryz.prog 132 #[.string A.text] w fun e w' => e = .returned (.bool (plainW A.text.data.toList)) ∧ w' = w) := w_Plain A.text w (Nat.le_trans HA.tx (by decide))
  have c0 := HA.c0
  have c2 := HA.c2
  clear HA hA
  obtain ⟨aop, aat, atx, aV, aN, aI⟩ := A
  simp only [NT.op, NT.text] at *
  obtain ⟨R, HR⟩ : ∃ R, Hid (ttB aop atx = R) := ⟨_, rfl⟩
  rw [HR.out]
  by_cases h6 : aop = 6
  · subst h6
    have HT : Hid (R = plainW atx.data.toList) := HR.out.symm.trans (by unfold ttB; rw [if_pos (by decide)])
    generalize plainW atx.data.toList = r at *
    go_enter Tryz.func73, Tryz.ntmps73
    go_wp2_with fail
    refine HPl.out.mono ?_
    rintro e w2 ⟨rfl, hw2⟩
    obtain rfl := hw2.symm
    go_wp2_with fail
    go_ret
    exact ⟨by rw [HT.out]; rfl, Below.refl _ _⟩
  have b6 : (aop == 6) = false := by rw [beq_eq_false_iff_ne]; exact h6
  by_cases h35 : aop = 35
  · subst h35
    have HT : Hid (R = plainW atx.data.toList) := HR.out.symm.trans (by unfold ttB; rw [if_pos (by decide)])
    generalize plainW atx.data.toList = r at *
    go_enter Tryz.func73, Tryz.ntmps73
    go_wp2_with fail
    refine HPl.out.mono ?_
    rintro e w2 ⟨rfl, hw2⟩
    obtain rfl := hw2.symm
    go_wp2_with fail
    go_ret
    exact ⟨by rw [HT.out]; rfl, Below.refl _ _⟩
  have b35 : (aop == 35) = false := by rw [beq_eq_false_iff_ne]; exact h35
  by_cases h29 : aop = 29
  · subst h29
    have HT : Hid (R = plainW atx.data.toList) := HR.out.symm.trans (by unfold ttB; rw [if_pos (by decide)])
    generalize plainW atx.data.toList = r at *
    go_enter Tryz.func73, Tryz.ntmps73
    go_wp2_with fail
    refine HPl.out.mono ?_
    rintro e w2 ⟨rfl, hw2⟩
    obtain rfl := hw2.symm
    go_wp2_with fail
    go_ret
    exact ⟨by rw [HT.out]; rfl, Below.refl _ _⟩
  have b29 : (aop == 29) = false := by rw [beq_eq_false_iff_ne]; exact h29
  by_cases h30 : aop = 30
  · subst h30
    have HT : Hid (R = plainW atx.data.toList) := HR.out.symm.trans (by unfold ttB; rw [if_pos (by decide)])
    generalize plainW atx.data.toList = r at *
    go_enter Tryz.func73, Tryz.ntmps73
    go_wp2_with fail
    refine HPl.out.mono ?_
    rintro e w2 ⟨rfl, hw2⟩
    obtain rfl := hw2.symm
    go_wp2_with fail
    go_ret
    exact ⟨by rw [HT.out]; rfl, Below.refl _ _⟩
  have b30 : (aop == 30) = false := by rw [beq_eq_false_iff_ne]; exact h30
  by_cases h31 : aop = 31
  · subst h31
    have HT : Hid (R = plainW atx.data.toList) := HR.out.symm.trans (by unfold ttB; rw [if_pos (by decide)])
    generalize plainW atx.data.toList = r at *
    go_enter Tryz.func73, Tryz.ntmps73
    go_wp2_with fail
    refine HPl.out.mono ?_
    rintro e w2 ⟨rfl, hw2⟩
    obtain rfl := hw2.symm
    go_wp2_with fail
    go_ret
    exact ⟨by rw [HT.out]; rfl, Below.refl _ _⟩
  have b31 : (aop == 31) = false := by rw [beq_eq_false_iff_ne]; exact h31
  by_cases h32 : aop = 32
  · subst h32
    have HT : Hid (R = plainW atx.data.toList) := HR.out.symm.trans (by unfold ttB; rw [if_pos (by decide)])
    generalize plainW atx.data.toList = r at *
    go_enter Tryz.func73, Tryz.ntmps73
    go_wp2_with fail
    refine HPl.out.mono ?_
    rintro e w2 ⟨rfl, hw2⟩
    obtain rfl := hw2.symm
    go_wp2_with fail
    go_ret
    exact ⟨by rw [HT.out]; rfl, Below.refl _ _⟩
  have b32 : (aop == 32) = false := by rw [beq_eq_false_iff_ne]; exact h32
  by_cases h33 : aop = 33
  · subst h33
    have HT : Hid (R = plainW atx.data.toList) := HR.out.symm.trans (by unfold ttB; rw [if_pos (by decide)])
    generalize plainW atx.data.toList = r at *
    go_enter Tryz.func73, Tryz.ntmps73
    go_wp2_with fail
    refine HPl.out.mono ?_
    rintro e w2 ⟨rfl, hw2⟩
    obtain rfl := hw2.symm
    go_wp2_with fail
    go_ret
    exact ⟨by rw [HT.out]; rfl, Below.refl _ _⟩
  have b33 : (aop == 33) = false := by rw [beq_eq_false_iff_ne]; exact h33
  by_cases h34 : aop = 34
  · subst h34
    have HT : Hid (R = plainW atx.data.toList) := HR.out.symm.trans (by unfold ttB; rw [if_pos (by decide)])
    generalize plainW atx.data.toList = r at *
    go_enter Tryz.func73, Tryz.ntmps73
    go_wp2_with fail
    refine HPl.out.mono ?_
    rintro e w2 ⟨rfl, hw2⟩
    obtain rfl := hw2.symm
    go_wp2_with fail
    go_ret
    exact ⟨by rw [HT.out]; rfl, Below.refl _ _⟩
  have b34 : (aop == 34) = false := by rw [beq_eq_false_iff_ne]; exact h34
  have HD : Hid (R = atx.data.toList.isEmpty) := HR.out.symm.trans (by unfold ttB nmO; rw [b6, b35, b29, b30, b31, b32, b33, b34]; rfl)
  clear h6 h35 h29 h30 h31 h32 h33 h34
  by_cases hx : atx = .empty
  · subst hx
    have HT : Hid (R = true) := HD.out
    clear HD
    go_enter Tryz.func73, Tryz.ntmps73
    go_wp2_with fail
    go_ret
    exact ⟨by rw [HT.out]; rfl, Below.refl _ _⟩
  · have HT : Hid (R = false) := HD.out.trans (by cases hb : atx.data.toList.isEmpty with
      | true => exact absurd (empty_l.1 hb) hx
      | false => rfl)
    obtain ⟨g2, g3, g4⟩ := ne_bytes hx
    clear hx HD
    go_enter Tryz.func73, Tryz.ntmps73
    go_wp2_with fail
    go_ret
    exact ⟨by rw [HT.out]; rfl, Below.refl _ _⟩
end Go.Proofs.YtdjleoglphgdgaaGreatDoor
namespace Go.Proofs.YtdjleoglphgdgaaGreatDoor
open Go.RowKit Go.Shelf Go.Sort
set_option linter.unusedVariables false
set_option linter.unusedSimpArgs false
attribute [local go_sem] Oper.semAt_some

/-- may a name stand among a definition's parameters? -/
def pnB (k : ByteArray) : Bool := plainW (Lib.trimPrefix k.data.toList [36])
def nsB (op : Int) (ks : List ByteArray) : Bool := if op = 32 then ks.all pnB else ks.isEmpty
theorem trim_le (l p : List UInt8) : (Lib.trimPrefix l p).length ≤ l.length := by
  unfold Lib.trimPrefix
  split
  · simp
  · exact Nat.le_refl _

set_option maxRecDepth 100000 in
set_option maxHeartbeats 3200000 in
theorem w_namesFit (h : Nat) (A : NT) (g o : Nat) (w : World) (hA : NAt w (h + 1) A g o) : Calls Tryz.prog 75 #[.pointer (some ⟨g, o, none⟩)] w fun e w' => e = .returned (.bool (nsB A.op A.names)) ∧ Below w.heap.size w w' := by
  obtain ⟨aio, aic, ayo, ayc, ano, anc, ako, akc, HA⟩ := hA.open_
  have c0 := HA.c0
  have c8 := HA.c8
  have HK := Hid.mk HA.names
  have hcap := HA.nl.1
  have hbig := HA.nl.2.1
  have HS := Hid.mk HA.nl.2.2
  clear HA hA
  obtain ⟨aop, aat, atx, aV, aN, aI⟩ := A
  simp only [NT.op, NT.names] at *
  obtain ⟨R, HR⟩ : ∃ R, Hid (nsB aop aN = R) := ⟨_, rfl⟩
  rw [HR.out]
  obtain ⟨N, hN⟩ : ∃ N, N = aN.length := ⟨_, rfl⟩
  rw [← hN] at c8 hcap hbig
  by_cases hk : aop = 32
  · subst hk
    have HR2 : Hid (R = aN.all pnB) := HR.out.symm.trans (by unfold nsB; rw [if_pos rfl])
    have HN := Hid.mk hN
    clear hN HR
    go_enter Tryz.func75, Tryz.ntmps75
    go_wp2_with fail
    clear c0 c8
    go_loopw [21] (fun i wr => ∃ k : Nat, k ≤ N ∧ i = .int .i64 (k : Int) ∧ wr = w ∧ Hid ((aN.take k).all pnB = true)) (fun i _ => N - (intOf i).toNat)
    case atStart => exact ⟨0, Nat.zero_le _, rfl, rfl, rfl⟩
    case round =>
      obtain ⟨k, hk, rfl, rfl, HQ⟩ := hrel
      by_cases hlt : k < N
      · have hl1 : (k : Int) < (N : Int) := by omega
        have hl0 : (0 : Int) ≤ (k : Int) := by omega
        have hkx : k < aN.length := by rw [← HN.out]; exact hlt
        obtain ⟨b, off, e1, _, hr⟩ := HK.out.row (by omega)
        subst e1
        have c := hr k hkx
        rw [getD_keyQ hkx] at c
        have hsz := HS.out _ (List.getElem_mem hkx)
        have HQ2 : Hid (pnB aN[k] = true → (aN.take (k + 1)).all pnB = true) := fun hp => by
          rw [List.take_succ_eq_append_getElem hkx, List.all_append, HQ.out]
          simp [hp]
        have HNo : Hid (pnB aN[k] = false → aN.all pnB = false) := fun hp => by
          rw [List.all_eq_false]
          exact ⟨aN[k], List.getElem_mem hkx, by rw [hp]; decide⟩
        generalize aN[k] = x at *
        clear hr hkx
        have HT1 := Hid.mk (Tryz.strings_TrimPrefix x ⟨#[36]⟩ wr)
        have HP1 : Hid (Calls Tryz.prog 132 #[.string ⟨(Lib.trimPrefix x.data.toList [36]).toArray⟩] wr fun e w' => e = .returned (.bool (pnB x)) ∧ w' = wr) := w_Plain ⟨(Lib.trimPrefix x.data.toList [36]).toArray⟩ wr (by
          have h1 := trim_le x.data.toList [36]
          have h2 : x.data.toList.length = x.size := by rw [Array.length_toList]; rfl
          show (Lib.trimPrefix x.data.toList [36]).toArray.size ≤ _
          simp
          omega)
        have HT1' : Hid (Calls Tryz.prog 136 #[.string x, .string ⟨#[36]⟩] wr fun e w' => e = .returned (.string ⟨(Lib.trimPrefix x.data.toList [36]).toArray⟩) ∧ w' = wr) := HT1.out
        generalize (⟨(Lib.trimPrefix x.data.toList [36]).toArray⟩ : ByteArray) = y at *
        clear HT1 hsz
        go_wp2_with fail
        refine HT1'.out.mono ?_
        rintro e w2 ⟨rfl, hw2⟩
        obtain rfl := hw2.symm
        go_wp2_with fail
        refine HP1.out.mono ?_
        rintro e w2 ⟨rfl, hw2⟩
        obtain rfl := hw2.symm
        cases hp : pnB x with
        | true =>
          have HQ3 := Hid.mk (HQ2.out hp)
          go_wp2_with fail
          go_roundw
          case rel => exact ⟨k + 1, by omega, by go_num, by first | rfl | trivial, HQ3⟩
          case measure => simp [intOf]; omega
        | false =>
          have HT : Hid (R = false) := HR2.out.trans (HNo.out hp)
          go_wp2_with fail
          go_ret
          exact ⟨by rw [HT.out]; rfl, Below.refl _ _⟩
      · have hl1 : ¬ (k : Int) < (N : Int) := by omega
        have HT : Hid (R = true) := by
          have e := HQ.out
          rw [List.take_of_length_le (by rw [← HN.out]; omega)] at e
          exact HR2.out.trans e
        go_wp2_with fail
        go_ret
        exact ⟨by rw [HT.out]; rfl, Below.refl _ _⟩
  · have g1 : (aop != 32) = true := by simpa using hk
    have HR2 : Hid (R = aN.isEmpty) := HR.out.symm.trans (by unfold nsB; rw [if_neg hk])
    by_cases hz : N = 0
    · have HT : Hid (R = true) := HR2.out.trans (by rw [List.isEmpty_iff]; exact List.eq_nil_of_length_eq_zero (by omega))
      subst hz
      clear hN
      go_enter Tryz.func75, Tryz.ntmps75
      go_wp2_with fail
      go_ret
      exact ⟨by rw [HT.out]; rfl, Below.refl _ _⟩
    · have HT : Hid (R = false) := HR2.out.trans (by cases haN : aN with
        | nil => rw [haN] at hN; exact absurd hN hz
        | cons => rfl)
      have g2 : ((N : Int) == 0) = false := by rw [beq_eq_false_iff_ne]; omega
      clear hN
      go_enter Tryz.func75, Tryz.ntmps75
      go_wp2_with fail
      go_ret
      exact ⟨by rw [HT.out]; rfl, Below.refl _ _⟩

/-- may a value stand in a part of an operation? -/
noncomputable def vfB (h : Nat) (op : Int) (V : VT) : Bool := if op = 2 then (if V.kind = 0 ∨ V.kind = 1 ∨ V.kind = 2 ∨ V.kind = 4 then formN h V else if V.kind = 3 then (formN h V && decide (0 ≤ Pl.cmpN V.num.data.toList [48])) else false) else sq V vt0

set_option maxRecDepth 100000 in
set_option maxHeartbeats 3200000 in
theorem w_valueFits (h : Nat) (A : NT) (g o : Nat) (w : World) (hA : NAt w (h + 1) A g o) : Calls Tryz.prog 74 #[.pointer (some ⟨g, o, none⟩)] w fun e w' => e = .returned (.bool (vfB (h + 1) A.op A.value)) ∧ Below w.heap.size w w' := by
  obtain ⟨aio, aic, ayo, ayc, ano, anc, ako, akc, HA⟩ := hA.open_
  have HV : Hid (Calls Tryz.prog 133 #[.pointer (some ⟨g, o + 3, none⟩)] w fun e w' => e = .returned (.bool (sq A.value vt0)) ∧ Below w.heap.size w w') := w_isZero (h + 1) _ _ _ w HA.val
  have c0 := HA.c0
  have c3 := HA.c3
  have c4 := HA.c4
  have c5 := HA.c5
  have c6 := HA.c6
  have c7 := HA.c7
  have HVa := Hid.mk HA.val
  clear HA hA
  obtain ⟨aop, aat, atx, ⟨vk, vn, vx, vI, vK⟩, aN, aI⟩ := A
  simp only [NT.op, NT.value, VT.kind, VT.num, VT.text, VT.items, VT.keys] at *
  obtain ⟨R, HR⟩ : ∃ R, Hid (vfB (h + 1) aop (VT.mk vk vn vx vI vK) = R) := ⟨_, rfl⟩
  rw [HR.out]
  by_cases hk : aop = 2
  rotate_left
  · have g1 : (aop != 2) = true := by simpa using hk
    have HR2 : Hid (R = sq (VT.mk vk vn vx vI vK) vt0) := HR.out.symm.trans (by unfold vfB; rw [if_neg hk])
    generalize sq (VT.mk vk vn vx vI vK) vt0 = r at *
    go_enter Tryz.func74, Tryz.ntmps74
    go_wp2_with fail
    refine HV.out.mono ?_
    rintro e w2 ⟨rfl, hb2⟩
    have HB2 := Hid.mk hb2
    clear hb2
    go_wp2_with fail
    go_ret
    exact ⟨by rw [HR2.out]; rfl, HB2.out⟩
  subst hk
  have HR2 : Hid (R = (if vk = 0 ∨ vk = 1 ∨ vk = 2 ∨ vk = 4 then formN (h + 1) (VT.mk vk vn vx vI vK) else if vk = 3 then (formN (h + 1) (VT.mk vk vn vx vI vK) && decide (0 ≤ Pl.cmpN vn.data.toList [48])) else false)) := HR.out.symm.trans (by unfold vfB; rw [if_pos rfl]; rfl)
  obtain ⟨v0, v1, v2, v3, v4, ⟨p0, p1, p2, p3, p4⟩, hI⟩ := HVa.out
  obtain rfl := Option.some.inj (p0.symm.trans c3)
  obtain rfl := Option.some.inj (p1.symm.trans c4)
  obtain rfl := Option.some.inj (p2.symm.trans c5)
  obtain rfl := Option.some.inj (p3.symm.trans c6)
  obtain rfl := Option.some.inj (p4.symm.trans c7)
  clear p0 p1 p2 p3 p4
  obtain ⟨W1, hW1⟩ : ∃ W1, w.alloc (.cells #[.int .i64 vk, .string vn, .string vx, .slice aio vI.length aic, .slice ayo vK.length ayc] 25) = W1 := ⟨_, rfl⟩
  have HX := Hid.mk (B1.new hW1)
  have HF : Hid (∀ u, Below w.heap.size w u → Calls Tryz.prog 134 #[.agg #[.int .i64 vk, .string vn, .string vx, .slice aio vI.length aic, .slice ayo vK.length ayc]] u fun e w' => e = .returned (.bool (formN (h + 1) (VT.mk vk vn vx vI vK))) ∧ Below u.heap.size u w') := fun u hu => w_vFormed (h + 1) _ _ u (hI.keep hu)
  have hvn : vn.size ≤ 140737488355328 := by
    obtain ⟨_, _, _, _, _, q1, _⟩ := hI
    exact q1
  have HCm : Hid (∀ u, Calls Tryz.prog 135 #[.string vn, .string ⟨#[48]⟩] u fun e w' => e = .returned (.tuple #[.int .i64 (Pl.cmpN vn.data.toList [48]), .int .i64 (Pl.errN vn.data.toList [48])]) ∧ Below u.heap.size u w') := fun u => w_Cmp vn ⟨#[48]⟩ u (by unfold maxLen; omega) (by unfold maxLen; decide)
  have x0 := HX.out.ca (j := 0) rfl
  have x1 := HX.out.ca (j := 1) rfl
  have x2 := HX.out.ca (j := 2) rfl
  have x3 := HX.out.ca (j := 3) rfl
  have x4 := HX.out.ca (j := 4) rfl
  generalize formN (h + 1) (VT.mk vk vn vx vI vK) = ff at *
  generalize Pl.cmpN vn.data.toList [48] = cc at *
  generalize Pl.errN vn.data.toList [48] = ce at *
  generalize vI.length = li at *
  generalize vK.length = lk at *
  clear hI hvn HV HR HVa
  by_cases k0 : vk = 0
  · subst k0
    have HT : Hid (R = ff) := HR2.out.trans (by rw [if_pos (by decide)])
    go_enter Tryz.func74, Tryz.ntmps74
    go_wp2_with fail
    refine (HF.out _ HX.out.below).mono ?_
    rintro e w2 ⟨rfl, hb2⟩
    have HX2 := Hid.mk (HX.out.keep hb2)
    clear hb2
    go_wp2_with fail
    go_ret
    exact ⟨by rw [HT.out]; rfl, HX2.out.below⟩
  have b0 : (vk == 0) = false := by rw [beq_eq_false_iff_ne]; exact k0
  by_cases k1 : vk = 1
  · subst k1
    have HT : Hid (R = ff) := HR2.out.trans (by rw [if_pos (by decide)])
    go_enter Tryz.func74, Tryz.ntmps74
    go_wp2_with fail
    refine (HF.out _ HX.out.below).mono ?_
    rintro e w2 ⟨rfl, hb2⟩
    have HX2 := Hid.mk (HX.out.keep hb2)
    clear hb2
    go_wp2_with fail
    go_ret
    exact ⟨by rw [HT.out]; rfl, HX2.out.below⟩
  have b1 : (vk == 1) = false := by rw [beq_eq_false_iff_ne]; exact k1
  by_cases k2 : vk = 2
  · subst k2
    have HT : Hid (R = ff) := HR2.out.trans (by rw [if_pos (by decide)])
    go_enter Tryz.func74, Tryz.ntmps74
    go_wp2_with fail
    refine (HF.out _ HX.out.below).mono ?_
    rintro e w2 ⟨rfl, hb2⟩
    have HX2 := Hid.mk (HX.out.keep hb2)
    clear hb2
    go_wp2_with fail
    go_ret
    exact ⟨by rw [HT.out]; rfl, HX2.out.below⟩
  have b2 : (vk == 2) = false := by rw [beq_eq_false_iff_ne]; exact k2
  by_cases k4 : vk = 4
  · subst k4
    have HT : Hid (R = ff) := HR2.out.trans (by rw [if_pos (by decide)])
    go_enter Tryz.func74, Tryz.ntmps74
    go_wp2_with fail
    refine (HF.out _ HX.out.below).mono ?_
    rintro e w2 ⟨rfl, hb2⟩
    have HX2 := Hid.mk (HX.out.keep hb2)
    clear hb2
    go_wp2_with fail
    go_ret
    exact ⟨by rw [HT.out]; rfl, HX2.out.below⟩
  have b4 : (vk == 4) = false := by rw [beq_eq_false_iff_ne]; exact k4
  by_cases k3 : vk = 3
  · subst k3
    have HT : Hid (R = (ff && decide (0 ≤ cc))) := HR2.out.trans (by rw [if_neg (by decide), if_pos rfl])
    clear HR2
    go_enter Tryz.func74, Tryz.ntmps74
    go_wp2_with fail
    refine (HCm.out _).mono ?_
    rintro e w2 ⟨rfl, hb2⟩
    have HX2 := Hid.mk (HX.out.keep hb2)
    have y0 := HX2.out.ca (j := 0) rfl
    have y1 := HX2.out.ca (j := 1) rfl
    have y2 := HX2.out.ca (j := 2) rfl
    have y3 := HX2.out.ca (j := 3) rfl
    have y4 := HX2.out.ca (j := 4) rfl
    clear hb2
    go_wp2_with fail
    refine (HF.out _ HX2.out.below).mono ?_
    rintro e w3 ⟨rfl, hb3⟩
    have HX3 := Hid.mk (HX2.out.keep hb3)
    clear hb3
    cases ff with
    | true =>
      by_cases hc : (0 : Int) ≤ cc
      · have hd : decide ((0 : Int) ≤ cc) = true := by rw [decide_eq_true_iff]; exact hc
        go_wp2_with fail
        go_ret
        exact ⟨by rw [HT.out, hd]; rfl, HX3.out.below⟩
      · have hd : decide ((0 : Int) ≤ cc) = false := by rw [decide_eq_false_iff_not]; exact hc
        go_wp2_with fail
        go_ret
        exact ⟨by rw [HT.out, hd]; rfl, HX3.out.below⟩
    | false =>
      go_wp2_with fail
      go_ret
      exact ⟨by rw [HT.out]; rfl, HX3.out.below⟩
  have b3 : (vk == 3) = false := by rw [beq_eq_false_iff_ne]; exact k3
  have HT : Hid (R = false) := HR2.out.trans (by rw [if_neg (by simp [k0, k1, k2, k4]), if_neg k3])
  clear k0 k1 k2 k3 k4
  go_enter Tryz.func74, Tryz.ntmps74
  go_wp2_with fail
  go_ret
  exact ⟨by rw [HT.out]; rfl, HX.out.below⟩
end Go.Proofs.YtdjleoglphgdgaaGreatDoor
namespace Go.Proofs.YtdjleoglphgdgaaGreatDoor
open Go.RowKit Go.Shelf Go.Sort
set_option linter.unusedVariables false
set_option linter.unusedSimpArgs false
attribute [local go_sem] Oper.semAt_some

/-- may a kid stand where it stands? fm: which are well shaped -/
noncomputable def kfB (fm : NT → Bool) (op : Int) (ks : List NT) (i : Nat) (k : NT) : Bool :=
  if op = 8 ∧ 0 < i ∧ sq (noA k) (noA nn0) = true then !(sq (noA (ks.getD (3 - i) nn0)) (noA nn0))
  else if op = 3 ∧ i % 2 = 0 then decide (k.op = 2) && decide (k.value.kind = 4) && fm k
  else fm k
/-- the program's answer: is a filter well shaped? -/
noncomputable def fpN : Nat → NT → Bool
  | 0, _ => false
  | h + 1, A => mfB A.op (A.kids.length : Int) && ((List.range A.kids.length).all fun i => kfB (fpN h) A.op A.kids i (A.kids.getD i nn0)) && ttB A.op A.text && vfB (h + 1) A.op A.value && nsB A.op A.names
def FpNOk (h : Nat) : Prop := ∀ (A : NT) (g o : Nat) (w : World), NAt w h A g o → Calls Tryz.prog 40 #[.pointer (some ⟨g, o, none⟩)] w fun e w' => e = .returned (.bool (fpN h A)) ∧ Below w.heap.size w w'
theorem getD_kid {l : List NT} {i : Nat} (h : i < l.length) : l.getD i nn0 = l[i] := by rw [List.getD_eq_getElem?_getD, List.getElem?_eq_getElem h]; rfl
theorem NAt.pos {w : World} {h : Nat} {A : NT} {g o : Nat} (hv : NAt w h A g o) : ∃ n, h = n + 1 := by
  cases h with
  | zero => obtain ⟨_, _, hA⟩ := hv; exact hA.elim
  | succ n => exact ⟨n, rfl⟩

set_option maxRecDepth 100000 in
set_option maxHeartbeats 6400000 in
theorem w_kidFits (h : Nat) (ih : FpNOk h) (A : NT) (g o i : Nat) (w : World) (hA : NAt w (h + 1) A g o) (hi : i < A.kids.length) (h8 : A.op = 8 → A.kids.length = 3) : Calls Tryz.prog 131 #[.pointer (some ⟨g, o, none⟩), .int .i64 (i : Int)] w fun e w' => e = .returned (.bool (kfB (fpN h) A.op A.kids i (A.kids.getD i nn0))) ∧ Below w.heap.size w w' := by
  obtain ⟨aio, aic, ayo, ayc, ano, anc, ako, akc, HA⟩ := hA.open_
  obtain ⟨b, off, e1, hr⟩ := HA.kids (by omega)
  have hk := hr i hi
  obtain ⟨h', hh⟩ := hk.pos
  rw [getD_kid hi]
  have c0 := HA.c0
  have c9 := HA.c9
  have HC9 := Hid.mk HA.c9
  have hcap := HA.kl.1
  have hbig := HA.kl.2
  have HN : Hid (∀ u, Below w.heap.size w u → Calls Tryz.prog 176 #[.pointer (some ⟨b, off + i * 10, none⟩)] u fun e w' => e = .returned (.bool (sq (noA A.kids[i]) (noA nn0))) ∧ Below u.heap.size u w') := fun u hu => by
    have := hk.keep hu
    rw [hh] at this
    exact w_isNone h' _ _ _ u this
  have HO : Hid (A.op = 8 → 0 < i → ∀ u, Below w.heap.size w u → Calls Tryz.prog 176 #[.pointer (some ⟨b, off + (3 - i) * 10, none⟩)] u fun e w' => e = .returned (.bool (sq (noA (A.kids.getD (3 - i) nn0)) (noA nn0))) ∧ Below u.heap.size u w') := fun ho h0 u hu => by
    have hl := h8 ho
    have := (hr (3 - i) (by omega)).keep hu
    rw [hh] at this
    rw [getD_kid (show 3 - i < A.kids.length by omega)]
    exact w_isNone h' _ _ _ u this
  have HF : Hid (∀ u, Below w.heap.size w u → Calls Tryz.prog 40 #[.pointer (some ⟨b, off + i * 10, none⟩)] u fun e w' => e = .returned (.bool (fpN h A.kids[i])) ∧ Below u.heap.size u w') := fun u hu => ih _ _ _ u (hk.keep hu)
  obtain ⟨q0, q3⟩ : w.cell? ⟨b, off + i * 10, none⟩ = some (.int .i64 A.kids[i].op) ∧ w.cell? ⟨b, off + i * 10 + 3, none⟩ = some (.int .i64 A.kids[i].value.kind) := by
    rw [hh] at hk
    obtain ⟨_, _, _, _, _, _, _, _, HK⟩ := hk.open_
    exact ⟨HK.c0, HK.c3⟩
  obtain ⟨R, hR⟩ : ∃ R, kfB (fpN h) A.op A.kids i A.kids[i] = R := ⟨_, rfl⟩
  rw [hR]
  unfold kfB at hR
  have HR := Hid.mk hR
  clear hR
  have H8 : Hid (A.op = 8 → A.kids.length = 3) := h8
  generalize sq (noA A.kids[i]) (noA nn0) = r1 at *
  generalize sq (noA (A.kids.getD (3 - i) nn0)) (noA nn0) = r2 at *
  generalize fpN h A.kids[i] = r3 at *
  generalize A.kids[i].op = ko at *
  generalize A.kids[i].value.kind = kk at *
  rw [e1] at c9 HC9
  clear HA hA hk hr e1 h8
  generalize A.kids.length = N at *
  generalize A.op = aop at *
  have hi1 : (i : Int) < (N : Int) := by omega
  have hi0 : (0 : Int) ≤ (i : Int) := by omega
  have HC0 := Hid.mk c0
  have HQ0 := Hid.mk q0
  have HQ3 := Hid.mk q3
  have HB0 : Hid (Below w.heap.size w w) := Below.refl _ _
  by_cases k8 : aop = 8
  · subst k8
    have hN3 := H8.out rfl
    subst hN3
    by_cases i0 : i = 0
    · subst i0
      have HT : Hid (R = r3) := HR.out.symm.trans (by rw [if_neg (by simp), if_neg (by simp)])
      clear HR HO H8
      go_enter Tryz.func131, Tryz.ntmps131
      go_wp2_with fail
      refine (HF.out _ HB0.out).mono ?_
      rintro e w1 ⟨rfl, hb1⟩
      have HB1 := Hid.mk (HB0.out.trans (hb1.mono HB0.out.size))
      clear hb1
      go_wp2_with fail
      go_ret
      exact ⟨by rw [HT.out]; rfl, HB1.out⟩
    by_cases i1 : i = 1
    · subst i1
      have HO1 := Hid.mk (HO.out rfl (by omega))
      cases r1 with
      | true =>
        have HT : Hid (R = !r2) := HR.out.symm.trans (by rw [if_pos ⟨rfl, by omega, rfl⟩])
        clear HR HO H8
        go_enter Tryz.func131, Tryz.ntmps131
        go_wp2_with fail
        refine (HN.out _ HB0.out).mono ?_
        rintro e w1 ⟨rfl, hb1⟩
        have HB1 := Hid.mk (HB0.out.trans (hb1.mono HB0.out.size))
        clear hb1
        have c9x := (HB1.out.cell (p := ⟨g, o + 9, none⟩) (block_lt_of_cell HC9.out)).trans HC9.out
        have c0x := (HB1.out.cell (p := ⟨g, o, none⟩) (block_lt_of_cell HC0.out)).trans HC0.out
        go_wp2_with fail
        refine (HO1.out _ HB1.out).mono ?_
        rintro e w2 ⟨rfl, hb2⟩
        have HB2 := Hid.mk (HB1.out.trans (hb2.mono HB1.out.size))
        clear hb2
        go_wp2_with fail
        go_ret
        exact ⟨by rw [HT.out]; rfl, HB2.out⟩
      | false =>
        have HT : Hid (R = r3) := HR.out.symm.trans (by rw [if_neg (by simp), if_neg (by simp)])
        clear HR HO H8
        go_enter Tryz.func131, Tryz.ntmps131
        go_wp2_with fail
        refine (HN.out _ HB0.out).mono ?_
        rintro e w1 ⟨rfl, hb1⟩
        have HB1 := Hid.mk (HB0.out.trans (hb1.mono HB0.out.size))
        clear hb1
        have c9x := (HB1.out.cell (p := ⟨g, o + 9, none⟩) (block_lt_of_cell HC9.out)).trans HC9.out
        have c0x := (HB1.out.cell (p := ⟨g, o, none⟩) (block_lt_of_cell HC0.out)).trans HC0.out
        go_wp2_with fail
        refine (HF.out _ HB1.out).mono ?_
        rintro e w2 ⟨rfl, hb2⟩
        have HB2 := Hid.mk (HB1.out.trans (hb2.mono HB1.out.size))
        clear hb2
        go_wp2_with fail
        go_ret
        exact ⟨by rw [HT.out]; rfl, HB2.out⟩
    by_cases i2 : i = 2
    · subst i2
      have HO1 := Hid.mk (HO.out rfl (by omega))
      cases r1 with
      | true =>
        have HT : Hid (R = !r2) := HR.out.symm.trans (by rw [if_pos ⟨rfl, by omega, rfl⟩])
        clear HR HO H8
        go_enter Tryz.func131, Tryz.ntmps131
        go_wp2_with fail
        refine (HN.out _ HB0.out).mono ?_
        rintro e w1 ⟨rfl, hb1⟩
        have HB1 := Hid.mk (HB0.out.trans (hb1.mono HB0.out.size))
        clear hb1
        have c9x := (HB1.out.cell (p := ⟨g, o + 9, none⟩) (block_lt_of_cell HC9.out)).trans HC9.out
        have c0x := (HB1.out.cell (p := ⟨g, o, none⟩) (block_lt_of_cell HC0.out)).trans HC0.out
        go_wp2_with fail
        refine (HO1.out _ HB1.out).mono ?_
        rintro e w2 ⟨rfl, hb2⟩
        have HB2 := Hid.mk (HB1.out.trans (hb2.mono HB1.out.size))
        clear hb2
        go_wp2_with fail
        go_ret
        exact ⟨by rw [HT.out]; rfl, HB2.out⟩
      | false =>
        have HT : Hid (R = r3) := HR.out.symm.trans (by rw [if_neg (by simp), if_neg (by simp)])
        clear HR HO H8
        go_enter Tryz.func131, Tryz.ntmps131
        go_wp2_with fail
        refine (HN.out _ HB0.out).mono ?_
        rintro e w1 ⟨rfl, hb1⟩
        have HB1 := Hid.mk (HB0.out.trans (hb1.mono HB0.out.size))
        clear hb1
        have c9x := (HB1.out.cell (p := ⟨g, o + 9, none⟩) (block_lt_of_cell HC9.out)).trans HC9.out
        have c0x := (HB1.out.cell (p := ⟨g, o, none⟩) (block_lt_of_cell HC0.out)).trans HC0.out
        go_wp2_with fail
        refine (HF.out _ HB1.out).mono ?_
        rintro e w2 ⟨rfl, hb2⟩
        have HB2 := Hid.mk (HB1.out.trans (hb2.mono HB1.out.size))
        clear hb2
        go_wp2_with fail
        go_ret
        exact ⟨by rw [HT.out]; rfl, HB2.out⟩
    exfalso
    omega
  have b8 : (aop == 8) = false := by rw [beq_eq_false_iff_ne]; exact k8
  by_cases k3 : aop = 3
  · subst k3
    by_cases hp : i % 2 = 0
    · have hp2 : ((i : Int) % 2 == 0) = true := by
        have : (i : Int) % 2 = 0 := by omega
        rw [this]; rfl
      have HR3 : Hid (R = (decide (ko = 2) && decide (kk = 4) && r3)) := HR.out.symm.trans (by rw [if_neg (by simp), if_pos ⟨rfl, hp⟩])
      have HPp := Hid.mk hp
      clear HR HO H8 hp
      by_cases o2 : ko = 2
      · subst o2
        by_cases o4 : kk = 4
        · subst o4
          have HT : Hid (R = r3) := HR3.out.trans (by simp)
          go_enter Tryz.func131, Tryz.ntmps131
          go_wp2_with fail
          refine (HF.out _ HB0.out).mono ?_
          rintro e w1 ⟨rfl, hb1⟩
          have HB1 := Hid.mk (HB0.out.trans (hb1.mono HB0.out.size))
          clear hb1
          go_wp2_with fail
          go_ret
          exact ⟨by rw [HT.out]; rfl, HB1.out⟩
        · have o4b : (kk == 4) = false := by rw [beq_eq_false_iff_ne]; exact o4
          have HT : Hid (R = false) := HR3.out.trans (by simp [o4])
          clear o4
          go_enter Tryz.func131, Tryz.ntmps131
          go_wp2_with fail
          go_ret
          exact ⟨by rw [HT.out]; rfl, HB0.out⟩
      · have o2b : (ko == 2) = false := by rw [beq_eq_false_iff_ne]; exact o2
        have HT : Hid (R = false) := HR3.out.trans (by simp [o2])
        clear o2
        go_enter Tryz.func131, Tryz.ntmps131
        go_wp2_with fail
        go_ret
        exact ⟨by rw [HT.out]; rfl, HB0.out⟩
    · have hp2 : ((i : Int) % 2 == 0) = false := by rw [beq_eq_false_iff_ne]; omega
      have HT : Hid (R = r3) := HR.out.symm.trans (by rw [if_neg (by simp), if_neg (fun h => hp h.2)])
      clear HR HO H8 hp
      go_enter Tryz.func131, Tryz.ntmps131
      go_wp2_with fail
      refine (HF.out _ HB0.out).mono ?_
      rintro e w1 ⟨rfl, hb1⟩
      have HB1 := Hid.mk (HB0.out.trans (hb1.mono HB0.out.size))
      clear hb1
      go_wp2_with fail
      go_ret
      exact ⟨by rw [HT.out]; rfl, HB1.out⟩
  have b3 : (aop == 3) = false := by rw [beq_eq_false_iff_ne]; exact k3
  have HT : Hid (R = r3) := HR.out.symm.trans (by rw [if_neg (fun h => k8 h.1), if_neg (fun h => k3 h.1)])
  clear HR HO H8 k8 k3
  go_enter Tryz.func131, Tryz.ntmps131
  go_wp2_with fail
  refine (HF.out _ HB0.out).mono ?_
  rintro e w1 ⟨rfl, hb1⟩
  have HB1 := Hid.mk (HB0.out.trans (hb1.mono HB0.out.size))
  clear hb1
  go_wp2_with fail
  go_ret
  exact ⟨by rw [HT.out]; rfl, HB1.out⟩
end Go.Proofs.YtdjleoglphgdgaaGreatDoor
namespace Go.Proofs.YtdjleoglphgdgaaGreatDoor
open Go.RowKit Go.Shelf Go.Sort
set_option linter.unusedVariables false
set_option linter.unusedSimpArgs false
attribute [local go_sem] Oper.semAt_some

noncomputable def ksB (fm : NT → Bool) (A : NT) : Bool := (List.range A.kids.length).all fun i => kfB fm A.op A.kids i (A.kids.getD i nn0)
theorem ks_up {p : Nat → Bool} {k : Nat} (h : (List.range k).all p = true) (hp : p k = true) : (List.range (k + 1)).all p = true := by
  rw [List.range_succ, List.all_append, h]
  simp [hp]
theorem ks_no {p : Nat → Bool} {k n : Nat} (h : k < n) (hp : p k = false) : (List.range n).all p = false := by
  rw [List.all_eq_false]
  exact ⟨k, List.mem_range.2 h, by rw [hp]; decide⟩
theorem mf8 {n : Int} (h : mfB 8 n = true) : n = 3 := by
  have : mfB 8 n = (n == 3) := by simp [mfB]
  rw [this] at h
  exact eq_of_beq h

set_option maxRecDepth 100000 in
set_option maxHeartbeats 6400000 in
theorem w_kidsFit (h : Nat) (ih : FpNOk h) (A : NT) (g o : Nat) (w : World) (hA : NAt w (h + 1) A g o) : Calls Tryz.prog 72 #[.pointer (some ⟨g, o, none⟩)] w fun e w' => e = .returned (.bool (mfB A.op (A.kids.length : Int) && ksB (fpN h) A)) ∧ Below w.heap.size w w' := by
  obtain ⟨aio, aic, ayo, ayc, ano, anc, ako, akc, HA⟩ := hA.open_
  have c0 := HA.c0
  have c9 := HA.c9
  have HC9 := Hid.mk HA.c9
  have hcap := HA.kl.1
  have hbig := HA.kl.2
  have HM : Hid (∀ d os, Calls Tryz.prog 130 #[.int .i64 A.op, .int .i64 (A.kids.length : Int)] (grow (redrawn w d) os) fun e w' => e = .returned (.bool (mfB A.op (A.kids.length : Int))) ∧ Below (grow (redrawn w d) os).heap.size (grow (redrawn w d) os) w') := fun d os => (w_manyFit A.op A.kids.length HA.kl.2 _).mono (by rintro e w' ⟨rfl, rfl⟩; exact ⟨rfl, Below.refl _ _⟩)
  have HKf : Hid (mfB A.op (A.kids.length : Int) = true → ∀ (i : Nat), i < A.kids.length → ∀ u, Below w.heap.size w u → Calls Tryz.prog 131 #[.pointer (some ⟨g, o, none⟩), .int .i64 (i : Int)] u fun e w' => e = .returned (.bool (kfB (fpN h) A.op A.kids i (A.kids.getD i nn0))) ∧ Below u.heap.size u w') := fun hm i hi u hu => w_kidFits h ih A g o i u (hA.keep hu) hi (fun h8 => by
    rw [h8] at hm
    have := mf8 hm
    omega)
  have P0 := fun d os => cell_regrown c0 d os
  have P9 := fun d os => cell_regrown c9 d os
  clear HA hA c0 c9
  unfold ksB
  generalize hf : (fun i => kfB (fpN h) A.op A.kids i (A.kids.getD i nn0)) = p at *
  have HK2 : Hid (mfB A.op (A.kids.length : Int) = true → ∀ (i : Nat), i < A.kids.length → ∀ u, Below w.heap.size w u → Calls Tryz.prog 131 #[.pointer (some ⟨g, o, none⟩), .int .i64 (i : Int)] u fun e w' => e = .returned (.bool (p i)) ∧ Below u.heap.size u w') := fun hm i hi u hu => by
    have := HKf.out hm i hi u hu
    rw [← hf]
    exact this
  clear HKf hf
  generalize A.kids.length = N at *
  generalize A.op = aop at *
  obtain ⟨R, HR⟩ : ∃ R, Hid ((mfB aop (N : Int) && (List.range N).all p) = R) := ⟨_, rfl⟩
  rw [HR.out]
  cases hm : mfB aop (N : Int) with
  | false =>
    rw [hm] at HM HR
    have HT : Hid (R = false) := HR.out.symm
    clear hm
    go_enter Tryz.func72, Tryz.ntmps72
    go_wp2_with fail
    refine wp_region_quiet_below (by kernel_rfl) (by kernel_rfl) ?_
    repeat (go_big_quiet_step (exact Calls.regrown_of (HM.out _ _)))
    refine wpQuiet_nil ?_
    intro w2 hw'
    have HB2 : Hid (Below w.heap.size w w2) := by
      obtain ⟨⟨dq, osq⟩, rfl⟩ := hw'
      exact below_regrown w dq osq
    clear hw' P0 P9
    go_wp2_with fail
    go_ret
    exact ⟨by rw [HT.out]; rfl, HB2.out⟩
  | true =>
    have HK3 := Hid.mk (HK2.out hm)
    rw [hm] at HM HR
    have HR3 : Hid (R = (List.range N).all p) := HR.out.symm
    clear hm HK2 HR
    go_enter Tryz.func72, Tryz.ntmps72
    go_wp2_with fail
    refine wp_region_quiet_below (by kernel_rfl) (by kernel_rfl) ?_
    repeat (go_big_quiet_step (exact Calls.regrown_of (HM.out _ _)))
    refine wpQuiet_nil ?_
    intro w2 hw'
    have HB2 : Hid (Below w.heap.size w w2) := by
      obtain ⟨⟨dq, osq⟩, rfl⟩ := hw'
      exact below_regrown w dq osq
    clear hw' P0 P9
    have r9 := (HB2.out.cell (p := ⟨g, o + 9, none⟩) (block_lt_of_cell HC9.out)).trans HC9.out
    go_wp2_with fail
    clear r9
    go_loopw [20] (fun i wr => ∃ k : Nat, k ≤ N ∧ i = .int .i64 (k : Int) ∧ Hid (Below w.heap.size w wr) ∧ Hid ((List.range k).all p = true)) (fun i _ => N - (intOf i).toNat)
    case atStart => exact ⟨0, Nat.zero_le _, rfl, HB2, rfl⟩
    case round =>
      obtain ⟨k, hk, rfl, HBw, HQ⟩ := hrel
      by_cases hlt : k < N
      · have hl1 : (k : Int) < (N : Int) := by omega
        have hl0 : (0 : Int) ≤ (k : Int) := by omega
        have HCr := Hid.mk (HK3.out k hlt wr HBw.out)
        have HUp : Hid (p k = true → (List.range (k + 1)).all p = true) := fun hp => ks_up HQ.out hp
        have HNo : Hid (p k = false → (List.range N).all p = false) := fun hp => ks_no hlt hp
        generalize p k = y at *
        go_wp2_with fail
        refine HCr.out.mono ?_
        rintro e w3 ⟨rfl, hb3⟩
        have HB3 : Hid (Below w.heap.size w w3) := HBw.out.trans (hb3.mono HBw.out.size)
        clear hb3
        cases y with
        | true =>
          have HQ3 := Hid.mk (HUp.out rfl)
          go_wp2_with fail
          go_roundw
          case rel => exact ⟨k + 1, by omega, by go_num, HB3, HQ3⟩
          case measure => simp [intOf]; omega
        | false =>
          have HT : Hid (R = false) := HR3.out.trans (HNo.out rfl)
          go_wp2_with fail
          go_ret
          exact ⟨by rw [HT.out]; rfl, HB3.out⟩
      · have hl1 : ¬ (k : Int) < (N : Int) := by omega
        have HT : Hid (R = true) := by
          have e := HQ.out
          rw [show k = N by omega] at e
          exact HR3.out.trans e
        go_wp2_with fail
        go_ret
        exact ⟨by rw [HT.out]; rfl, HBw.out⟩

set_option maxRecDepth 100000 in
set_option maxHeartbeats 6400000 in
theorem fp_step (h : Nat) (ih : FpNOk h) : FpNOk (h + 1) := by
  intro A g o w hA
  have H1 : Hid (∀ u, Below w.heap.size w u → Calls Tryz.prog 72 #[.pointer (some ⟨g, o, none⟩)] u fun e w' => e = .returned (.bool (mfB A.op (A.kids.length : Int) && ksB (fpN h) A)) ∧ Below u.heap.size u w') := fun u hu => w_kidsFit h ih A g o u (hA.keep hu)
  have H2 : Hid (∀ u, Below w.heap.size w u → Calls Tryz.prog 73 #[.pointer (some ⟨g, o, none⟩)] u fun e w' => e = .returned (.bool (ttB A.op A.text)) ∧ Below u.heap.size u w') := fun u hu => w_textFits h A g o u (hA.keep hu)
  have H3 : Hid (∀ u, Below w.heap.size w u → Calls Tryz.prog 74 #[.pointer (some ⟨g, o, none⟩)] u fun e w' => e = .returned (.bool (vfB (h + 1) A.op A.value)) ∧ Below u.heap.size u w') := fun u hu => w_valueFits h A g o u (hA.keep hu)
  have H4 : Hid (∀ u, Below w.heap.size w u → Calls Tryz.prog 75 #[.pointer (some ⟨g, o, none⟩)] u fun e w' => e = .returned (.bool (nsB A.op A.names)) ∧ Below u.heap.size u w') := fun u hu => w_namesFit h A g o u (hA.keep hu)
  obtain ⟨R, HR⟩ : ∃ R, Hid (fpN (h + 1) A = R) := ⟨_, rfl⟩
  rw [HR.out]
  have HR2 : Hid (R = ((mfB A.op (A.kids.length : Int) && ksB (fpN h) A) && ttB A.op A.text && vfB (h + 1) A.op A.value && nsB A.op A.names)) := by
    show _ = _
    rw [← HR.out, fpN]
    unfold ksB
    rfl
  clear HR hA
  generalize (mfB A.op (A.kids.length : Int) && ksB (fpN h) A) = r1 at *
  generalize ttB A.op A.text = r2 at *
  generalize vfB (h + 1) A.op A.value = r3 at *
  generalize nsB A.op A.names = r4 at *
  have HB0 : Hid (Below w.heap.size w w) := Below.refl _ _
  cases r1 with
  | false =>
    have HT : Hid (R = false) := HR2.out.trans rfl
    go_enter Tryz.func40, Tryz.ntmps40
    go_wp2_with fail
    refine (H1.out _ HB0.out).mono ?_
    rintro e w1 ⟨rfl, hb1⟩
    have HB1 := Hid.mk (HB0.out.trans (hb1.mono HB0.out.size))
    clear hb1
    go_wp2_with fail
    go_ret
    exact ⟨by rw [HT.out]; rfl, HB1.out⟩
  | true =>
    cases r2 with
    | false =>
      have HT : Hid (R = false) := HR2.out.trans rfl
      go_enter Tryz.func40, Tryz.ntmps40
      go_wp2_with fail
      refine (H1.out _ HB0.out).mono ?_
      rintro e w1 ⟨rfl, hb1⟩
      have HB1 := Hid.mk (HB0.out.trans (hb1.mono HB0.out.size))
      clear hb1
      go_wp2_with fail
      refine (H2.out _ HB1.out).mono ?_
      rintro e w2 ⟨rfl, hb2⟩
      have HB2 := Hid.mk (HB1.out.trans (hb2.mono HB1.out.size))
      clear hb2
      go_wp2_with fail
      go_ret
      exact ⟨by rw [HT.out]; rfl, HB2.out⟩
    | true =>
      cases r3 with
      | false =>
        have HT : Hid (R = false) := HR2.out.trans rfl
        go_enter Tryz.func40, Tryz.ntmps40
        go_wp2_with fail
        refine (H1.out _ HB0.out).mono ?_
        rintro e w1 ⟨rfl, hb1⟩
        have HB1 := Hid.mk (HB0.out.trans (hb1.mono HB0.out.size))
        clear hb1
        go_wp2_with fail
        refine (H2.out _ HB1.out).mono ?_
        rintro e w2 ⟨rfl, hb2⟩
        have HB2 := Hid.mk (HB1.out.trans (hb2.mono HB1.out.size))
        clear hb2
        go_wp2_with fail
        refine (H3.out _ HB2.out).mono ?_
        rintro e w3 ⟨rfl, hb3⟩
        have HB3 := Hid.mk (HB2.out.trans (hb3.mono HB2.out.size))
        clear hb3
        go_wp2_with fail
        go_ret
        exact ⟨by rw [HT.out]; rfl, HB3.out⟩
      | true =>
        have HT : Hid (R = r4) := HR2.out.trans (by simp)
        go_enter Tryz.func40, Tryz.ntmps40
        go_wp2_with fail
        refine (H1.out _ HB0.out).mono ?_
        rintro e w1 ⟨rfl, hb1⟩
        have HB1 := Hid.mk (HB0.out.trans (hb1.mono HB0.out.size))
        clear hb1
        go_wp2_with fail
        refine (H2.out _ HB1.out).mono ?_
        rintro e w2 ⟨rfl, hb2⟩
        have HB2 := Hid.mk (HB1.out.trans (hb2.mono HB1.out.size))
        clear hb2
        go_wp2_with fail
        refine (H3.out _ HB2.out).mono ?_
        rintro e w3 ⟨rfl, hb3⟩
        have HB3 := Hid.mk (HB2.out.trans (hb3.mono HB2.out.size))
        clear hb3
        go_wp2_with fail
        refine (H4.out _ HB3.out).mono ?_
        rintro e w4 ⟨rfl, hb4⟩
        have HB4 := Hid.mk (HB3.out.trans (hb4.mono HB3.out.size))
        clear hb4
        go_wp2_with fail
        go_ret
        exact ⟨by rw [HT.out]; rfl, HB4.out⟩
theorem w_formedN : ∀ h, FpNOk h
  | 0 => fun _ _ _ _ ⟨_, _, hA⟩ => hA.elim
  | h + 1 => fp_step h (w_formedN h)

set_option maxRecDepth 100000 in
set_option maxHeartbeats 3200000 in
theorem w_FormedP (h : Nat) (A : NT) (va : Value) (w : World) (hA : InA w h A va) : Calls Tryz.prog 25 #[va] w fun e w' => e = .returned (.bool (fpN h A)) ∧ Below w.heap.size w w' := by
  obtain ⟨aop, aat, avk, atx, avn, avx, aio, ayo, ano, ako, avi, aic, avy, ayc, ann, anc, akn, akc, rfl⟩ := inA_shape hA
  obtain ⟨W1, hW1⟩ : ∃ W1, w.alloc (.cells #[.int .i64 aop, .int .i64 aat, .string atx, .int .i64 avk, .string avn, .string avx, .slice aio avi aic, .slice ayo avy ayc, .slice ano ann anc, .slice ako akn akc] 28) = W1 := ⟨_, rfl⟩
  have HX := Hid.mk (B1.new hW1)
  have HC : Hid (Calls Tryz.prog 40 #[.pointer (some ⟨w.heap.size, 0, none⟩)] W1 fun e w' => e = .returned (.bool (fpN h A)) ∧ Below W1.heap.size W1 w') := w_formedN h A _ 0 W1 (nat_box (c := c10 (.int .i64 aop) (.int .i64 aat) (.string atx) (.int .i64 avk) (.string avn) (.string avx) (.slice aio avi aic) (.slice ayo avy ayc) (.slice ano ann anc) (.slice ako akn akc)) HX.out.a (hA.low HX.out.below))
  generalize fpN h A = r at *
  clear hA
  go_enter Tryz.func25, Tryz.ntmps25
  go_wp2_with fail
  refine HC.out.mono ?_
  rintro e w2 ⟨rfl, hb2⟩
  have HX2 := Hid.mk (HX.out.keep hb2)
  clear hb2
  go_wp2_with fail
  go_ret
  exact ⟨rfl, HX2.out.below⟩
end Go.Proofs.YtdjleoglphgdgaaGreatDoor
namespace Go.Proofs.YtdjleoglphgdgaaGreatDoor
open Go.RowKit Go.Shelf Go.Sort
set_option linter.unusedVariables false
set_option linter.unusedSimpArgs false
attribute [local go_sem] Oper.semAt_some

/-- parts counted one by one, as long as there are not too many -/
def paL {α : Type} (f : α → Int → Int) (most : Int) : List α → Int → Int
  | [], n => n
  | T :: r, n => if n ≤ most then paL f most r (n + f T (most - n)) else n
def paV : Nat → VT → Int → Int
  | 0, _, _ => 0
  | h + 1, T, most => paL (paV h) most T.items 1 + (T.keys.length : Int)
def paN : Nat → NT → Int → Int
  | 0, _, _ => 0
  | h + 1, A, most => paL (paN h) most A.kids (1 + (A.names.length : Int) + paV (h + 1) A.value most)
theorem paL_up {α : Type} {f : α → Int → Int} {most n : Int} {l : List α} {k : Nat} (hk : k < l.length) (hm : n ≤ most) : paL f most (l.drop k) n = paL f most (l.drop (k + 1)) (n + f l[k] (most - n)) := by
  rw [List.drop_eq_getElem_cons hk, paL, if_pos hm]
theorem paL_stop {α : Type} {f : α → Int → Int} {most n : Int} {l : List α} {k : Nat} (hk : k < l.length) (hm : ¬ n ≤ most) : paL f most (l.drop k) n = n := by
  rw [List.drop_eq_getElem_cons hk, paL, if_neg hm]

set_option maxRecDepth 100000 in
set_option maxHeartbeats 3200000 in
theorem w_PartsV : ∀ (h : Nat) (T : VT) (v : Value) (w : World) (most : Int), InH w h T v → 0 ≤ most → most ≤ 20000 → Calls Tryz.prog 33 #[v, .int .i64 most] w fun e w' => e = .returned (.int .i64 (paV h T most)) ∧ (0 ≤ paV h T most ∧ paV h T most ≤ most + (most + 1) * 140737488355329) ∧ Below w.heap.size w w' := by
  intro h
  induction h with
  | zero => intro T v w most hI; exact hI.elim
  | succ h ih =>
    intro T v w most hI h0 h1
    obtain ⟨io, icap, ko, kcap, rfl, a1, a2, a3, a4, a5, a6, a7, hk, hi⟩ := hI.open
    have HX := Hid.mk (vbx_new w (.int .i64 T.kind) (.string T.num) (.string T.text) (.slice io T.items.length icap) (.slice ko T.keys.length kcap))
    have HI := Hid.mk (hi.keep HX.out.below)
    have HIh := Hid.mk ih
    obtain ⟨R, hR⟩ : ∃ R, paV (h + 1) T most = R := ⟨_, rfl⟩
    have HSZ : Hid (R = paL (paV h) most T.items 1 + (T.keys.length : Int)) := hR.symm
    rw [hR]
    clear hR
    generalize T.kind = kd at *
    generalize T.num = nm at *
    generalize T.text = tx at *
    obtain ⟨ts, hts⟩ : ∃ ts, T.items = ts := ⟨_, rfl⟩
    rw [hts] at HI HX a3 a5 HSZ ⊢
    obtain ⟨N, hN⟩ : ∃ N, ts.length = N := ⟨_, rfl⟩
    have HNN := Hid.mk hN
    rw [hN] at HX HI a3 a5 ⊢
    obtain ⟨K, hK⟩ : ∃ K, T.keys.length = K := ⟨_, rfl⟩
    rw [hK] at HX HI a4 a6 HSZ ⊢
    clear hi hk hI ih a7 hts hN hK
    obtain ⟨W0, hW0⟩ : ∃ W0, W0 = w.alloc (.cells #[.int .i64 kd, .string nm, .string tx, .slice io N icap, .slice ko K kcap] 25) := ⟨_, rfl⟩
    go_enter Tryz.func33, Tryz.ntmps33
    go_wp2_with fail
    rw [← hW0] at HX HI ⊢
    clear hW0
    go_loopw [5, 6] (fun nn i wr => ∃ (n : Int) (k : Nat), 1 ≤ n ∧ n ≤ most + most * 140737488355329 + 1 ∧ k ≤ N ∧ nn = .int .i64 n ∧ i = .int .i64 (k : Int) ∧ Hid (Below W0.heap.size W0 wr) ∧ Hid (paL (paV h) most ts 1 = paL (paV h) most (ts.drop k) n)) (fun _ i _ => N - (intOf i).toNat)
    case atStart => exact ⟨1, 0, by omega, by omega, Nat.zero_le _, rfl, rfl, Below.refl _ _, rfl⟩
    case round =>
      obtain ⟨n, k, hn0, hn1, hk, rfl, rfl, HB, HS⟩ := hrel
      have HXw := Hid.mk (HX.out.keep HB.out)
      have g3 := HXw.out.c3
      have g4 := HXw.out.c4
      by_cases hlt : k < N
      · have hl1 : (k : Int) < (N : Int) := by omega
        by_cases hm : n ≤ most
        · obtain ⟨b, off, hio, hbl, hrow⟩ := (HI.out.keep HB.out).row (by rw [HNN.out]; omega)
          subst hio
          have hkt : k < ts.length := by rw [HNN.out]; exact hlt
          obtain ⟨v0, v1, v2, v3, v4, ⟨c0, c1, c2, c3, c4⟩, ht⟩ := hrow k hkt
          have HC := Hid.mk (HIh.out _ _ wr (most - n) ht (by omega) (by omega))
          have HS2 : Hid (paL (paV h) most ts 1 = paL (paV h) most (ts.drop (k + 1)) (n + paV h ts[k] (most - n))) := HS.out.trans (paL_up hkt hm)
          generalize paV h ts[k] (most - n) = p at *
          clear ht hrow hbl
          go_wp2_with fail
          refine HC.out.mono ?_
          rintro e w2 ⟨rfl, ⟨hp0, hp1⟩, hb2⟩
          have HB2 := Hid.mk (below_more HB.out hb2)
          have hpb : n + p ≤ most + most * 140737488355329 + 1 := by omega
          clear hb2 c0 c1 c2 c3 c4 HC g3 g4 hkt
          go_wp2_with fail
          go_roundw
          case rel => exact ⟨n + p, k + 1, by omega, hpb, hlt, by go_num, by go_num, HB2, HS2⟩
          case measure => simp [intOf]; omega
        · have hm1 : ¬ n ≤ most := hm
          have HF : Hid (R = n + (K : Int)) := HSZ.out.trans (by rw [HS.out, paL_stop (by rw [HNN.out]; exact hlt) hm])
          go_wp2_with fail
          go_ret
          exact ⟨by rw [HF.out]; go_num, by rw [HF.out]; omega, HXw.out.below⟩
      · have hl1 : ¬ (k : Int) < (N : Int) := by omega
        have HF : Hid (R = n + (K : Int)) := HSZ.out.trans (by rw [HS.out, List.drop_of_length_le (by rw [HNN.out]; omega)]; rfl)
        go_wp2_with fail
        go_ret
        exact ⟨by rw [HF.out]; go_num, by rw [HF.out]; omega, HXw.out.below⟩
end Go.Proofs.YtdjleoglphgdgaaGreatDoor
namespace Go.Proofs.YtdjleoglphgdgaaGreatDoor
open Go.RowKit Go.Shelf Go.Sort
set_option linter.unusedVariables false
set_option linter.unusedSimpArgs false
attribute [local go_sem] Oper.semAt_some

def PaOk (h : Nat) : Prop := ∀ (A : NT) (va : Value) (w : World) (most : Int), InA w h A va → 0 ≤ most → most ≤ 20000 → Calls Tryz.prog 16 #[va, .int .i64 most] w fun e w' => e = .returned (.int .i64 (paN h A most)) ∧ (0 ≤ paN h A most ∧ paN h A most ≤ (most + 1) * 281474976710660) ∧ Below w.heap.size w w'

set_option maxRecDepth 100000 in
set_option maxHeartbeats 3200000 in
theorem pa_step (h : Nat) (ih : PaOk h) : PaOk (h + 1) := by
  intro A va w most hA h0 h1
  obtain ⟨io, ic, yo, yc, no, nc, ko, kc, e, htx, hval, hnm, hkl, hnr, hkr⟩ := hA
  subst e
  obtain ⟨W1, hW1⟩ : ∃ W1, w.alloc (.cells #[.int .i64 A.op, .int .i64 A.at_, .string A.text, .int .i64 A.value.kind, .string A.value.num, .string A.value.text, .slice io A.value.items.length ic, .slice yo A.value.keys.length yc, .slice no A.names.length nc, .slice ko A.kids.length kc] 28) = W1 := ⟨_, rfl⟩
  have HX1 := Hid.mk (B1.new hW1)
  have hVb : 0 ≤ paV (h + 1) A.value most ∧ paV (h + 1) A.value most ≤ most + (most + 1) * 140737488355329 := by
    obtain ⟨e, w', fr, ⟨_, hb, _⟩, _⟩ := w_PartsV (h + 1) A.value _ w most hval.toH h0 h1 []
    exact hb
  have HG : Hid (∀ d os, Calls Tryz.prog 33 #[.agg #[.int .i64 A.value.kind, .string A.value.num, .string A.value.text, .slice io A.value.items.length ic, .slice yo A.value.keys.length yc], .int .i64 most] (grow (redrawn W1 d) os) fun e w' => e = .returned (.int .i64 (paV (h + 1) A.value most)) ∧ Below (grow (redrawn W1 d) os).heap.size (grow (redrawn W1 d) os) w') := fun d os => (w_PartsV (h + 1) A.value _ _ most ((hval.keep (D' := fun _ => True) (HX1.out.below.trans ((below_regrown W1 d os).mono HX1.out.below.size)).size (fun b _ hl => (HX1.out.below.trans ((below_regrown W1 d os).mono HX1.out.below.size)).block b hl) (fun _ _ _ => trivial)).toH) h0 h1).mono (by rintro e w' ⟨rfl, _, hb⟩; exact ⟨rfl, hb⟩)
  have HIh := Hid.mk ih
  obtain ⟨R, hR⟩ : ∃ R, paN (h + 1) A most = R := ⟨_, rfl⟩
  have HSZ : Hid (R = paL (paN h) most A.kids (1 + (A.names.length : Int) + paV (h + 1) A.value most)) := hR.symm
  rw [hR]
  have hnb := hnm.2.1
  have hcap := hkl.1
  have hbig := hkl.2
  have HKR := Hid.mk hkr
  clear hR hval hnm hkl hnr hkr ih htx
  generalize paV (h + 1) A.value most = pv at *
  obtain ⟨ts, hts⟩ : ∃ ts, A.kids = ts := ⟨_, rfl⟩
  have HTS := Hid.mk hts
  rw [hts] at HX1 HSZ hW1 hcap hbig ⊢
  clear hts
  obtain ⟨N, hN⟩ : ∃ N, ts.length = N := ⟨_, rfl⟩
  have HNN := Hid.mk hN
  rw [hN] at HX1 hW1 hcap hbig ⊢
  clear hN
  generalize A.names.length = Nn at *
  generalize A.op = aop at *
  generalize A.at_ = aat at *
  generalize A.text = atx at *
  generalize A.value.kind = avk at *
  generalize A.value.num = avn at *
  generalize A.value.text = avx at *
  generalize A.value.items.length = avi at *
  generalize A.value.keys.length = avy at *
  obtain ⟨x0, x1, x2, x3, x4, x5, x6, x7, x8, x9⟩ := nd_cells HX1.out.a
  have hw1 : IntKind.i64.wrap (1 + (Nn : Int)) = 1 + (Nn : Int) := by rw [IntKind.wrap_i64]; omega
  have hw2 : IntKind.i64.wrap (1 + (Nn : Int) + pv) = 1 + (Nn : Int) + pv := by rw [IntKind.wrap_i64]; omega
  go_enter Tryz.func16, Tryz.ntmps16
  go_wp2_with fail
  have R3 := fun d os => cell_regrown x3 d os
  have R4 := fun d os => cell_regrown x4 d os
  have R5 := fun d os => cell_regrown x5 d os
  have R6 := fun d os => cell_regrown x6 d os
  have R7 := fun d os => cell_regrown x7 d os
  have R8 := fun d os => cell_regrown x8 d os
  refine wp_region_quiet_below (by kernel_rfl) (by kernel_rfl) ?_
  iterate 8 (go_big_quiet_step (exact Calls.regrown_of (HG.out _ _)))
  repeat (go_big_quiet_step (fail))
  refine wpQuiet_nil ?_
  intro w2 hw'
  have HX2 := Hid.mk (by obtain ⟨⟨dq, osq⟩, rfl⟩ := hw'; exact HX1.out.keep (below_regrown W1 dq osq) : B1 w _ _ w2)
  clear hw' R3 R4 R5 R6 R7 R8 HG hW1 x0 x1 x2 x3 x4 x5 x6 x7 x8 x9
  go_wp2_with fail
  go_loopw [5, 6] (fun nn i wr => ∃ (n : Int) (k : Nat), 1 ≤ n ∧ n ≤ (most + 1) * 281474976710660 ∧ k ≤ N ∧ nn = .int .i64 n ∧ i = .int .i64 (k : Int) ∧ Hid (B1 w #[.int .i64 aop, .int .i64 aat, .string atx, .int .i64 avk, .string avn, .string avx, .slice io avi ic, .slice yo avy yc, .slice no Nn nc, .slice ko N kc] 28 wr) ∧ Hid (paL (paN h) most ts (1 + (Nn : Int) + pv) = paL (paN h) most (ts.drop k) n)) (fun _ i _ => N - (intOf i).toNat)
  case atStart => exact ⟨1 + (Nn : Int) + pv, 0, by omega, by omega, Nat.zero_le _, by first | rfl | go_num, rfl, HX2, rfl⟩
  case round =>
    obtain ⟨n, k, hn0, hn1, hk, rfl, rfl, HX3, HS⟩ := hrel
    obtain ⟨x0, x1, x2, x3, x4, x5, x6, x7, x8, x9⟩ := nd_cells HX3.out.a
    by_cases hlt : k < N
    · have hl1 : (k : Int) < (N : Int) := by omega
      by_cases hm : n ≤ most
      · have hkt : k < ts.length := by rw [HNN.out]; exact hlt
        obtain ⟨b, off, hio, c, hc, hin⟩ : ∃ b off, ko = some ⟨b, off, none⟩ ∧ ∃ c : Fin 10 → Value, (∀ j : Fin 10, w.cell? ⟨b, off + k * 10 + j.1, none⟩ = some (c j)) ∧ InA w h ts[k] (ndV c) := by
          have hkr := HKR.out
          rw [HTS.out] at hkr
          obtain ⟨b, off, e, _, _, hr⟩ := hkr (by omega)
          obtain ⟨c, hc, hin⟩ := hr k hkt
          exact ⟨b, off, e, c, hc, hin⟩
        subst hio
        have cc : ∀ j : Fin 10, wr.cell? ⟨b, off + k * 10 + j.1, none⟩ = some (c j) := fun j => (HX3.out.below.cell (p := ⟨b, off + k * 10 + j.1, none⟩) (block_lt_of_cell (hc j))).trans (hc j)
        obtain ⟨y0, y1, y2, y3, y4, y5, y6, y7, y8, y9⟩ : wr.cell? ⟨b, off + k * 10, none⟩ = some (c 0) ∧ wr.cell? ⟨b, off + k * 10 + 1, none⟩ = some (c 1) ∧ wr.cell? ⟨b, off + k * 10 + 2, none⟩ = some (c 2) ∧ wr.cell? ⟨b, off + k * 10 + 3, none⟩ = some (c 3) ∧ wr.cell? ⟨b, off + k * 10 + 4, none⟩ = some (c 4) ∧ wr.cell? ⟨b, off + k * 10 + 5, none⟩ = some (c 5) ∧ wr.cell? ⟨b, off + k * 10 + 6, none⟩ = some (c 6) ∧ wr.cell? ⟨b, off + k * 10 + 7, none⟩ = some (c 7) ∧ wr.cell? ⟨b, off + k * 10 + 8, none⟩ = some (c 8) ∧ wr.cell? ⟨b, off + k * 10 + 9, none⟩ = some (c 9) := ⟨cc 0, cc 1, cc 2, cc 3, cc 4, cc 5, cc 6, cc 7, cc 8, cc 9⟩
        have HC : Hid (Calls Tryz.prog 16 #[.agg #[c 0, c 1, c 2, c 3, c 4, c 5, c 6, c 7, c 8, c 9], .int .i64 (most - n)] wr fun e w' => e = .returned (.int .i64 (paN h ts[k] (most - n))) ∧ (0 ≤ paN h ts[k] (most - n) ∧ paN h ts[k] (most - n) ≤ (most - n + 1) * 281474976710660) ∧ Below wr.heap.size wr w') := HIh.out ts[k] _ wr (most - n) (InN.low hin HX3.out.below) (by omega) (by omega)
        have HS2 : Hid (paL (paN h) most ts (1 + (Nn : Int) + pv) = paL (paN h) most (ts.drop (k + 1)) (n + paN h ts[k] (most - n))) := HS.out.trans (paL_up hkt hm)
        generalize paN h ts[k] (most - n) = p at *
        clear hc hin cc hkt
        go_wp2_with fail
        refine HC.out.mono ?_
        rintro e w4 ⟨rfl, ⟨hp0, hp1⟩, hb4⟩
        have HX4 := Hid.mk (HX3.out.keep hb4)
        have hpb : n + p ≤ (most + 1) * 281474976710660 := by omega
        clear hb4 HC y0 y1 y2 y3 y4 y5 y6 y7 y8 y9 x0 x1 x2 x3 x4 x5 x6 x7 x8 x9
        go_wp2_with fail
        go_roundw
        case rel => exact ⟨n + p, k + 1, by omega, hpb, hlt, by go_num, by go_num, HX4, HS2⟩
        case measure => simp [intOf]; omega
      · have hm1 : ¬ n ≤ most := hm
        have HF : Hid (R = n) := HSZ.out.trans (by rw [HS.out, paL_stop (by rw [HNN.out]; exact hlt) hm])
        go_wp2_with fail
        go_ret
        exact ⟨by rw [HF.out]; rfl, by rw [HF.out]; omega, HX3.out.below⟩
    · have hl1 : ¬ (k : Int) < (N : Int) := by omega
      have HF : Hid (R = n) := HSZ.out.trans (by rw [HS.out, List.drop_of_length_le (by rw [HNN.out]; omega)]; rfl)
      go_wp2_with fail
      go_ret
      exact ⟨by rw [HF.out]; rfl, by rw [HF.out]; omega, HX3.out.below⟩
theorem w_nodeParts : ∀ h, PaOk h
  | 0 => fun _ _ _ _ hA => hA.elim
  | h + 1 => pa_step h (w_nodeParts h)

set_option maxRecDepth 100000 in
set_option maxHeartbeats 1600000 in
theorem w_FitNode (h : Nat) (A : NT) (va : Value) (w : World) (hA : InA w h A va) : Calls Tryz.prog 8 #[va] w fun e w' => e = .returned (.bool (decide (paN h A 20000 ≤ 20000))) ∧ Below w.heap.size w w' := by
  obtain ⟨aop, aat, avk, atx, avn, avx, aio, ayo, ano, ako, avi, aic, avy, ayc, ann, anc, akn, akc, rfl⟩ := inA_shape hA
  obtain ⟨W1, hW1⟩ : ∃ W1, w.alloc (.cells #[.int .i64 aop, .int .i64 aat, .string atx, .int .i64 avk, .string avn, .string avx, .slice aio avi aic, .slice ayo avy ayc, .slice ano ann anc, .slice ako akn akc] 28) = W1 := ⟨_, rfl⟩
  have HX1 := Hid.mk (B1.new hW1)
  have HP := Hid.mk (w_nodeParts h A _ W1 20000 (hA.low HX1.out.below) (by omega) (by omega))
  generalize paN h A 20000 = p at *
  clear hA
  obtain ⟨x0, x1, x2, x3, x4, x5, x6, x7, x8, x9⟩ := nd_cells HX1.out.a
  go_enter Tryz.func8, Tryz.ntmps8
  go_wp2_with fail
  refine HP.out.mono ?_
  rintro e w2 ⟨rfl, hb, hb2⟩
  have HX2 := Hid.mk (HX1.out.keep hb2)
  clear hb hb2 x0 x1 x2 x3 x4 x5 x6 x7 x8 x9
  go_wp2_with fail
  go_ret
  exact ⟨rfl, HX2.out.below⟩
end Go.Proofs.YtdjleoglphgdgaaGreatDoor
