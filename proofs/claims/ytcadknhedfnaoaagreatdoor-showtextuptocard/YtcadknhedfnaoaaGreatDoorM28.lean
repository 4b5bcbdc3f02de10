import Derived.Test.YtcadknhedfnaoaaGreatDoorM23
import Derived.Test.YtcadknhedfnaoaaGreatDoorM25
import Derived.Test.YtcadknhedfnaoaaGreatDoorM27
import Derived.Test.YtcadknhedfnaoaaGreatDoorM11
namespace Go.Proofs.YtcadknhedfnaoaaGreatDoor
open Go.RowKit Go.Shelf Go.Sort
set_option linter.unusedVariables false
set_option linter.unusedSimpArgs false
attribute [local go_sem] Oper.semAt_some

def vt0 : VT := .mk 0 .empty .empty [] []
def nn0 : NT := .mk 0 0 .empty vt0 [] []
theorem inH_0 (w : World) (h : Nat) : InH w (h + 1) vt0 (.agg #[.int .i64 0, .string ⟨#[]⟩, .string ⟨#[]⟩, .slice none 0 0, .slice none 0 0]) :=
  ⟨none, 0, none, 0, rfl, by decide, by decide, Nat.zero_le _, Nat.zero_le _, Nat.le_refl _, Nat.le_refl _, fun k hk => (by cases hk), ⟨fun h => absurd h (by show ¬ 0 < 0; omega)⟩, fun h => absurd h (by show ¬ 0 < 0; omega)⟩
theorem VAt.up {w : World} {h : Nat} {A : VT} {g o : Nat} (hv : VAt w h A g o) : VAt w (h + 1) A g o := by
  obtain ⟨v0, v1, v2, v3, v4, c, hi⟩ := hv
  exact ⟨v0, v1, v2, v3, v4, c, hi.up⟩

set_option maxRecDepth 100000 in
set_option maxHeartbeats 3200000 in
theorem w_isZero (h : Nat) (V : VT) (g o : Nat) (w : World) (hV : VAt w h V g o) : Calls Tryz.prog 100 #[.pointer (some ⟨g, o, none⟩)] w fun e w' => e = .returned (.bool (sq V vt0)) ∧ Below w.heap.size w w' := by
  obtain ⟨W1, hW1⟩ : ∃ W1, w.alloc (.cells #[.int .i64 0, .string ⟨#[]⟩, .string ⟨#[]⟩, .slice none 0 0, .slice none 0 0] 25) = W1 := ⟨_, rfl⟩
  have HX := Hid.mk (B1.new hW1)
  have HC : Hid (Calls Tryz.prog 125 #[.pointer (some ⟨g, o, none⟩), .pointer (some ⟨w.heap.size, 0, none⟩)] W1 fun e w' => e = .returned (.bool (sq V vt0)) ∧ Below W1.heap.size W1 w') := w_alike (h + 1) V vt0 g o _ 0 W1 (hV.keep HX.out.below).up
    ⟨_, _, _, _, _, ⟨HX.out.ca (j := 0) rfl, HX.out.ca (j := 1) rfl, HX.out.ca (j := 2) rfl, HX.out.ca (j := 3) rfl, HX.out.ca (j := 4) rfl⟩, inH_0 W1 h⟩
  generalize sq V vt0 = r at *
  clear hV
  go_enter Tryz.func100, Tryz.ntmps100
  go_wp2_with fail
  refine HC.out.mono ?_
  rintro e w2 ⟨rfl, hb2⟩
  have HX2 := Hid.mk (HX.out.keep hb2)
  clear hb2
  go_wp2_with fail
  go_ret
  exact ⟨rfl, HX2.out.below⟩

theorem noneIff {A : NT} : noA A = noA nn0 ↔ A.op = 0 ∧ A.text = .empty ∧ A.value = vt0 ∧ A.names = [] ∧ A.kids = [] := by
  rw [noA_eq]
  constructor
  · rintro ⟨h1, h2, h3, h4, h5⟩
    refine ⟨h1, h2, h3, h4, ?_⟩
    have := noAs_len_eq h5
    exact List.eq_nil_of_length_eq_zero this
  · rintro ⟨h1, h2, h3, h4, h5⟩
    exact ⟨h1, h2, h3, h4, by rw [h5]; rfl⟩
theorem ne_bytes {x : ByteArray} (h : ¬ x = .empty) : x.toList.isEmpty = false ∧ (x.toList == []) = false ∧ ¬ x.toList = [] := by
  have h1 : ¬ x.toList = [] := fun e => h (by
    rw [Lib.toList_data] at e
    exact ByteArray.ext (Array.toList_inj.1 (by rw [e]; rfl)))
  refine ⟨?_, ?_, h1⟩
  · cases hx : x.toList with
    | nil => exact absurd hx h1
    | cons a l => rfl
  · rw [beq_eq_false_iff_ne]; exact h1

set_option maxRecDepth 100000 in
set_option maxHeartbeats 3200000 in
theorem w_isNone (h : Nat) (A : NT) (g o : Nat) (w : World) (hA : NAt w (h + 1) A g o) : Calls Tryz.prog 123 #[.pointer (some ⟨g, o, none⟩)] w fun e w' => e = .returned (.bool (sq (noA A) (noA nn0))) ∧ Below w.heap.size w w' := by
  obtain ⟨aio, aic, ayo, ayc, ano, anc, ako, akc, HA⟩ := hA.open_
  obtain ⟨R, HR⟩ : ∃ R, Hid (sq (noA A) (noA nn0) = R) := ⟨_, rfl⟩
  rw [HR.out]
  have HEq : Hid (noA A = noA nn0 ↔ A.op = 0 ∧ A.text = .empty ∧ A.value = vt0 ∧ A.names = [] ∧ A.kids = []) := noneIff
  have HV : Hid (Calls Tryz.prog 100 #[.pointer (some ⟨g, o + 3, none⟩)] w fun e w' => e = .returned (.bool (sq A.value vt0)) ∧ Below w.heap.size w w') := w_isZero (h + 1) _ _ _ w HA.val
  have c0 := HA.c0
  have c2 := HA.c2
  have HP := Hid.mk (And.intro HA.c8 HA.c9)
  clear HA hA
  obtain ⟨aop, aat, atx, aV, aN, aI⟩ := A
  simp only [NT.op, NT.text, NT.value, NT.names, NT.kids] at *
  by_cases hk : aop = 0
  rotate_left
  · have HT : Hid (R = false) := HR.out.symm.trans (sq_no (fun e => hk (HEq.out.1 e).1))
    have g1 : (aop == 0) = false := by rw [beq_eq_false_iff_ne]; exact hk
    go_enter Tryz.func123, Tryz.ntmps123
    go_wp2_with fail
    go_ret
    exact ⟨by rw [HT.out]; rfl, Below.refl _ _⟩
  subst hk
  by_cases hx : atx = .empty
  rotate_left
  · have HT : Hid (R = false) := HR.out.symm.trans (sq_no (fun e => hx (HEq.out.1 e).2.1))
    obtain ⟨g2, g3, g4⟩ := ne_bytes hx
    clear hx
    go_enter Tryz.func123, Tryz.ntmps123
    go_wp2_with fail
    go_ret
    exact ⟨by rw [HT.out]; rfl, Below.refl _ _⟩
  subst hx
  by_cases hv : aV = vt0
  rotate_left
  · have HT : Hid (R = false) := HR.out.symm.trans (sq_no (fun e => hv (HEq.out.1 e).2.2.1))
    rw [sq_no hv] at HV
    go_enter Tryz.func123, Tryz.ntmps123
    go_wp2_with fail
    refine HV.out.mono ?_
    rintro e w2 ⟨rfl, hb2⟩
    have c8 := (hb2.cell (p := ⟨g, o + 8, none⟩) (block_lt_of_cell HP.out.1)).trans HP.out.1
    have c9 := (hb2.cell (p := ⟨g, o + 9, none⟩) (block_lt_of_cell HP.out.2)).trans HP.out.2
    have HB2 := Hid.mk hb2
    clear hb2
    go_wp2_with fail
    go_ret
    exact ⟨by rw [HT.out]; rfl, HB2.out⟩
  rw [sq_iff.2 hv] at HV
  have HVV := Hid.mk hv
  clear hv
  by_cases hl : aN.length = 0
  rotate_left
  · have HT : Hid (R = false) := HR.out.symm.trans (sq_no (fun e => hl (by rw [(HEq.out.1 e).2.2.2.1]; rfl)))
    have g5 : ((aN.length : Int) == 0) = false := by rw [beq_eq_false_iff_ne]; omega
    go_enter Tryz.func123, Tryz.ntmps123
    go_wp2_with fail
    refine HV.out.mono ?_
    rintro e w2 ⟨rfl, hb2⟩
    have c8 := (hb2.cell (p := ⟨g, o + 8, none⟩) (block_lt_of_cell HP.out.1)).trans HP.out.1
    have c9 := (hb2.cell (p := ⟨g, o + 9, none⟩) (block_lt_of_cell HP.out.2)).trans HP.out.2
    have HB2 := Hid.mk hb2
    clear hb2
    go_wp2_with fail
    go_ret
    exact ⟨by rw [HT.out]; rfl, HB2.out⟩
  have HN : Hid (aN = []) := List.eq_nil_of_length_eq_zero hl
  rw [hl] at HP
  clear hl
  by_cases hl : aI.length = 0
  rotate_left
  · have HT : Hid (R = false) := HR.out.symm.trans (sq_no (fun e => hl (by rw [(HEq.out.1 e).2.2.2.2]; rfl)))
    have g5 : ((aI.length : Int) == 0) = false := by rw [beq_eq_false_iff_ne]; omega
    go_enter Tryz.func123, Tryz.ntmps123
    go_wp2_with fail
    refine HV.out.mono ?_
    rintro e w2 ⟨rfl, hb2⟩
    have c8 := (hb2.cell (p := ⟨g, o + 8, none⟩) (block_lt_of_cell HP.out.1)).trans HP.out.1
    have c9 := (hb2.cell (p := ⟨g, o + 9, none⟩) (block_lt_of_cell HP.out.2)).trans HP.out.2
    have HB2 := Hid.mk hb2
    clear hb2
    go_wp2_with fail
    go_ret
    exact ⟨by rw [HT.out]; rfl, HB2.out⟩
  have HI : Hid (aI = []) := List.eq_nil_of_length_eq_zero hl
  rw [hl] at HP
  clear hl
  have HT : Hid (R = true) := HR.out.symm.trans (sq_iff.2 (HEq.out.2 ⟨by first | rfl | trivial, by first | rfl | trivial, HVV.out, HN.out, HI.out⟩))
  go_enter Tryz.func123, Tryz.ntmps123
  go_wp2_with fail
  refine HV.out.mono ?_
  rintro e w2 ⟨rfl, hb2⟩
  have c8 := (hb2.cell (p := ⟨g, o + 8, none⟩) (block_lt_of_cell HP.out.1)).trans HP.out.1
  have c9 := (hb2.cell (p := ⟨g, o + 9, none⟩) (block_lt_of_cell HP.out.2)).trans HP.out.2
  have HB2 := Hid.mk hb2
  clear hb2
  go_wp2_with fail
  go_ret
  exact ⟨by rw [HT.out]; rfl, HB2.out⟩

/-- has a part of an operation a name? -/
def nmO (op : Int) : Bool := op == 6 || op == 35 || op == 29 || op == 30 || op == 31 || op == 32 || op == 33 || op == 34
def ttB (op : Int) (tx : ByteArray) : Bool := if nmO op then plainW tx.data.toList else tx.data.toList.isEmpty
theorem empty_l {x : ByteArray} : x.data.toList.isEmpty = true ↔ x = .empty := by
  constructor
  · intro h
    exact ByteArray.ext (Array.toList_inj.1 (by rw [List.isEmpty_iff.1 h]; rfl))
  · rintro rfl; rfl

set_option maxRecDepth 100000 in
set_option maxHeartbeats 3200000 in
theorem w_textFits (h : Nat) (A : NT) (g o : Nat) (w : World) (hA : NAt w (h + 1) A g o) : Calls Tryz.prog 61 #[.pointer (some ⟨g, o, none⟩)] w fun e w' => e = .returned (.bool (ttB A.op A.text)) ∧ Below w.heap.size w w' := by
  obtain ⟨aio, aic, ayo, ayc, ano, anc, ako, akc, HA⟩ := hA.open_
  have HPl : Hid (Calls Tryz.prog 99 #[.string A.text] w fun e w' => e = .returned (.bool (plainW A.text.data.toList)) ∧ w' = w) := w_Plain A.text w (Nat.le_trans HA.tx (by decide))
  have c0 := HA.c0
  have c2 := HA.c2
  clear HA hA
  obtain ⟨aop, aat, atx, aV, aN, aI⟩ := A
  simp only [NT.op, NT.text] at *
  obtain ⟨R, HR⟩ : ∃ R, Hid (ttB aop atx = R) := ⟨_, rfl⟩
  rw [HR.out]
  by_cases h6 : aop = 6
  · subst h6
    have HT : Hid (R = plainW atx.data.toList) := HR.out.symm.trans (by unfold ttB; rw [if_pos (by decide)])
    generalize plainW atx.data.toList = r at *
    go_enter Tryz.func61, Tryz.ntmps61
    go_wp2_with fail
    refine HPl.out.mono ?_
    rintro e w2 ⟨rfl, hw2⟩
    obtain rfl := hw2.symm
    go_wp2_with fail
    go_ret
    exact ⟨by rw [HT.out]; rfl, Below.refl _ _⟩
  have b6 : (aop == 6) = false := by rw [beq_eq_false_iff_ne]; exact h6
  by_cases h35 : aop = 35
  · subst h35
    have HT : Hid (R = plainW atx.data.toList) := HR.out.symm.trans (by unfold ttB; rw [if_pos (by decide)])
    generalize plainW atx.data.toList = r at *
    go_enter Tryz.func61, Tryz.ntmps61
    go_wp2_with fail
    refine HPl.out.mono ?_
    rintro e w2 ⟨rfl, hw2⟩
    obtain rfl := hw2.symm
    go_wp2_with fail
    go_ret
    exact ⟨by rw [HT.out]; rfl, Below.refl _ _⟩
  have b35 : (aop == 35) = false := by rw [beq_eq_false_iff_ne]; exact h35
  by_cases h29 : aop = 29
  · subst h29
    have HT : Hid (R = plainW atx.data.toList) := HR.out.symm.trans (by unfold ttB; rw [if_pos (by decide)])
    generalize plainW atx.data.toList = r at *
    go_enter Tryz.func61, Tryz.ntmps61
    go_wp2_with fail
    refine HPl.out.mono ?_
    rintro e w2 ⟨rfl, hw2⟩
    obtain rfl := hw2.symm
    go_wp2_with fail
    go_ret
    exact ⟨by rw [HT.out]; rfl, Below.refl _ _⟩
  have b29 : (aop == 29) = false := by rw [beq_eq_false_iff_ne]; exact h29
  by_cases h30 : aop = 30
  · subst h30
    have HT : Hid (R = plainW atx.data.toList) := HR.out.symm.trans (by unfold ttB; rw [if_pos (by decide)])
    generalize plainW atx.data.toList = r at *
    go_enter Tryz.func61, Tryz.ntmps61
    go_wp2_with fail
    refine HPl.out.mono ?_
    rintro e w2 ⟨rfl, hw2⟩
    obtain rfl := hw2.symm
    go_wp2_with fail
    go_ret
    exact ⟨by rw [HT.out]; rfl, Below.refl _ _⟩
  have b30 : (aop == 30) = false := by rw [beq_eq_false_iff_ne]; exact h30
  by_cases h31 : aop = 31
  · subst h31
    have HT : Hid (R = plainW atx.data.toList) := HR.out.symm.trans (by unfold ttB; rw [if_pos (by decide)])
    generalize plainW atx.data.toList = r at *
    go_enter Tryz.func61, Tryz.ntmps61
    go_wp2_with fail
    refine HPl.out.mono ?_
    rintro e w2 ⟨rfl, hw2⟩
    obtain rfl := hw2.symm
    go_wp2_with fail
    go_ret
    exact ⟨by rw [HT.out]; rfl, Below.refl _ _⟩
  have b31 : (aop == 31) = false := by rw [beq_eq_false_iff_ne]; exact h31
  by_cases h32 : aop = 32
  · subst h32
    have HT : Hid (R = plainW atx.data.toList) := HR.out.symm.trans (by unfold ttB; rw [if_pos (by decide)])
    generalize plainW atx.data.toList = r at *
    go_enter Tryz.func61, Tryz.ntmps61
    go_wp2_with fail
    refine HPl.out.mono ?_
    rintro e w2 ⟨rfl, hw2⟩
    obtain rfl := hw2.symm
    go_wp2_with fail
    go_ret
    exact ⟨by rw [HT.out]; rfl, Below.refl _ _⟩
  have b32 : (aop == 32) = false := by rw [beq_eq_false_iff_ne]; exact h32
  by_cases h33 : aop = 33
  · subst h33
    have HT : Hid (R = plainW atx.data.toList) := HR.out.symm.trans (by unfold ttB; rw [if_pos (by decide)])
    generalize plainW atx.data.toList = r at *
    go_enter Tryz.func61, Tryz.ntmps61
    go_wp2_with fail
    refine HPl.out.mono ?_
    rintro e w2 ⟨rfl, hw2⟩
    obtain rfl := hw2.symm
    go_wp2_with fail
    go_ret
    exact ⟨by rw [HT.out]; rfl, Below.refl _ _⟩
  have b33 : (aop == 33) = false := by rw [beq_eq_false_iff_ne]; exact h33
  by_cases h34 : aop = 34
  · subst h34
    have HT : Hid (R = plainW atx.data.toList) := HR.out.symm.trans (by unfold ttB; rw [if_pos (by decide)])
    generalize plainW atx.data.toList = r at *
    go_enter Tryz.func61, Tryz.ntmps61
    go_wp2_with fail
    refine HPl.out.mono ?_
    rintro e w2 ⟨rfl, hw2⟩
    obtain rfl := hw2.symm
    go_wp2_with fail
    go_ret
    exact ⟨by rw [HT.out]; rfl, Below.refl _ _⟩
  have b34 : (aop == 34) = false := by rw [beq_eq_false_iff_ne]; exact h34
  have HD : Hid (R = atx.data.toList.isEmpty) := HR.out.symm.trans (by unfold ttB nmO; rw [b6, b35, b29, b30, b31, b32, b33, b34]; rfl)
  clear h6 h35 h29 h30 h31 h32 h33 h34
  by_cases hx : atx = .empty
  · subst hx
    have HT : Hid (R = true) := HD.out
    clear HD
    go_enter Tryz.func61, Tryz.ntmps61
    go_wp2_with fail
    go_ret
    exact ⟨by rw [HT.out]; rfl, Below.refl _ _⟩
  · have HT : Hid (R = false) := HD.out.trans (by cases hb : atx.data.toList.isEmpty with
      | true => exact absurd (empty_l.1 hb) hx
      | false => rfl)
    obtain ⟨g2, g3, g4⟩ := ne_bytes hx
    clear hx HD
    go_enter Tryz.func61, Tryz.ntmps61
    go_wp2_with fail
    go_ret
    exact ⟨by rw [HT.out]; rfl, Below.refl _ _⟩
end Go.Proofs.YtcadknhedfnaoaaGreatDoor
namespace Go.Proofs.YtcadknhedfnaoaaGreatDoor
open Go.RowKit Go.Shelf Go.Sort
set_option linter.unusedVariables false
set_option linter.unusedSimpArgs false

/-- the table of operations: sign, how loose, how loose the left and the right may be -/
def pTab : List (List UInt8 × Nat × Nat × Nat) := [([], 0, 0, 0), ([], 0, 0, 0), ([], 0, 0, 0), ([], 0, 0, 0), ([], 0, 0, 0), ([], 0, 0, 0), ([], 0, 0, 0), ([], 0, 0, 0), ([], 0, 0, 0), ([], 0, 0, 0), ([], 0, 0, 0), ([], 0, 0, 0), ([32, 124, 32], 0, 1, 0), ([44, 32], 1, 1, 2), ([32, 43, 32], 7, 7, 8), ([32, 45, 32], 7, 7, 8), ([32, 42, 32], 8, 8, 9), ([32, 47, 32], 8, 8, 9), ([32, 37, 32], 8, 8, 9), ([32, 61, 61, 32], 6, 7, 7), ([32, 33, 61, 32], 6, 7, 7), ([32, 60, 32], 6, 7, 7), ([32, 60, 61, 32], 6, 7, 7), ([32, 62, 32], 6, 7, 7), ([32, 62, 61, 32], 6, 7, 7), ([32, 97, 110, 100, 32], 5, 5, 6), ([32, 111, 114, 32], 4, 4, 5), ([32, 47, 47, 32], 3, 4, 3), ([], 0, 0, 0), ([], 0, 0, 0), ([], 0, 0, 0), ([], 0, 0, 0), ([], 0, 0, 0), ([], 0, 0, 0), ([], 0, 0, 0), ([], 0, 0, 0), ([32, 61, 32], 2, 3, 3), ([32, 124, 61, 32], 2, 3, 3), ([32, 43, 61, 32], 2, 3, 3), ([32, 45, 61, 32], 2, 3, 3), ([32, 42, 61, 32], 2, 3, 3), ([32, 47, 61, 32], 2, 3, 3), ([32, 37, 61, 32], 2, 3, 3), ([32, 47, 47, 61, 32], 2, 3, 3)]
def pRow (op : Int) : List UInt8 × Nat × Nat × Nat := if op < 0 then ([], 0, 0, 0) else pTab.getD op.toNat ([], 0, 0, 0)
def pSg (op : Int) : List UInt8 := (pRow op).1
/-- how loose a part is -/
def pLo (A : NT) : Int := if A.op = 29 ∨ A.op = 32 ∨ A.op = 34 then 0 else if A.op = 11 then 9 else if A.op = 10 then 11 - (A.kids.length : Int) else if pSg A.op ≠ [] then ((pRow A.op).2.1 : Int) else 10
def pBr (b : Bool) (x : List UInt8) : List UInt8 := if b then [40] ++ (x ++ [41]) else x
def pQt (s : ByteArray) : List UInt8 := 34 :: (qb (runes s.data.toList) ++ [34])
def pPc (s : ByteArray) : List UInt8 := qb (runes s.data.toList)
noncomputable def pKy (s : ByteArray) : List UInt8 := if okB s.data.toList = false then [] else if namedB s.data.toList = true then s.data.toList else pQt s
def pCn (V : VT) : List UInt8 := if V.kind = 0 then [110, 117, 108, 108] else if V.kind = 1 then [102, 97, 108, 115, 101] else if V.kind = 2 then [116, 114, 117, 101] else if V.kind = 3 then V.num.data.toList else pQt V.text
def pTx (k : NT) : Bool := decide (k.op = 2) && decide (k.value.kind = 4)
def pRw (f : Nat → List UInt8) (n : Nat) : List UInt8 := (List.range n).flatMap fun i => (if 0 < i then [59, 32] else []) ++ f i
/-- a part's text where it may be so loose -/
def pHd (t : List UInt8) (k : NT) (n : Int) : List UInt8 := pBr (decide (pLo k < n)) t
def pBs (t : List UInt8) (k : NT) : List UInt8 := pHd t k (if k.op = 2 ∧ k.value.kind = 3 then 11 else 10)
def pEn (t : List UInt8) (k : NT) : List UInt8 := if k.op = 0 then [] else t
noncomputable def pKe (t : List UInt8) (k : NT) : List UInt8 := if pTx k = true then pKy k.value.text else if k.op = 3 then t else pHd t k 11
def pNm (ns : List ByteArray) : List UInt8 := Lib.join (ns.map (·.data.toList)) [59, 32]
/-- the texts of a part by its kind: K: the kids; t: their texts -/
def sJoin (K : Nat → NT) (t : Nat → List UInt8) (n : Nat) : List UInt8 := [34] ++ (((List.range n).flatMap fun i => if i % 2 = 0 then pPc (K i).value.text else [92, 40] ++ (t i ++ [41])) ++ [34])
def sList (t : Nat → List UInt8) (n : Nat) : List UInt8 := [91] ++ (pRw t n ++ [93])
noncomputable def sRecord (K : Nat → NT) (t : Nat → List UInt8) (n : Nat) : List UInt8 := [123] ++ (((List.range n).flatMap fun i => (if 0 < i then [44, 32] else []) ++ (pKe (t (2 * i)) (K (2 * i)) ++ ([58, 32] ++ pHd (t (2 * i + 1)) (K (2 * i + 1)) 3))) ++ [125])
def sVar (op : Int) (x : ByteArray) : List UInt8 := (if op = 35 then [98, 114, 101, 97, 107, 32] else []) ++ ([36] ++ x.data.toList)
noncomputable def sIndex (K : Nat → NT) (t : Nat → List UInt8) : List UInt8 := pBs (t 0) (K 0) ++ (if pTx (K 1) = true ∧ namedB (K 1).value.text.data.toList = true then (if (K 0).op = 1 then [] else [46]) ++ (K 1).value.text.data.toList else [91] ++ (t 1 ++ [93]))
def sSlice (K : Nat → NT) (t : Nat → List UInt8) : List UInt8 := pBs (t 0) (K 0) ++ ([91] ++ (pEn (t 1) (K 1) ++ ([58] ++ (pEn (t 2) (K 2) ++ [93]))))
def sEach (K : Nat → NT) (t : Nat → List UInt8) : List UInt8 := pBs (t 0) (K 0) ++ [91, 93]
def sTry (K : Nat → NT) (t : Nat → List UInt8) (n : Nat) : List UInt8 := if n = 1 then pBs (t 0) (K 0) ++ [63] else [116, 114, 121, 32] ++ (pHd (t 0) (K 0) 10 ++ ([32, 99, 97, 116, 99, 104, 32] ++ pHd (t 1) (K 1) 10))
def sNeg (K : Nat → NT) (t : Nat → List UInt8) : List UInt8 := [45] ++ ((if (K 0).op = 11 then [32] else []) ++ pHd (t 0) (K 0) 9)
def sIf (t : Nat → List UInt8) : List UInt8 := [105, 102, 32] ++ (t 0 ++ ([32, 116, 104, 101, 110, 32] ++ (t 1 ++ ([32, 101, 108, 115, 101, 32] ++ (t 2 ++ [32, 101, 110, 100])))))
def sSrc (K : Nat → NT) (t : Nat → List UInt8) (x : ByteArray) : List UInt8 := pHd (t 0) (K 0) 10 ++ ([32, 97, 115, 32, 36] ++ (x.data.toList ++ [32]))
def sBind (K : Nat → NT) (t : Nat → List UInt8) (x : ByteArray) : List UInt8 := sSrc K t x ++ ([124, 32] ++ t 1)
def sLoop (op : Int) (K : Nat → NT) (t : Nat → List UInt8) (x : ByteArray) (n : Nat) : List UInt8 := (if op = 31 then [102, 111, 114, 101, 97, 99, 104, 32] else [114, 101, 100, 117, 99, 101, 32]) ++ (sSrc K t x ++ ([40] ++ (pRw (fun i => t (i + 1)) (n - 1) ++ [41])))
def sDef (t : Nat → List UInt8) (x : ByteArray) (ns : List ByteArray) : List UInt8 := ([100, 101, 102, 32] ++ x.data.toList) ++ ((if ns.length = 0 then [] else [40] ++ (pNm ns ++ [41])) ++ ([58, 32] ++ pRw t 2))
def sCall (t : Nat → List UInt8) (x : ByteArray) (n : Nat) : List UInt8 := x.data.toList ++ (if n = 0 then [] else [40] ++ (pRw t n ++ [41]))
def sLabel (t : Nat → List UInt8) (x : ByteArray) : List UInt8 := ([108, 97, 98, 101, 108, 32, 36] ++ (x.data.toList ++ [32, 124, 32])) ++ t 0
def sOp (op : Int) (K : Nat → NT) (t : Nat → List UInt8) : List UInt8 := pHd (t 0) (K 0) ((pRow op).2.2.1 : Int) ++ (pSg op ++ pHd (t 1) (K 1) ((pRow op).2.2.2 : Int))
/-- the text of a filter -/
noncomputable def shT : Nat → NT → List UInt8
  | 0, _ => []
  | h + 1, A =>
    let K := fun i => A.kids.getD i nn0
    let t := fun i => shT h (A.kids.getD i nn0)
    if A.op = 1 then [46] else if A.op = 2 then pCn A.value else if A.op = 3 then sJoin K t A.kids.length else if A.op = 4 then sList t A.kids.length
    else if A.op = 5 then sRecord K t (A.kids.length / 2) else if A.op = 6 ∨ A.op = 35 then sVar A.op A.text else if A.op = 7 then sIndex K t else if A.op = 8 then sSlice K t
    else if A.op = 9 then sEach K t else if A.op = 10 then sTry K t A.kids.length else if A.op = 11 then sNeg K t else if A.op = 28 then sIf t else if A.op = 29 then sBind K t A.text
    else if A.op = 30 ∨ A.op = 31 then sLoop A.op K t A.text A.kids.length else if A.op = 32 then sDef t A.text A.names else if A.op = 33 then sCall t A.text A.kids.length
    else if A.op = 34 then sLabel t A.text else sOp A.op K t
theorem shT_up (h : Nat) (A : NT) : shT (h + 1) A = (
    let K := fun i => A.kids.getD i nn0
    let t := fun i => shT h (A.kids.getD i nn0)
    if A.op = 1 then [46] else if A.op = 2 then pCn A.value else if A.op = 3 then sJoin K t A.kids.length else if A.op = 4 then sList t A.kids.length
    else if A.op = 5 then sRecord K t (A.kids.length / 2) else if A.op = 6 ∨ A.op = 35 then sVar A.op A.text else if A.op = 7 then sIndex K t else if A.op = 8 then sSlice K t
    else if A.op = 9 then sEach K t else if A.op = 10 then sTry K t A.kids.length else if A.op = 11 then sNeg K t else if A.op = 28 then sIf t else if A.op = 29 then sBind K t A.text
    else if A.op = 30 ∨ A.op = 31 then sLoop A.op K t A.text A.kids.length else if A.op = 32 then sDef t A.text A.names else if A.op = 33 then sCall t A.text A.kids.length
    else if A.op = 34 then sLabel t A.text else sOp A.op K t) := by rw [shT]
theorem qb_pos (l : List Nat) : 0 ≤ (qb l).length := Nat.zero_le _
end Go.Proofs.YtcadknhedfnaoaaGreatDoor
