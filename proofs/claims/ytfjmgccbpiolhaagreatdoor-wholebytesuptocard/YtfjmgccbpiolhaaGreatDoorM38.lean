import Derived.Test.YtfjmgccbpiolhaaGreatDoorM37
import Derived.Test.YtfjmgccbpiolhaaGreatDoorM13
namespace Go.Proofs.YtfjmgccbpiolhaaGreatDoor
open Go.RowKit Go.Shelf
set_option linter.unusedVariables false
set_option linter.unusedSimpArgs false
attribute [local go_sem] Oper.semAt_some

def bT (l : List UInt8) : ByteArray := ⟨l.toArray⟩
def leafL (t : Tok) (p : Nat) : Rd VT :=
  if t.kind = 7 then .ok (.mk 0 .empty .empty [] []) p
  else if t.kind = 8 then .ok (.mk 1 .empty .empty [] []) p
  else if t.kind = 9 then .ok (.mk 2 .empty .empty [] []) p
  else if t.kind = 10 then .ok (.mk 3 (bT t.text) .empty [] []) p
  else if t.kind = 11 then .ok (.mk 4 .empty (bT t.text) [] []) p
  else .bad 51 t.at_
def aPt (val : Tok → Nat → Rd VT) (xs : List VT) (t : Tok) (p : Nat) : Rd (List VT) := match val t p with
  | .ok v q => .ok (xs ++ [v]) q
  | .bad e q => .bad e q
def oPt (l : List UInt8) (val : Tok → Nat → Rd VT) (fs : List (List UInt8 × VT)) (t : Tok) (p : Nat) : Rd (List (List UInt8 × VT)) :=
  if t.kind = 11 then
    (if fs.any (fun f => f.1 == t.text) = true then .bad 53 t.at_ else
      match mustL l p with
      | .bad e q => .bad e q
      | .ok c p1 => if c.kind = 5 then
          (match mustL l p1 with
          | .bad e q => .bad e q
          | .ok t2 p2 => match val t2 p2 with
            | .bad e q => .bad e q
            | .ok v p3 => .ok (fs ++ [(t.text, v)]) p3) else .bad 51 c.at_)
  else .bad 51 t.at_
def arrL (l : List UInt8) (val : Tok → Nat → Rd VT) (p : Nat) : Rd VT := match rowL l 4 (aPt val) [] p with
  | .ok xs q => .ok (.mk 5 .empty .empty xs []) q
  | .bad e q => .bad e q
theorem inF_leaf (lo : Nat) (W : World) (h : Nat) (k : Int) (n t : ByteArray) (hn : n.size ≤ 140737488355328) (ht : t.size ≤ 140737488355328) : InF lo W (h + 1) (.mk k n t [] []) (.agg #[.int .i64 k, .string n, .string t, .slice none 0 0, .slice none 0 0]) :=
  ⟨none, 0, none, 0, rfl, hn, ht, Nat.zero_le _, Nat.zero_le _, Nat.le_refl _, Nat.le_refl _, fun k hk => (by cases hk), fun h => absurd h (by show ¬ 0 < 0; omega), fun h => absurd h (by show ¬ 0 < 0; omega)⟩
theorem vbox_cells {w : World} {B : Nat} {t : TypeId} {y0 y1 y2 y3 y4 : Value} (h : w.heap[B]? = some (.cells #[y0, y1, y2, y3, y4] t (0, 0))) :
    w.cell? ⟨B, 0, none⟩ = some y0 ∧ w.cell? ⟨B, 1, none⟩ = some y1 ∧ w.cell? ⟨B, 2, none⟩ = some y2 ∧ w.cell? ⟨B, 3, none⟩ = some y3 ∧ w.cell? ⟨B, 4, none⟩ = some y4 ∧ w.frozen? ⟨B, 0, none⟩ = false ∧ w.frozen? ⟨B, 1, none⟩ = false ∧ w.frozen? ⟨B, 2, none⟩ = false ∧ w.frozen? ⟨B, 3, none⟩ = false ∧ w.frozen? ⟨B, 4, none⟩ = false := by
  refine ⟨?_, ?_, ?_, ?_, ?_, frozen_rowT h, frozen_rowT h, frozen_rowT h, frozen_rowT h, frozen_rowT h⟩ <;> rw [cell_of_row _ _ _ _ _ _ h] <;> rfl
def valAt (d : Nat) (ra ro : Rd VT) (t : Tok) (p : Nat) : Rd VT :=
  if t.kind = 3 then (if d ≤ 64 then ra else .bad 52 t.at_) else if t.kind = 1 then (if d ≤ 64 then ro else .bad 52 t.at_) else leafL t p
def VlR (I : Nat) (s : ByteArray) (h : Nat) (w : World) (r : Rd VT) (e : Ending) (w' : World) : Prop := RdR I s w (fun T u v => InF w.heap.size u (h + 1) T v) r e w'

set_option maxRecDepth 100000 in
set_option maxHeartbeats 3200000 in
theorem w_value_leaf (s : ByteArray) (I d h : Nat) (t : Tok) (p : Nat) (w : World) (hI : InAt w I s p) (ht : t.text.length ≤ 140737488355328) (h3 : t.kind ≠ 3) (h1 : t.kind ≠ 1) :
    Calls Tryz.prog 96 #[.pointer (some ⟨I, 0, none⟩), tokV t, .int .i64 (d : Int)] w fun e w' => VlR I s h w (leafL t p) e w' := by
  obtain ⟨kd, pa, fi, tx, er⟩ := t
  unfold tokV
  dsimp only at *
  have hIl := hI.lt
  have HI := Hid.mk hI
  obtain ⟨R, hR⟩ : ∃ R, leafL ⟨kd, pa, fi, tx, er⟩ p = R := ⟨_, rfl⟩
  rw [hR]
  unfold leafL at hR
  dsimp only at hR
  have b3 : ((kd : Int) == 3) = false := by rw [beq_eq_false_iff_ne]; omega
  have b1 : ((kd : Int) == 1) = false := by rw [beq_eq_false_iff_ne]; omega
  have HT := Hid.mk ht
  clear hI ht
  by_cases h7 : kd = 7
  · subst h7
    rw [if_pos rfl] at hR
    have HR := Hid.mk hR
    clear hR
    go_enter Tryz.func96, Tryz.ntmps96
    go_wp2_with fail
    refine bodyPost_ret (v := .agg #[.int .i64 0, .string ⟨#[]⟩, .string ⟨#[]⟩, .slice none 0 0, .slice none 0 0]) (by simp [results, Tryz.results96, go_sem]) rfl ?_
    rw [← HR.out]
    exact ⟨But.of ((below1 w _).alloc (by simp) _), ⟨_, rfl, inF_leaf _ _ _ 0 .empty .empty (by decide) (by decide)⟩, (HI.out.alloc _).alloc _⟩
  have b7 : ((kd : Int) == 7) = false := by rw [beq_eq_false_iff_ne]; omega
  by_cases h8 : kd = 8
  · subst h8
    rw [if_neg (by omega), if_pos rfl] at hR
    have HR := Hid.mk hR
    clear hR
    go_enter Tryz.func96, Tryz.ntmps96
    go_wp2_with fail
    refine bodyPost_ret (v := .agg #[.int .i64 1, .string ⟨#[]⟩, .string ⟨#[]⟩, .slice none 0 0, .slice none 0 0]) (by simp [results, Tryz.results96, go_sem]) rfl ?_
    rw [← HR.out]
    exact ⟨But.of ((below1 w _).alloc (by simp) _), ⟨_, rfl, inF_leaf _ _ _ 1 .empty .empty (by decide) (by decide)⟩, (HI.out.alloc _).alloc _⟩
  have b8 : ((kd : Int) == 8) = false := by rw [beq_eq_false_iff_ne]; omega
  by_cases h9 : kd = 9
  · subst h9
    rw [if_neg (by omega), if_neg (by omega), if_pos rfl] at hR
    have HR := Hid.mk hR
    clear hR
    go_enter Tryz.func96, Tryz.ntmps96
    go_wp2_with fail
    refine bodyPost_ret (v := .agg #[.int .i64 2, .string ⟨#[]⟩, .string ⟨#[]⟩, .slice none 0 0, .slice none 0 0]) (by simp [results, Tryz.results96, go_sem]) rfl ?_
    rw [← HR.out]
    exact ⟨But.of ((below1 w _).alloc (by simp) _), ⟨_, rfl, inF_leaf _ _ _ 2 .empty .empty (by decide) (by decide)⟩, (HI.out.alloc _).alloc _⟩
  have b9 : ((kd : Int) == 9) = false := by rw [beq_eq_false_iff_ne]; omega
  by_cases h10 : kd = 10
  · subst h10
    rw [if_neg (by omega), if_neg (by omega), if_neg (by omega), if_pos rfl] at hR
    have HR := Hid.mk hR
    clear hR
    go_enter Tryz.func96, Tryz.ntmps96
    go_wp2_with fail
    refine bodyPost_ret (v := .agg #[.int .i64 3, .string ⟨tx.toArray⟩, .string ⟨#[]⟩, .slice none 0 0, .slice none 0 0]) (by simp [results, Tryz.results96, go_sem]) rfl ?_
    rw [← HR.out]
    exact ⟨But.of ((below1 w _).alloc (by simp) _), ⟨_, rfl, inF_leaf _ _ _ 3 (bT tx) .empty (by show tx.toArray.size ≤ _; have := HT.out; simpa using this) (by decide)⟩, (HI.out.alloc _).alloc _⟩
  have b10 : ((kd : Int) == 10) = false := by rw [beq_eq_false_iff_ne]; omega
  by_cases h11 : kd = 11
  · subst h11
    rw [if_neg (by omega), if_neg (by omega), if_neg (by omega), if_neg (by omega), if_pos rfl] at hR
    have HR := Hid.mk hR
    clear hR
    go_enter Tryz.func96, Tryz.ntmps96
    go_wp2_with fail
    refine bodyPost_ret (v := .agg #[.int .i64 4, .string ⟨#[]⟩, .string ⟨tx.toArray⟩, .slice none 0 0, .slice none 0 0]) (by simp [results, Tryz.results96, go_sem]) rfl ?_
    rw [← HR.out]
    exact ⟨But.of ((below1 w _).alloc (by simp) _), ⟨_, rfl, inF_leaf _ _ _ 4 .empty (bT tx) (by decide) (by show tx.toArray.size ≤ _; have := HT.out; simpa using this)⟩, (HI.out.alloc _).alloc _⟩
  have b11 : ((kd : Int) == 11) = false := by rw [beq_eq_false_iff_ne]; omega
  rw [if_neg h7, if_neg h8, if_neg h9, if_neg h10, if_neg h11] at hR
  have HR := Hid.mk hR
  clear hR
  go_enter Tryz.func96, Tryz.ntmps96
  go_wp2_with fail
  refine ⟨rfl, ?_⟩
  rw [← HR.out]
  exact ⟨But.of ((below1 w _).alloc (by simp) _), rfl⟩
end Go.Proofs.YtfjmgccbpiolhaaGreatDoor
namespace Go.Proofs.YtfjmgccbpiolhaaGreatDoor
open Go.RowKit Go.Shelf
set_option linter.unusedVariables false
set_option linter.unusedSimpArgs false
attribute [local go_sem] Oper.semAt_some

theorem rbox_set5 (w : World) (B : Nat) (t : TypeId) (y0 y1 y2 y3 y4 a0 a1 a2 a3 a4 : Value) (h : w.heap[B]? = some (.cells #[y0, y1, y2, y3, y4] t (0, 0))) (wz : World) (hz : wz = ((((w.setCell ⟨B, 0, none⟩ a0).setCell ⟨B, 1, none⟩ a1).setCell ⟨B, 2, none⟩ a2).setCell ⟨B, 3, none⟩ a3).setCell ⟨B, 4, none⟩ a4) :
    wz.heap[B]? = some (.cells #[a0, a1, a2, a3, a4] t (0, 0)) ∧ (∀ b, b ≠ B → wz.heap[b]? = w.heap[b]?) ∧ wz.heap.size = w.heap.size := by
  subst hz
  refine ⟨rset (i := 4) a4 (rset (i := 3) a3 (rset (i := 2) a2 (rset (i := 1) a1 (rset (i := 0) a0 h)))), fun b hb => ?_, by simp⟩
  rw [Below.heap_setCell _ _ _ _ hb, Below.heap_setCell _ _ _ _ hb, Below.heap_setCell _ _ _ _ hb, Below.heap_setCell _ _ _ _ hb, Below.heap_setCell _ _ _ _ hb]

set_option maxRecDepth 100000 in
set_option maxHeartbeats 3200000 in
theorem w_value_arr (s : ByteArray) (I d h : Nat) (hd : d ≤ 64) (t : Tok) (h3 : t.kind = 3) (p : Nat) (w : World) (hI : InAt w I s p) (r : Rd VT) (HA : ∀ u, InAt u I s p → Below w.heap.size w u → Calls Tryz.prog 124 #[.pointer (some ⟨I, 0, none⟩), .int .i64 (d : Int)] u fun e w' => VlR I s h u r e w') :
    Calls Tryz.prog 96 #[.pointer (some ⟨I, 0, none⟩), tokV t, .int .i64 (d : Int)] w fun e w' => VlR I s h w r e w' := by
  have HMb : Hid (∀ u, Calls Tryz.prog 123 #[.int .i64 (d : Int), tokV t] u fun e w' => Below u.heap.size u w' ∧ e = .returned (.tuple #[])) := fun u => (w_mayBe d (by omega) t u).mono (by
    rintro e w' ⟨h1, ⟨_, h2⟩ | ⟨h2, _⟩⟩
    · exact ⟨h1, h2⟩
    · omega)
  obtain ⟨kd, pa, fi, tx, er⟩ := t
  unfold tokV at *
  dsimp only at *
  subst h3
  have hIl := hI.lt
  have HI := Hid.mk hI
  have HAr := Hid.mk HA
  clear hI HA
  go_enter Tryz.func96, Tryz.ntmps96
  go_wp2_with fail
  refine (HMb.out _).mono ?_
  rintro e w1 ⟨hb1, rfl⟩
  obtain ⟨W0, hW0⟩ : ∃ W0, (w.alloc (.cells #[.int .i64 3, .int .i64 (pa : Int), .int .i64 (fi : Int), .string ⟨tx.toArray⟩] 126)).alloc (.cells #[.int .i64 0, .string ⟨#[]⟩, .string ⟨#[]⟩, .slice none 0 0, .slice none 0 0] 49) = W0 := ⟨_, rfl⟩
  rw [hW0] at hb1
  have hz0 : W0.heap.size = w.heap.size + 1 + 1 := by rw [← hW0]; simp
  have q0 : W0.heap[w.heap.size + 1]? = some (.cells #[.int .i64 0, .string ⟨#[]⟩, .string ⟨#[]⟩, .slice none 0 0, .slice none 0 0] 49 (0, 0)) := by
    rw [← hW0, show w.heap.size + 1 = (w.alloc (.cells #[.int .i64 3, .int .i64 (pa : Int), .int .i64 (fi : Int), .string ⟨tx.toArray⟩] 126)).heap.size by simp, heap_alloc_new]
  have hbw : Below w.heap.size w W0 := by rw [← hW0]; exact (below1 w _).alloc (by simp) _
  have q1 := (hb1.block _ (by omega)).trans q0
  have hbw1 := hbw.trans (hb1.mono (by omega))
  have hsz1 := hb1.size
  rw [hz0] at hsz1
  have HB := Hid.mk hbw1
  have HQ := Hid.mk q1
  have HZ := Hid.mk hsz1
  clear hW0 hb1 hz0 q0 q1 hbw hbw1 hsz1
  go_wp2_with fail
  refine (HAr.out _ (HI.out.keep HB.out) HB.out).mono ?_
  rintro e w2 ⟨hbut, hm⟩
  have hsz := HZ.out
  cases r with
  | bad er' q =>
    have hm' : e = .panicked (fch er' q) := hm
    subst hm'
    exact ⟨rfl, (But.of HB.out).trans hbut, rfl⟩
  | ok T q =>
    obtain ⟨⟨v, rfl, hF⟩, hin⟩ := hm
    have q2 := (hbut.block _ (by omega) (by omega)).trans HQ.out
    obtain ⟨t0, t1, t2, t3, t4, f0, f1, f2, f3, f4⟩ := vbox_cells q2
    have HF := Hid.mk hF
    obtain ⟨io, icap, ko, kcap, hv, _⟩ := hF
    have HN := Hid.mk (And.intro hbut (And.intro hin q2))
    clear hbut hin q2 hsz
    subst hv
    go_wp2_with fail
    obtain ⟨hbut, hin, q2⟩ := HN.out
    have hsz := HZ.out
    generalize hz5 : ((((w2.setCell ⟨w.heap.size + 1, 0, none⟩ (.int .i64 T.kind)).setCell ⟨w.heap.size + 1, 1, none⟩ (.string T.num)).setCell ⟨w.heap.size + 1, 2, none⟩ (.string T.text)).setCell ⟨w.heap.size + 1, 3, none⟩ (.slice io T.items.length icap)).setCell ⟨w.heap.size + 1, 4, none⟩ (.slice ko T.keys.length kcap) = wz
    obtain ⟨e5, k5, s5⟩ := rbox_set5 w2 _ _ _ _ _ _ _ _ _ _ _ _ q2 wz hz5.symm
    have u5 : But I w wz := by rw [← hz5]; exact (((((But.of HB.out).trans hbut).set2 _ 0 (by omega) _).set2 _ 1 (by omega) _).set2 _ 2 (by omega) _ |>.set2 _ 3 (by omega) _).set2 _ 4 (by omega) _
    obtain ⟨d0, d1, d2, d3, d4, _⟩ := vbox_cells e5
    refine bodyPost_ret (v := .agg #[.int .i64 T.kind, .string T.num, .string T.text, .slice io T.items.length icap, .slice ko T.keys.length kcap]) (by simp [results, Tryz.results96, go_sem, d0, d1, d2, d3, d4]) rfl ?_
    exact ⟨u5, ⟨_, rfl, InF.keepB (by omega) (fun b hb hl => k5 b (by omega)) (by omega) HF.out⟩, (k5 _ (by omega)).trans hin⟩
end Go.Proofs.YtfjmgccbpiolhaaGreatDoor
namespace Go.Proofs.YtfjmgccbpiolhaaGreatDoor
open Go.RowKit Go.Shelf
set_option linter.unusedVariables false
set_option linter.unusedSimpArgs false
attribute [local go_sem] Oper.semAt_some

set_option maxRecDepth 100000 in
set_option maxHeartbeats 3200000 in
theorem w_value_obj (s : ByteArray) (I d h : Nat) (hd : d ≤ 64) (t : Tok) (h3 : t.kind = 1) (p : Nat) (w : World) (hI : InAt w I s p) (r : Rd VT) (HA : ∀ u, InAt u I s p → Below w.heap.size w u → Calls Tryz.prog 125 #[.pointer (some ⟨I, 0, none⟩), .int .i64 (d : Int)] u fun e w' => VlR I s h u r e w') :
    Calls Tryz.prog 96 #[.pointer (some ⟨I, 0, none⟩), tokV t, .int .i64 (d : Int)] w fun e w' => VlR I s h w r e w' := by
  have HMb : Hid (∀ u, Calls Tryz.prog 123 #[.int .i64 (d : Int), tokV t] u fun e w' => Below u.heap.size u w' ∧ e = .returned (.tuple #[])) := fun u => (w_mayBe d (by omega) t u).mono (by
    rintro e w' ⟨h1, ⟨_, h2⟩ | ⟨h2, _⟩⟩
    · exact ⟨h1, h2⟩
    · omega)
  obtain ⟨kd, pa, fi, tx, er⟩ := t
  unfold tokV at *
  dsimp only at *
  subst h3
  have hIl := hI.lt
  have HI := Hid.mk hI
  have HAr := Hid.mk HA
  clear hI HA
  go_enter Tryz.func96, Tryz.ntmps96
  go_wp2_with fail
  refine (HMb.out _).mono ?_
  rintro e w1 ⟨hb1, rfl⟩
  obtain ⟨W0, hW0⟩ : ∃ W0, (w.alloc (.cells #[.int .i64 1, .int .i64 (pa : Int), .int .i64 (fi : Int), .string ⟨tx.toArray⟩] 126)).alloc (.cells #[.int .i64 0, .string ⟨#[]⟩, .string ⟨#[]⟩, .slice none 0 0, .slice none 0 0] 49) = W0 := ⟨_, rfl⟩
  rw [hW0] at hb1
  have hz0 : W0.heap.size = w.heap.size + 1 + 1 := by rw [← hW0]; simp
  have q0 : W0.heap[w.heap.size + 1]? = some (.cells #[.int .i64 0, .string ⟨#[]⟩, .string ⟨#[]⟩, .slice none 0 0, .slice none 0 0] 49 (0, 0)) := by
    rw [← hW0, show w.heap.size + 1 = (w.alloc (.cells #[.int .i64 1, .int .i64 (pa : Int), .int .i64 (fi : Int), .string ⟨tx.toArray⟩] 126)).heap.size by simp, heap_alloc_new]
  have hbw : Below w.heap.size w W0 := by rw [← hW0]; exact (below1 w _).alloc (by simp) _
  have q1 := (hb1.block _ (by omega)).trans q0
  have hbw1 := hbw.trans (hb1.mono (by omega))
  have hsz1 := hb1.size
  rw [hz0] at hsz1
  have HB := Hid.mk hbw1
  have HQ := Hid.mk q1
  have HZ := Hid.mk hsz1
  clear hW0 hb1 hz0 q0 q1 hbw hbw1 hsz1
  go_wp2_with fail
  refine (HAr.out _ (HI.out.keep HB.out) HB.out).mono ?_
  rintro e w2 ⟨hbut, hm⟩
  have hsz := HZ.out
  cases r with
  | bad er' q =>
    have hm' : e = .panicked (fch er' q) := hm
    subst hm'
    exact ⟨rfl, (But.of HB.out).trans hbut, rfl⟩
  | ok T q =>
    obtain ⟨⟨v, rfl, hF⟩, hin⟩ := hm
    have q2 := (hbut.block _ (by omega) (by omega)).trans HQ.out
    obtain ⟨t0, t1, t2, t3, t4, f0, f1, f2, f3, f4⟩ := vbox_cells q2
    have HF := Hid.mk hF
    obtain ⟨io, icap, ko, kcap, hv, _⟩ := hF
    have HN := Hid.mk (And.intro hbut (And.intro hin q2))
    clear hbut hin q2 hsz
    subst hv
    go_wp2_with fail
    obtain ⟨hbut, hin, q2⟩ := HN.out
    have hsz := HZ.out
    generalize hz5 : ((((w2.setCell ⟨w.heap.size + 1, 0, none⟩ (.int .i64 T.kind)).setCell ⟨w.heap.size + 1, 1, none⟩ (.string T.num)).setCell ⟨w.heap.size + 1, 2, none⟩ (.string T.text)).setCell ⟨w.heap.size + 1, 3, none⟩ (.slice io T.items.length icap)).setCell ⟨w.heap.size + 1, 4, none⟩ (.slice ko T.keys.length kcap) = wz
    obtain ⟨e5, k5, s5⟩ := rbox_set5 w2 _ _ _ _ _ _ _ _ _ _ _ _ q2 wz hz5.symm
    have u5 : But I w wz := by rw [← hz5]; exact (((((But.of HB.out).trans hbut).set2 _ 0 (by omega) _).set2 _ 1 (by omega) _).set2 _ 2 (by omega) _ |>.set2 _ 3 (by omega) _).set2 _ 4 (by omega) _
    obtain ⟨d0, d1, d2, d3, d4, _⟩ := vbox_cells e5
    refine bodyPost_ret (v := .agg #[.int .i64 T.kind, .string T.num, .string T.text, .slice io T.items.length icap, .slice ko T.keys.length kcap]) (by simp [results, Tryz.results96, go_sem, d0, d1, d2, d3, d4]) rfl ?_
    exact ⟨u5, ⟨_, rfl, InF.keepB (by omega) (fun b hb hl => k5 b (by omega)) (by omega) HF.out⟩, (k5 _ (by omega)).trans hin⟩

set_option maxRecDepth 100000 in
set_option maxHeartbeats 3200000 in
theorem w_value_deep3 (s : ByteArray) (I d h : Nat) (hd : 64 < d) (hd2 : d ≤ 1000000) (t : Tok) (h3 : t.kind = 3) (p : Nat) (w : World) :
    Calls Tryz.prog 96 #[.pointer (some ⟨I, 0, none⟩), tokV t, .int .i64 (d : Int)] w fun e w' => VlR I s h w (.bad 52 t.at_) e w' := by
  have HMb : Hid (∀ u, Calls Tryz.prog 123 #[.int .i64 (d : Int), tokV t] u fun e w' => Below u.heap.size u w' ∧ e = .panicked (fch 52 t.at_)) := fun u => (w_mayBe d (by omega) t u).mono (by
    rintro e w' ⟨h1, ⟨h2, _⟩ | ⟨_, h2⟩⟩
    · omega
    · exact ⟨h1, h2⟩)
  obtain ⟨kd, pa, fi, tx, er⟩ := t
  unfold tokV at *
  dsimp only at *
  subst h3
  go_enter Tryz.func96, Tryz.ntmps96
  go_wp2_with fail
  refine (HMb.out _).mono ?_
  rintro e w1 ⟨hb1, rfl⟩
  exact ⟨rfl, But.of (((below1 w _).alloc (by simp) _).trans (hb1.mono (by simp; omega))), rfl⟩

set_option maxRecDepth 100000 in
set_option maxHeartbeats 3200000 in
theorem w_value_deep1 (s : ByteArray) (I d h : Nat) (hd : 64 < d) (hd2 : d ≤ 1000000) (t : Tok) (h3 : t.kind = 1) (p : Nat) (w : World) :
    Calls Tryz.prog 96 #[.pointer (some ⟨I, 0, none⟩), tokV t, .int .i64 (d : Int)] w fun e w' => VlR I s h w (.bad 52 t.at_) e w' := by
  have HMb : Hid (∀ u, Calls Tryz.prog 123 #[.int .i64 (d : Int), tokV t] u fun e w' => Below u.heap.size u w' ∧ e = .panicked (fch 52 t.at_)) := fun u => (w_mayBe d (by omega) t u).mono (by
    rintro e w' ⟨h1, ⟨h2, _⟩ | ⟨_, h2⟩⟩
    · omega
    · exact ⟨h1, h2⟩)
  obtain ⟨kd, pa, fi, tx, er⟩ := t
  unfold tokV at *
  dsimp only at *
  subst h3
  go_enter Tryz.func96, Tryz.ntmps96
  go_wp2_with fail
  refine (HMb.out _).mono ?_
  rintro e w1 ⟨hb1, rfl⟩
  exact ⟨rfl, But.of (((below1 w _).alloc (by simp) _).trans (hb1.mono (by simp; omega))), rfl⟩
end Go.Proofs.YtfjmgccbpiolhaaGreatDoor
namespace Go.Proofs.YtfjmgccbpiolhaaGreatDoor
open Go.RowKit Go.Shelf
set_option linter.unusedVariables false
set_option linter.unusedSimpArgs false
attribute [local go_sem] Oper.semAt_some

def InD (D : Nat → Prop) (W : World) : Nat → VT → Value → Prop
  | 0, _, _ => False
  | h + 1, T, v => ∃ (io : Option Addr) (icap : Nat) (ko : Option Addr) (kcap : Nat),
      v = .agg #[.int .i64 T.kind, .string T.num, .string T.text, .slice io T.items.length icap, .slice ko T.keys.length kcap] ∧
      T.num.size ≤ 140737488355328 ∧ T.text.size ≤ 140737488355328 ∧ T.items.length ≤ 140737488355328 ∧ T.keys.length ≤ 140737488355328 ∧ T.items.length ≤ icap ∧ T.keys.length ≤ kcap ∧
      (∀ k ∈ T.keys, k.size ≤ 140737488355328) ∧
      (0 < T.keys.length → ∃ b off, ko = some ⟨b, off, none⟩ ∧ D b ∧ b < W.heap.size ∧ ∀ i, i < T.keys.length → W.cell? ⟨b, off + i, none⟩ = some (.string (T.keys.getD i .empty))) ∧
      (0 < T.items.length → ∃ b off, io = some ⟨b, off, none⟩ ∧ D b ∧ b < W.heap.size ∧ ∀ i, (hi : i < T.items.length) → ∃ v0 v1 v2 v3 v4 : Value,
        (W.cell? ⟨b, off + i * 5, none⟩ = some v0 ∧ W.cell? ⟨b, off + i * 5 + 1, none⟩ = some v1 ∧ W.cell? ⟨b, off + i * 5 + 2, none⟩ = some v2 ∧ W.cell? ⟨b, off + i * 5 + 3, none⟩ = some v3 ∧ W.cell? ⟨b, off + i * 5 + 4, none⟩ = some v4) ∧ InD D W h T.items[i] (.agg #[v0, v1, v2, v3, v4]))
theorem InD.iff {lo : Nat} {W : World} : ∀ {h : Nat} {T : VT} {v : Value}, InD (fun b => lo ≤ b) W h T v ↔ InF lo W h T v
  | 0, _, _ => Iff.rfl
  | h + 1, T, v => by
    constructor
    · rintro ⟨io, icap, ko, kcap, e, a1, a2, a3, a4, a5, a6, a7, hk, hi⟩
      refine ⟨io, icap, ko, kcap, e, a1, a2, a3, a4, a5, a6, a7, hk, fun h0 => ?_⟩
      obtain ⟨b, off, e2, hb, hl, hc⟩ := hi h0
      refine ⟨b, off, e2, hb, hl, fun i hil => ?_⟩
      obtain ⟨v0, v1, v2, v3, v4, c, ht⟩ := hc i hil
      exact ⟨v0, v1, v2, v3, v4, c, InD.iff.1 ht⟩
    · rintro ⟨io, icap, ko, kcap, e, a1, a2, a3, a4, a5, a6, a7, hk, hi⟩
      refine ⟨io, icap, ko, kcap, e, a1, a2, a3, a4, a5, a6, a7, hk, fun h0 => ?_⟩
      obtain ⟨b, off, e2, hb, hl, hc⟩ := hi h0
      refine ⟨b, off, e2, hb, hl, fun i hil => ?_⟩
      obtain ⟨v0, v1, v2, v3, v4, c, ht⟩ := hc i hil
      exact ⟨v0, v1, v2, v3, v4, c, InD.iff.2 ht⟩
theorem InD.keep {D D' : Nat → Prop} {W W' : World} (hz : W.heap.size ≤ W'.heap.size) (hs : ∀ b, D b → b < W.heap.size → W'.heap[b]? = W.heap[b]?) (hlo : ∀ b, D b → b < W.heap.size → D' b) : ∀ {h : Nat} {T : VT} {v : Value}, InD D W h T v → InD D' W' h T v
  | 0, _, _, h => h
  | h + 1, T, v, hI => by
    obtain ⟨io, icap, ko, kcap, e, a1, a2, a3, a4, a5, a6, a7, hk, hi⟩ := hI
    have cc : ∀ b o u, D b → b < W.heap.size → W.cell? ⟨b, o, none⟩ = some u → W'.cell? ⟨b, o, none⟩ = some u := fun b o u h1 h2 h3 => (World.cell?_of_block (a := ⟨b, o, none⟩) (hs b h1 h2)).trans h3
    refine ⟨io, icap, ko, kcap, e, a1, a2, a3, a4, a5, a6, a7, fun h0 => ?_, fun h0 => ?_⟩
    · obtain ⟨b, off, e2, hb, hl, hc⟩ := hk h0
      exact ⟨b, off, e2, hlo b hb hl, Nat.lt_of_lt_of_le hl hz, fun i hi => cc _ _ _ hb hl (hc i hi)⟩
    · obtain ⟨b, off, e2, hb, hl, hc⟩ := hi h0
      refine ⟨b, off, e2, hlo b hb hl, Nat.lt_of_lt_of_le hl hz, fun i hil => ?_⟩
      obtain ⟨v0, v1, v2, v3, v4, ⟨c0, c1, c2, c3, c4⟩, ht⟩ := hc i hil
      exact ⟨v0, v1, v2, v3, v4, ⟨cc _ _ _ hb hl c0, cc _ _ _ hb hl c1, cc _ _ _ hb hl c2, cc _ _ _ hb hl c3, cc _ _ _ hb hl c4⟩, InD.keep hz hs hlo ht⟩
theorem InD.shape {D : Nat → Prop} {W : World} {h : Nat} {T : VT} {v : Value} (hI : InD D W (h + 1) T v) : ∃ io icap ko kcap, v = .agg #[.int .i64 T.kind, .string T.num, .string T.text, .slice io T.items.length icap, .slice ko T.keys.length kcap] := by
  obtain ⟨io, icap, ko, kcap, e, _⟩ := hI
  exact ⟨io, icap, ko, kcap, e⟩
end Go.Proofs.YtfjmgccbpiolhaaGreatDoor
namespace Go.Proofs.YtfjmgccbpiolhaaGreatDoor
open Go.RowKit Go.Shelf
set_option linter.unusedVariables false
set_option linter.unusedSimpArgs false

theorem own_setJ {w : World} {B n cap g j size : Nat} {e : TypeId} {xs : List Value} (h : w.ownsRow B e size (.slice (some ⟨g, 0, none⟩) n cap) n xs) (hj : j < n * size) (x : Value) : (w.setCell ⟨g, j, none⟩ x).ownsRow B e size (.slice (some ⟨g, 0, none⟩) n cap) n (xs.set j x) := by
  refine ⟨by rw [List.length_set]; exact h.1, ?_⟩
  rcases h.2 with ⟨e1, e2⟩ | ⟨g', cap', cur, e1, hb, hg, h1, h2, h3, h4⟩
  · cases e1
  · simp only [Value.slice.injEq, Option.some.injEq, Addr.mk.injEq] at e1
    obtain ⟨⟨rfl, _, _⟩, _, rfl⟩ := e1
    refine .inr ⟨g, cap, cur.setIfInBounds j x, rfl, hb, rset (i := j) x hg, h1, h2, by simpa using h3, ?_⟩
    rw [Array.toList_setIfInBounds, List.take_set, h4]
theorem own_set5 {w : World} {B cap g k : Nat} {e : TypeId} {xs : List Value} (hx : xs.length = k * 5) {z0 z1 z2 z3 z4 : Value} (h : w.ownsRow B e 5 (.slice (some ⟨g, 0, none⟩) (k + 1) cap) (k + 1) (xs ++ [z0, z1, z2, z3, z4])) (x0 x1 x2 x3 x4 : Value) :
    (((((w.setCell ⟨g, k * 5, none⟩ x0).setCell ⟨g, k * 5 + 1, none⟩ x1).setCell ⟨g, k * 5 + 2, none⟩ x2).setCell ⟨g, k * 5 + 3, none⟩ x3).setCell ⟨g, k * 5 + 4, none⟩ x4).ownsRow B e 5 (.slice (some ⟨g, 0, none⟩) (k + 1) cap) (k + 1) (xs ++ [x0, x1, x2, x3, x4]) := by
  have h5 := own_setJ (own_setJ (own_setJ (own_setJ (own_setJ h (j := k * 5) (by omega) x0) (j := k * 5 + 1) (by omega) x1) (j := k * 5 + 2) (by omega) x2) (j := k * 5 + 3) (by omega) x3) (j := k * 5 + 4) (by omega) x4
  have e0 : ((((((xs ++ [z0, z1, z2, z3, z4]).set (k * 5) x0).set (k * 5 + 1) x1).set (k * 5 + 2) x2).set (k * 5 + 3) x3).set (k * 5 + 4) x4) = xs ++ [x0, x1, x2, x3, x4] := by
    rw [← hx]
    have s0 : ∀ (ys : List Value) (j : Nat) (v : Value), (xs ++ ys).set (xs.length + j) v = xs ++ ys.set j v := fun ys j v => by rw [List.set_append_right _ _ (by omega)]; congr 2; omega
    have s1 := s0 [z0, z1, z2, z3, z4] 0 x0
    rw [Nat.add_zero] at s1
    rw [s1, s0, s0, s0, s0]
    rfl
  rw [e0] at h5
  exact h5
end Go.Proofs.YtfjmgccbpiolhaaGreatDoor
namespace Go.Proofs.YtfjmgccbpiolhaaGreatDoor
open Go.RowKit Go.Shelf
set_option linter.unusedVariables false
set_option linter.unusedSimpArgs false
attribute [local go_sem] Oper.semAt_some

def ValOk (s : ByteArray) (I h : Nat) (vl : Tok → Nat → Rd VT) : Prop := ∀ (t : Tok) (p : Nat) (u : World), p ≤ s.size → t.text.length ≤ 140737488355328 → InAt u I s p → ErrIn u → Calls Tryz.prog 96 #[.pointer (some ⟨I, 0, none⟩), tokV t, .int .i64 1] u fun e w' => VlR I s h u (vl t p) e w'
def folL (l : List UInt8) (vl : Tok → Nat → Rd VT) (p : Nat) : Rd (Option VT) :=
  if behL l p cBl < l.length then
    (if (nextT l (behL l p cBl)).err = 0 then
      (match vl (nextT l (behL l p cBl)) (nextT l (behL l p cBl)).fin with
      | .ok T q => .ok (some T) q
      | .bad e q => .bad e q)
    else .bad (nextT l (behL l p cBl)).err (nextT l (behL l p cBl)).at_)
  else .ok none p
def v0V : Value := .agg #[.int .i64 0, .string ⟨#[]⟩, .string ⟨#[]⟩, .slice none 0 0, .slice none 0 0]
def FolE (w : World) (h : Nat) (o : Option VT) (u : World) (v : Value) : Prop := match o with
  | none => v = .tuple #[v0V, .bool false]
  | some T => ∃ x, v = .tuple #[x, .bool true] ∧ InF w.heap.size u (h + 1) T x

set_option maxRecDepth 100000 in
set_option maxHeartbeats 3200000 in
theorem w_following (s : ByteArray) (ss : s.size ≤ 1073741824) (I p h : Nat) (hp : p ≤ s.size) (vl : Tok → Nat → Rd VT) (HV : ValOk s I h vl) (htx : (nextT s.data.toList (behL s.data.toList p cBl)).text.length ≤ 140737488355328) (w : World) (hI : InAt w I s p) (hE : ErrIn w) (gI : I ≠ 4) :
    Calls Tryz.prog 104 #[.pointer (some ⟨I, 0, none⟩)] w fun e w' => RdR I s w (FolE w h) (folL s.data.toList vl p) e w' := by
  have HC := Hid.mk (fun u (hu : InAt u I s p) (hEu : ErrIn u) => w_next s ss I p hp u hu hEu)
  have HVl := Hid.mk HV
  have hIl := hI.lt
  have HI := Hid.mk hI
  have HE := Hid.mk hE
  have HTx := Hid.mk htx
  clear hI hE HV htx
  go_enter Tryz.func104, Tryz.ntmps104
  go_wp2_with fail
  refine (HC.out _ (HI.out.alloc _) (HE.out.keep (below1 w _))).mono ?_
  rintro e w1 ⟨hbut, hway⟩
  have q1 := (hbut.block w.heap.size (by simp) (by omega)).trans (heap_alloc_new w _)
  obtain ⟨t0, t1, t2, t3, t4, f0, f1, f2, f3, f4⟩ := vbox_cells q1
  have hsz := hbut.size
  rw [World.size_alloc] at hsz
  have hws : w.heap.size < w1.heap.size := by omega
  have hbw : But I w w1 := ⟨hbut.os, hbut.tape, hbut.output, by omega, fun k hk hn => (hbut.block k (by simp; omega) hn).trans (Below.heap_alloc _ _ _ hk)⟩
  have HB := Hid.mk hbw
  have HQ := Hid.mk q1
  clear hbut q1 hsz hbw
  rcases hway with ⟨h1, rfl, hin⟩ | ⟨h1, h2, rfl, hin⟩ | ⟨h1, h2, rfl, hin⟩
  · have HN := Hid.mk (And.intro h1 hin)
    clear h1 hin
    unfold tok0
    go_wp2_with fail
    generalize hz5 : ((((w1.setCell ⟨w.heap.size, 0, none⟩ (.int .i64 0)).setCell ⟨w.heap.size, 1, none⟩ (.string ⟨#[]⟩)).setCell ⟨w.heap.size, 2, none⟩ (.string ⟨#[]⟩)).setCell ⟨w.heap.size, 3, none⟩ (.slice none 0 0)).setCell ⟨w.heap.size, 4, none⟩ (.slice none 0 0) = W4
    obtain ⟨e4, k4, s4⟩ := rbox_set5 w1 _ _ _ _ _ _ _ _ _ _ _ _ HQ.out W4 hz5.symm
    have u4 : But I w W4 := by rw [← hz5]; exact ((((HB.out.set2 _ 0 (by omega) _).set2 _ 1 (by omega) _).set2 _ 2 (by omega) _).set2 _ 3 (by omega) _).set2 _ 4 (by omega) _
    generalize hz6 : W4.alloc _ = W5
    have e5 : W5.heap[w.heap.size]? = some (.cells #[.int .i64 0, .string ⟨#[]⟩, .string ⟨#[]⟩, .slice none 0 0, .slice none 0 0] 49 (0, 0)) := by rw [← hz6]; exact (Below.heap_alloc _ _ _ (by omega)).trans e4
    have u5 : But I w W5 := by rw [← hz6]; exact u4.step (by omega) (below1 W4 _)
    have i5 : InAt W5 I s p := by rw [← hz6]; exact InAt.alloc ((k4 _ (by omega)).trans HN.out.2) _
    obtain ⟨d0, d1, d2, d3, d4, _⟩ := vbox_cells e5
    refine bodyPost_ret (v := .tuple #[v0V, .bool false]) (by simp [v0V, results, Tryz.results104, go_sem, d0, d1, d2, d3, d4]) rfl ⟨u5, ?_⟩
    unfold folL
    rw [if_neg (by rw [HN.out.1]; omega)]
    exact ⟨⟨_, rfl, rfl⟩, i5⟩
  · have HN := Hid.mk (And.intro h1 (And.intro h2 hin))
    have hfin := (nextT_le h1).2
    have HFin := Hid.mk hfin
    have hin2 := hin.lt
    clear h1 h2 hin hfin
    obtain ⟨t, ht⟩ : ∃ t, nextT s.data.toList (behL s.data.toList p cBl) = t := ⟨_, rfl⟩
    rw [ht] at HN HFin HTx ⊢
    have HT := Hid.mk ht
    clear ht
    have HVt := Hid.mk (HVl.out t)
    obtain ⟨kd, pa, fi, tx, er⟩ := t
    unfold tokV at *
    dsimp only at *
    go_wp2_with fail
    have hE1 := (HB.out.errIn HI.out HE.out gI)
    refine (HVt.out fi _ HFin.out HTx.out (HN.out.2.2.alloc _) (hE1.keep (below1 w1 _))).mono ?_
    rintro e w2 ⟨hbut2, hm⟩
    obtain ⟨h1, h2, _⟩ := HN.out
    subst h2
    have hfo : folL s.data.toList vl p = (match vl ⟨kd, pa, fi, tx, 0⟩ fi with
      | .ok T q => .ok (some T) q
      | .bad e q => .bad e q) := by
      unfold folL
      rw [if_pos h1, HT.out, if_pos rfl]
    have hsz := hbut2.size
    rw [World.size_alloc] at hsz
    have q2 := (hbut2.block w.heap.size (by simp; omega) (by omega)).trans ((Below.heap_alloc _ _ _ hws).trans HQ.out)
    have hbw : But I w w2 := HB.out.trans ⟨hbut2.os, hbut2.tape, hbut2.output, by omega, fun k hk hn => (hbut2.block k (by simp; omega) hn).trans (Below.heap_alloc _ _ _ hk)⟩
    cases hr : vl ⟨kd, pa, fi, tx, 0⟩ fi with
    | bad er' q =>
      rw [hr] at hm hfo
      have hm' : e = .panicked (fch er' q) := hm
      subst hm'
      exact ⟨rfl, hbw, by rw [hfo]⟩
    | ok T q =>
      rw [hr] at hm hfo
      dsimp only at hfo
      obtain ⟨⟨v, rfl, hF⟩, hin⟩ := hm
      obtain ⟨g0, g1, g2, g3, g4, x0, x1, x2, x3, x4⟩ := vbox_cells q2
      have HF := Hid.mk hF
      obtain ⟨io, icap, ko, kcap, hv, _⟩ := hF
      have HN2 := Hid.mk (And.intro hbw (And.intro hin (And.intro q2 hfo)))
      have hws2 : w.heap.size < w2.heap.size := by omega
      have hsz2 : Hid (w1.heap.size + 1 ≤ w2.heap.size) := hsz
      clear hbut2 hbw hin q2 hsz hfo hr h1 hE1 t0 t1 t2 t3 t4 f0 f1 f2 f3 f4
      subst hv
      go_wp2_with fail
      obtain ⟨hbw, hin, q2, hfo⟩ := HN2.out
      rw [hfo]
      generalize hz5 : ((((w2.setCell ⟨w.heap.size, 0, none⟩ (.int .i64 T.kind)).setCell ⟨w.heap.size, 1, none⟩ (.string T.num)).setCell ⟨w.heap.size, 2, none⟩ (.string T.text)).setCell ⟨w.heap.size, 3, none⟩ (.slice io T.items.length icap)).setCell ⟨w.heap.size, 4, none⟩ (.slice ko T.keys.length kcap) = wz
      obtain ⟨e5, k5, s5⟩ := rbox_set5 w2 _ _ _ _ _ _ _ _ _ _ _ _ q2 wz hz5.symm
      have u5 : But I w wz := by rw [← hz5]; exact ((((hbw.set2 _ 0 (by omega) _).set2 _ 1 (by omega) _).set2 _ 2 (by omega) _).set2 _ 3 (by omega) _).set2 _ 4 (by omega) _
      obtain ⟨d0, d1, d2, d3, d4, _⟩ := vbox_cells e5
      refine bodyPost_ret (v := .tuple #[.agg #[.int .i64 T.kind, .string T.num, .string T.text, .slice io T.items.length icap, .slice ko T.keys.length kcap], .bool true]) (by simp [results, Tryz.results104, go_sem, d0, d1, d2, d3, d4]) rfl ?_
      have hF := HF.out
      rw [World.size_alloc] at hF
      exact ⟨u5, ⟨_, rfl, _, rfl, InF.keepB (by omega) (fun b hb hl => k5 b (by omega)) (by omega) hF⟩, (k5 _ (by omega)).trans hin⟩
  · exact ⟨rfl, HB.out, by unfold folL; rw [if_pos h1, if_neg h2]⟩
end Go.Proofs.YtfjmgccbpiolhaaGreatDoor
namespace Go.Proofs.YtfjmgccbpiolhaaGreatDoor
open Go.RowKit Go.Shelf
set_option linter.unusedVariables false
set_option linter.unusedSimpArgs false
attribute [local go_sem] Oper.semAt_some

def endL (l : List UInt8) (T : VT) (q : Nat) : Rd VT :=
  if behL l q cBl < l.length then (if (nextT l (behL l q cBl)).err = 0 then .bad 54 (nextT l (behL l q cBl)).at_ else .bad (nextT l (behL l q cBl)).err (nextT l (behL l q cBl)).at_) else .ok T q
def onlL (l : List UInt8) (vl : Tok → Nat → Rd VT) (p : Nat) : Rd VT := match mustL l p with
  | .bad e q => .bad e q
  | .ok t p1 => match vl t p1 with
    | .bad e q => .bad e q
    | .ok T q => endL l T q
def OnlE (w : World) (h : Nat) (T : VT) (u : World) (v : Value) : Prop := ∃ x, v = .tuple #[x, .bool true] ∧ InF w.heap.size u (h + 1) T x

set_option maxRecDepth 100000 in
set_option maxHeartbeats 3200000 in
theorem w_only (s : ByteArray) (ss : s.size ≤ 1073741824) (I p h : Nat) (hp : p ≤ s.size) (vl : Tok → Nat → Rd VT) (HV : ValOk s I h vl) (hvl : ∀ t p T q, p ≤ s.size → vl t p = .ok T q → q ≤ s.size) (htx : ∀ p t q, mustL s.data.toList p = .ok t q → t.text.length ≤ 140737488355328) (w : World) (hI : InAt w I s p) (hE : ErrIn w) (gI : I ≠ 4) :
    Calls Tryz.prog 49 #[.pointer (some ⟨I, 0, none⟩)] w fun e w' => RdR I s w (OnlE w h) (onlL s.data.toList vl p) e w' := by
  have HMust := Hid.mk (fun u p (hp : p ≤ s.size) (hu : InAt u I s p) (hEu : ErrIn u) => w_must s ss I p hp u hu hEu)
  have HC := Hid.mk (fun u p (hp : p ≤ s.size) (hu : InAt u I s p) (hEu : ErrIn u) => w_next s ss I p hp u hu hEu)
  obtain ⟨R, hR⟩ : ∃ R, onlL s.data.toList vl p = R := ⟨_, rfl⟩
  rw [hR]
  have HRR := Hid.mk hR
  have HVl := Hid.mk HV
  have HvL := Hid.mk hvl
  have hIl := hI.lt
  have HI := Hid.mk hI
  have HE := Hid.mk hE
  have HTx := Hid.mk htx
  clear hI hE HV htx hvl hR
  go_enter Tryz.func49, Tryz.ntmps49
  go_wp2_with fail
  refine (HMust.out _ p hp (HI.out.alloc _) (HE.out.keep (below1 w _))).mono ?_
  rintro e w1 ⟨hbut, hm⟩
  have hR := HRR.out
  unfold onlL at hR
  have hsz := hbut.size
  rw [World.size_alloc] at hsz
  have hws : w.heap.size < w1.heap.size := by omega
  have q1 := (hbut.block w.heap.size (by simp) (by omega)).trans (heap_alloc_new w _)
  have hbw : But I w w1 := ⟨hbut.os, hbut.tape, hbut.output, by omega, fun k hk hn => (hbut.block k (by simp; omega) hn).trans (Below.heap_alloc _ _ _ hk)⟩
  cases hml : mustL s.data.toList p with
  | bad er q =>
    rw [hml] at hm hR
    have hm' : e = .panicked (fch er q) := hm
    subst hm'
    exact ⟨rfl, hbw, by rw [← hR]⟩
  | ok t p1 =>
    rw [hml] at hm hR
    dsimp only at hR
    obtain ⟨⟨v, rfl, rfl⟩, hin⟩ := hm
    obtain ⟨u1, u2⟩ := mustL_up hp hml
    have HVt := Hid.mk (HVl.out t p1 w1 u2 (HTx.out _ _ _ hml) hin (hbw.errIn HI.out HE.out gI))
    have HR1 := Hid.mk hR
    have HB := Hid.mk (And.intro hbw q1)
    clear hbut hin hml hR hbw q1 hsz
    go_wp2_with fail
    refine HVt.out.mono ?_
    rintro e w2 ⟨hbut2, hm⟩
    have hR := HR1.out
    have hbw2 := HB.out.1.trans hbut2
    have hsz2 := hbut2.size
    have hws2 : w.heap.size < w2.heap.size := by omega
    have q2 := (hbut2.block w.heap.size hws (by omega)).trans HB.out.2
    cases hr : vl t p1 with
    | bad er q =>
      rw [hr] at hm hR
      have hm' : e = .panicked (fch er q) := hm
      subst hm'
      exact ⟨rfl, hbw2, by rw [← hR]⟩
    | ok T q =>
      rw [hr] at hm hR
      dsimp only at hR
      obtain ⟨⟨v, rfl, hF⟩, hin⟩ := hm
      have hq := HvL.out _ _ _ _ u2 hr
      have HF := Hid.mk hF
      obtain ⟨io, icap, ko, kcap, hv, _⟩ := hF
      have hil2 := hin.lt
      have HB2 := Hid.mk (And.intro hbw2 (And.intro q2 (And.intro hin (And.intro hsz2 hq))))
      have HR2 := Hid.mk hR
      clear hbut2 hbw2 q2 hin hR hr hsz2 hq
      subst hv
      go_wp2_with fail
      have hE2 := (HB2.out.1.errIn HI.out HE.out gI)
      refine (HC.out _ q HB2.out.2.2.2.2 (HB2.out.2.2.1.alloc _) (hE2.keep (below1 w2 _))).mono ?_
      rintro e w3 ⟨hbut3, hway⟩
      have hsz3 := hbut3.size
      rw [World.size_alloc] at hsz3
      have hbw3 : But I w w3 := HB2.out.1.trans ⟨hbut3.os, hbut3.tape, hbut3.output, by omega, fun k hk hn => (hbut3.block k (by simp; omega) hn).trans (Below.heap_alloc _ _ _ hk)⟩
      have q3 := (hbut3.block w.heap.size (by simp; omega) (by omega)).trans ((Below.heap_alloc _ _ _ hws2).trans HB2.out.2.1)
      have x3 := (hbut3.block w2.heap.size (by simp) (by omega)).trans (heap_alloc_new w2 _)
      obtain ⟨t0, t1, t2, t3, t4, f0, f1, f2, f3, f4⟩ := vbox_cells q3
      obtain ⟨y0, y1, y2, y3, y4, _⟩ := vbox_cells x3
      have hws3 : w.heap.size < w3.heap.size := by omega
      have hws4 : w2.heap.size < w3.heap.size := by omega
      have hkf : ∀ b, b < w2.heap.size → b ≠ I → w3.heap[b]? = w2.heap[b]? := fun b hb hn => (hbut3.block b (by simp; omega) hn).trans (Below.heap_alloc _ _ _ hb)
      have HB3 := Hid.mk (And.intro hbw3 (And.intro q3 hkf))
      have hR2 := HR2.out
      unfold endL at hR2
      clear hbut3 hbw3 q3 x3 hsz3 hE2 hkf
      rcases hway with ⟨h1, rfl, hin⟩ | ⟨h1, h2, rfl, hin⟩ | ⟨h1, h2, rfl, hin⟩
      · rw [if_neg (by rw [h1]; omega)] at hR2
        have HR3 := Hid.mk hR2
        have HN := Hid.mk hin
        clear h1 hin hR2
        unfold tok0
        go_wp2_with fail
        obtain ⟨hbw3, q3, hkf⟩ := HB3.out
        have hs12 := HB2.out.2.2.2.1
        generalize hz5 : ((((w3.setCell ⟨w.heap.size, 0, none⟩ (.int .i64 T.kind)).setCell ⟨w.heap.size, 1, none⟩ (.string T.num)).setCell ⟨w.heap.size, 2, none⟩ (.string T.text)).setCell ⟨w.heap.size, 3, none⟩ (.slice io T.items.length icap)).setCell ⟨w.heap.size, 4, none⟩ (.slice ko T.keys.length kcap) = W4
        obtain ⟨e4, k4, s4⟩ := rbox_set5 w3 _ _ _ _ _ _ _ _ _ _ _ _ q3 W4 hz5.symm
        have u4 : But I w W4 := by rw [← hz5]; exact ((((hbw3.set2 _ 0 (by omega) _).set2 _ 1 (by omega) _).set2 _ 2 (by omega) _).set2 _ 3 (by omega) _).set2 _ 4 (by omega) _
        generalize hz6 : W4.alloc _ = W5
        have e5 : W5.heap[w.heap.size]? = some (.cells #[.int .i64 T.kind, .string T.num, .string T.text, .slice io T.items.length icap, .slice ko T.keys.length kcap] 49 (0, 0)) := by rw [← hz6]; exact (Below.heap_alloc _ _ _ (by omega)).trans e4
        have s5 : W5.heap.size = W4.heap.size + 1 := by rw [← hz6]; simp
        have k5 : ∀ b, b < W4.heap.size → W5.heap[b]? = W4.heap[b]? := fun b hb => by rw [← hz6]; exact Below.heap_alloc _ _ _ hb
        have u5 : But I w W5 := by rw [← hz6]; exact u4.step (by omega) (below1 W4 _)
        have i5 : InAt W5 I s q := (k5 _ (by omega)).trans ((k4 _ (by omega)).trans HN.out)
        obtain ⟨d0, d1, d2, d3, d4, _⟩ := vbox_cells e5
        refine bodyPost_ret (v := .tuple #[.agg #[.int .i64 T.kind, .string T.num, .string T.text, .slice io T.items.length icap, .slice ko T.keys.length kcap], .bool true]) (by simp [results, Tryz.results49, go_sem, d0, d1, d2, d3, d4]) rfl ⟨u5, ?_⟩
        rw [← HR3.out]
        exact ⟨⟨_, rfl, _, rfl, InF.keepB (by omega) (fun b hb hl => (k5 b (by omega)).trans ((k4 b (by omega)).trans (hkf b hl (by omega)))) (by omega) HF.out⟩, i5⟩
      · rw [if_pos h1, if_pos h2] at hR2
        have HR3 := Hid.mk hR2
        clear h1 h2 hin hR2
        obtain ⟨t, ht⟩ : ∃ t, nextT s.data.toList (behL s.data.toList q cBl) = t := ⟨_, rfl⟩
        rw [ht] at HR3 ⊢
        clear ht
        obtain ⟨kd, pa, fi, tx, er⟩ := t
        unfold tokV at *
        dsimp only at *
        go_wp2_with fail
        refine ⟨rfl, HB3.out.1.step (Nat.le_refl _) ((below1 w3 _).mono (by omega)), ?_⟩
        rw [← HR3.out]
        rfl
      · rw [if_pos h1, if_neg h2] at hR2
        exact ⟨rfl, HB3.out.1, by rw [← hR2]⟩
end Go.Proofs.YtfjmgccbpiolhaaGreatDoor
