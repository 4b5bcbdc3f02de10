import Derived.Test.YtfgfgcecbodjeaaGreatDoorM28
import Derived.Test.YtfgfgcecbodjeaaGreatDoorM15
namespace Go.Proofs.YtfgfgcecbodjeaaGreatDoor
open Go.RowKit Go.Shelf
set_option linter.unusedVariables false
set_option linter.unusedSimpArgs false
attribute [local go_sem] Oper.semAt_some

def bT (l : List UInt8) : ByteArray := ⟨l.toArray⟩
/-- what a token says by itself -/
def leafL (t : Tok) (p : Nat) : Rd VT :=
  if t.kind = 7 then .ok (.mk 0 .empty .empty [] []) p
  else if t.kind = 8 then .ok (.mk 1 .empty .empty [] []) p
  else if t.kind = 9 then .ok (.mk 2 .empty .empty [] []) p
  else if t.kind = 10 then .ok (.mk 3 (bT t.text) .empty [] []) p
  else if t.kind = 11 then .ok (.mk 4 .empty (bT t.text) [] []) p
  else .bad 51 t.at_
/-- an array's part -/
def aPt (val : Tok → Nat → Rd VT) (xs : List VT) (t : Tok) (p : Nat) : Rd (List VT) := match val t p with
  | .ok v q => .ok (xs ++ [v]) q
  | .bad e q => .bad e q
/-- an object's part -/
def oPt (l : List UInt8) (val : Tok → Nat → Rd VT) (fs : List (List UInt8 × VT)) (t : Tok) (p : Nat) : Rd (List (List UInt8 × VT)) :=
  if t.kind = 11 then
    (if fs.any (fun f => f.1 == t.text) = true then .bad 53 t.at_ else
      match mustL l p with
      | .bad e q => .bad e q
      | .ok c p1 => if c.kind = 5 then
          (match mustL l p1 with
          | .bad e q => .bad e q
          | .ok t2 p2 => match val t2 p2 with
            | .bad e q => .bad e q
            | .ok v p3 => .ok (fs ++ [(t.text, v)]) p3) else .bad 51 c.at_)
  else .bad 51 t.at_
def arrL (l : List UInt8) (val : Tok → Nat → Rd VT) (p : Nat) : Rd VT := match rowL l 4 (aPt val) [] p with
  | .ok xs q => .ok (.mk 5 .empty .empty xs []) q
  | .bad e q => .bad e q
theorem inF_leaf (lo : Nat) (W : World) (h : Nat) (k : Int) (n t : ByteArray) (hn : n.size ≤ 140737488355328) (ht : t.size ≤ 140737488355328) : InF lo W (h + 1) (.mk k n t [] []) (.agg #[.int .i64 k, .string n, .string t, .slice none 0 0, .slice none 0 0]) :=
  ⟨none, 0, none, 0, rfl, hn, ht, Nat.zero_le _, Nat.zero_le _, Nat.le_refl _, Nat.le_refl _, fun k hk => (by cases hk), fun h => absurd h (by show ¬ 0 < 0; omega), fun h => absurd h (by show ¬ 0 < 0; omega)⟩
theorem vbox_cells {w : World} {B : Nat} {t : TypeId} {y0 y1 y2 y3 y4 : Value} (h : w.heap[B]? = some (.cells #[y0, y1, y2, y3, y4] t (0, 0))) :
    w.cell? ⟨B, 0, none⟩ = some y0 ∧ w.cell? ⟨B, 1, none⟩ = some y1 ∧ w.cell? ⟨B, 2, none⟩ = some y2 ∧ w.cell? ⟨B, 3, none⟩ = some y3 ∧ w.cell? ⟨B, 4, none⟩ = some y4 ∧ w.frozen? ⟨B, 0, none⟩ = false ∧ w.frozen? ⟨B, 1, none⟩ = false ∧ w.frozen? ⟨B, 2, none⟩ = false ∧ w.frozen? ⟨B, 3, none⟩ = false ∧ w.frozen? ⟨B, 4, none⟩ = false := by
  refine ⟨?_, ?_, ?_, ?_, ?_, frozen_rowT h, frozen_rowT h, frozen_rowT h, frozen_rowT h, frozen_rowT h⟩ <;> rw [cell_of_row _ _ _ _ _ _ h] <;> rfl
/-- what value answers, by what an array and an object are read as -/
def valAt (d : Nat) (ra ro : Rd VT) (t : Tok) (p : Nat) : Rd VT :=
  if t.kind = 3 then (if d ≤ 64 then ra else .bad 52 t.at_) else if t.kind = 1 then (if d ≤ 64 then ro else .bad 52 t.at_) else leafL t p
def VlR (I : Nat) (s : ByteArray) (h : Nat) (w : World) (r : Rd VT) (e : Ending) (w' : World) : Prop := RdR I s w (fun T u v => InF w.heap.size u (h + 1) T v) r e w'

set_option maxRecDepth 100000 in
set_option maxHeartbeats 3200000 in
theorem w_value_leaf (s : ByteArray) (I d h : Nat) (t : Tok) (p : Nat) (w : World) (hI : InAt w I s p) (ht : t.text.length ≤ 140737488355328) (h3 : t.kind ≠ 3) (h1 : t.kind ≠ 1) :
    Calls Tryz.prog 40 #[.pointer (some ⟨I, 0, none⟩), tokV t, .int .i64 (d : Int)] w fun e w' => VlR I s h w (leafL t p) e w' := by
  obtain ⟨kd, pa, fi, tx, er⟩ := t
  unfold tokV
  dsimp only at *
  have hIl := hI.lt
  have HI := Hid.mk hI
  obtain ⟨R, hR⟩ : ∃ R, leafL ⟨kd, pa, fi, tx, er⟩ p = R := ⟨_, rfl⟩
  rw [hR]
  unfold leafL at hR
  dsimp only at hR
  have b3 : ((kd : Int) == 3) = false := by rw [beq_eq_false_iff_ne]; omega
  have b1 : ((kd : Int) == 1) = false := by rw [beq_eq_false_iff_ne]; omega
  have HT := Hid.mk ht
  clear hI ht
  by_cases h7 : kd = 7
  · subst h7
    rw [if_pos rfl] at hR
    have HR := Hid.mk hR
    clear hR
    go_enter Tryz.func40, Tryz.ntmps40
    go_wp2_with fail
    refine bodyPost_ret (v := .agg #[.int .i64 0, .string ⟨#[]⟩, .string ⟨#[]⟩, .slice none 0 0, .slice none 0 0]) (by simp [results, Tryz.results40, go_sem]) rfl ?_
    rw [← HR.out]
    exact ⟨But.of ((below1 w _).alloc (by simp) _), ⟨_, rfl, inF_leaf _ _ _ 0 .empty .empty (by decide) (by decide)⟩, (HI.out.alloc _).alloc _⟩
  have b7 : ((kd : Int) == 7) = false := by rw [beq_eq_false_iff_ne]; omega
  by_cases h8 : kd = 8
  · subst h8
    rw [if_neg (by omega), if_pos rfl] at hR
    have HR := Hid.mk hR
    clear hR
    go_enter Tryz.func40, Tryz.ntmps40
    go_wp2_with fail
    refine bodyPost_ret (v := .agg #[.int .i64 1, .string ⟨#[]⟩, .string ⟨#[]⟩, .slice none 0 0, .slice none 0 0]) (by simp [results, Tryz.results40, go_sem]) rfl ?_
    rw [← HR.out]
    exact ⟨But.of ((below1 w _).alloc (by simp) _), ⟨_, rfl, inF_leaf _ _ _ 1 .empty .empty (by decide) (by decide)⟩, (HI.out.alloc _).alloc _⟩
  have b8 : ((kd : Int) == 8) = false := by rw [beq_eq_false_iff_ne]; omega
  by_cases h9 : kd = 9
  · subst h9
    rw [if_neg (by omega), if_neg (by omega), if_pos rfl] at hR
    have HR := Hid.mk hR
    clear hR
    go_enter Tryz.func40, Tryz.ntmps40
    go_wp2_with fail
    refine bodyPost_ret (v := .agg #[.int .i64 2, .string ⟨#[]⟩, .string ⟨#[]⟩, .slice none 0 0, .slice none 0 0]) (by simp [results, Tryz.results40, go_sem]) rfl ?_
    rw [← HR.out]
    exact ⟨But.of ((below1 w _).alloc (by simp) _), ⟨_, rfl, inF_leaf _ _ _ 2 .empty .empty (by decide) (by decide)⟩, (HI.out.alloc _).alloc _⟩
  have b9 : ((kd : Int) == 9) = false := by rw [beq_eq_false_iff_ne]; omega
  by_cases h10 : kd = 10
  · subst h10
    rw [if_neg (by omega), if_neg (by omega), if_neg (by omega), if_pos rfl] at hR
    have HR := Hid.mk hR
    clear hR
    go_enter Tryz.func40, Tryz.ntmps40
    go_wp2_with fail
    refine bodyPost_ret (v := .agg #[.int .i64 3, .string ⟨tx.toArray⟩, .string ⟨#[]⟩, .slice none 0 0, .slice none 0 0]) (by simp [results, Tryz.results40, go_sem]) rfl ?_
    rw [← HR.out]
    exact ⟨But.of ((below1 w _).alloc (by simp) _), ⟨_, rfl, inF_leaf _ _ _ 3 (bT tx) .empty (by show tx.toArray.size ≤ _; have := HT.out; simpa using this) (by decide)⟩, (HI.out.alloc _).alloc _⟩
  have b10 : ((kd : Int) == 10) = false := by rw [beq_eq_false_iff_ne]; omega
  by_cases h11 : kd = 11
  · subst h11
    rw [if_neg (by omega), if_neg (by omega), if_neg (by omega), if_neg (by omega), if_pos rfl] at hR
    have HR := Hid.mk hR
    clear hR
    go_enter Tryz.func40, Tryz.ntmps40
    go_wp2_with fail
    refine bodyPost_ret (v := .agg #[.int .i64 4, .string ⟨#[]⟩, .string ⟨tx.toArray⟩, .slice none 0 0, .slice none 0 0]) (by simp [results, Tryz.results40, go_sem]) rfl ?_
    rw [← HR.out]
    exact ⟨But.of ((below1 w _).alloc (by simp) _), ⟨_, rfl, inF_leaf _ _ _ 4 .empty (bT tx) (by decide) (by show tx.toArray.size ≤ _; have := HT.out; simpa using this)⟩, (HI.out.alloc _).alloc _⟩
  have b11 : ((kd : Int) == 11) = false := by rw [beq_eq_false_iff_ne]; omega
  rw [if_neg h7, if_neg h8, if_neg h9, if_neg h10, if_neg h11] at hR
  have HR := Hid.mk hR
  clear hR
  go_enter Tryz.func40, Tryz.ntmps40
  go_wp2_with fail
  refine ⟨rfl, ?_⟩
  rw [← HR.out]
  exact ⟨But.of ((below1 w _).alloc (by simp) _), rfl⟩
end Go.Proofs.YtfgfgcecbodjeaaGreatDoor
namespace Go.Proofs.YtfgfgcecbodjeaaGreatDoor
open Go.RowKit Go.Shelf
set_option linter.unusedVariables false
set_option linter.unusedSimpArgs false
attribute [local go_sem] Oper.semAt_some

theorem rbox_set5 (w : World) (B : Nat) (t : TypeId) (y0 y1 y2 y3 y4 a0 a1 a2 a3 a4 : Value) (h : w.heap[B]? = some (.cells #[y0, y1, y2, y3, y4] t (0, 0))) (wz : World) (hz : wz = ((((w.setCell ⟨B, 0, none⟩ a0).setCell ⟨B, 1, none⟩ a1).setCell ⟨B, 2, none⟩ a2).setCell ⟨B, 3, none⟩ a3).setCell ⟨B, 4, none⟩ a4) :
    wz.heap[B]? = some (.cells #[a0, a1, a2, a3, a4] t (0, 0)) ∧ (∀ b, b ≠ B → wz.heap[b]? = w.heap[b]?) ∧ wz.heap.size = w.heap.size := by
  subst hz
  refine ⟨rset (i := 4) a4 (rset (i := 3) a3 (rset (i := 2) a2 (rset (i := 1) a1 (rset (i := 0) a0 h)))), fun b hb => ?_, by simp⟩
  rw [Below.heap_setCell _ _ _ _ hb, Below.heap_setCell _ _ _ _ hb, Below.heap_setCell _ _ _ _ hb, Below.heap_setCell _ _ _ _ hb, Below.heap_setCell _ _ _ _ hb]

set_option maxRecDepth 100000 in
set_option maxHeartbeats 3200000 in
theorem w_value_arr (s : ByteArray) (I d h : Nat) (hd : d ≤ 64) (t : Tok) (h3 : t.kind = 3) (p : Nat) (w : World) (hI : InAt w I s p) (r : Rd VT) (HA : ∀ u, InAt u I s p → Below w.heap.size w u → Calls Tryz.prog 50 #[.pointer (some ⟨I, 0, none⟩), .int .i64 (d : Int)] u fun e w' => VlR I s h u r e w') :
    Calls Tryz.prog 40 #[.pointer (some ⟨I, 0, none⟩), tokV t, .int .i64 (d : Int)] w fun e w' => VlR I s h w r e w' := by
  have HMb : Hid (∀ u, Calls Tryz.prog 49 #[.int .i64 (d : Int), tokV t] u fun e w' => Below u.heap.size u w' ∧ e = .returned (.tuple #[])) := fun u => (w_mayBe d (by omega) t u).mono (by
    rintro e w' ⟨h1, ⟨_, h2⟩ | ⟨h2, _⟩⟩
    · exact ⟨h1, h2⟩
    · omega)
  obtain ⟨kd, pa, fi, tx, er⟩ := t
  unfold tokV at *
  dsimp only at *
  subst h3
  have hIl := hI.lt
  have HI := Hid.mk hI
  have HAr := Hid.mk HA
  clear hI HA
  go_enter Tryz.func40, Tryz.ntmps40
  go_wp2_with fail
  refine (HMb.out _).mono ?_
  rintro e w1 ⟨hb1, rfl⟩
  obtain ⟨W0, hW0⟩ : ∃ W0, (w.alloc (.cells #[.int .i64 3, .int .i64 (pa : Int), .int .i64 (fi : Int), .string ⟨tx.toArray⟩] 73)).alloc (.cells #[.int .i64 0, .string ⟨#[]⟩, .string ⟨#[]⟩, .slice none 0 0, .slice none 0 0] 37) = W0 := ⟨_, rfl⟩
  rw [hW0] at hb1
  have hz0 : W0.heap.size = w.heap.size + 1 + 1 := by rw [← hW0]; simp
  have q0 : W0.heap[w.heap.size + 1]? = some (.cells #[.int .i64 0, .string ⟨#[]⟩, .string ⟨#[]⟩, .slice none 0 0, .slice none 0 0] 37 (0, 0)) := by
    rw [← hW0, show w.heap.size + 1 = (w.alloc (.cells #[.int .i64 3, .int .i64 (pa : Int), .int .i64 (fi : Int), .string ⟨tx.toArray⟩] 73)).heap.size by simp, heap_alloc_new]
  have hbw : Below w.heap.size w W0 := by rw [← hW0]; exact (below1 w _).alloc (by simp) _
  have q1 := (hb1.block _ (by omega)).trans q0
  have hbw1 := hbw.trans (hb1.mono (by omega))
  have hsz1 := hb1.size
  rw [hz0] at hsz1
  have HB := Hid.mk hbw1
  have HQ := Hid.mk q1
  have HZ := Hid.mk hsz1
  clear hW0 hb1 hz0 q0 q1 hbw hbw1 hsz1
  go_wp2_with fail
  refine (HAr.out _ (HI.out.keep HB.out) HB.out).mono ?_
  rintro e w2 ⟨hbut, hm⟩
  have hsz := HZ.out
  cases r with
  | bad er' q =>
    have hm' : e = .panicked (fch er' q) := hm
    subst hm'
    exact ⟨rfl, (But.of HB.out).trans hbut, rfl⟩
  | ok T q =>
    obtain ⟨⟨v, rfl, hF⟩, hin⟩ := hm
    have q2 := (hbut.block _ (by omega) (by omega)).trans HQ.out
    obtain ⟨t0, t1, t2, t3, t4, f0, f1, f2, f3, f4⟩ := vbox_cells q2
    have HF := Hid.mk hF
    obtain ⟨io, icap, ko, kcap, hv, _⟩ := hF
    have HN := Hid.mk (And.intro hbut (And.intro hin q2))
    clear hbut hin q2 hsz
    subst hv
    go_wp2_with fail
    obtain ⟨hbut, hin, q2⟩ := HN.out
    have hsz := HZ.out
    generalize hz5 : ((((w2.setCell ⟨w.heap.size + 1, 0, none⟩ (.int .i64 T.kind)).setCell ⟨w.heap.size + 1, 1, none⟩ (.string T.num)).setCell ⟨w.heap.size + 1, 2, none⟩ (.string T.text)).setCell ⟨w.heap.size + 1, 3, none⟩ (.slice io T.items.length icap)).setCell ⟨w.heap.size + 1, 4, none⟩ (.slice ko T.keys.length kcap) = wz
    obtain ⟨e5, k5, s5⟩ := rbox_set5 w2 _ _ _ _ _ _ _ _ _ _ _ _ q2 wz hz5.symm
    have u5 : But I w wz := by rw [← hz5]; exact (((((But.of HB.out).trans hbut).set2 _ 0 (by omega) _).set2 _ 1 (by omega) _).set2 _ 2 (by omega) _ |>.set2 _ 3 (by omega) _).set2 _ 4 (by omega) _
    obtain ⟨d0, d1, d2, d3, d4, _⟩ := vbox_cells e5
    refine bodyPost_ret (v := .agg #[.int .i64 T.kind, .string T.num, .string T.text, .slice io T.items.length icap, .slice ko T.keys.length kcap]) (by simp [results, Tryz.results40, go_sem, d0, d1, d2, d3, d4]) rfl ?_
    exact ⟨u5, ⟨_, rfl, InF.keepB (by omega) (fun b hb hl => k5 b (by omega)) (by omega) HF.out⟩, (k5 _ (by omega)).trans hin⟩
end Go.Proofs.YtfgfgcecbodjeaaGreatDoor
namespace Go.Proofs.YtfgfgcecbodjeaaGreatDoor
open Go.RowKit Go.Shelf
set_option linter.unusedVariables false
set_option linter.unusedSimpArgs false
attribute [local go_sem] Oper.semAt_some

set_option maxRecDepth 100000 in
set_option maxHeartbeats 3200000 in
theorem w_value_obj (s : ByteArray) (I d h : Nat) (hd : d ≤ 64) (t : Tok) (h3 : t.kind = 1) (p : Nat) (w : World) (hI : InAt w I s p) (r : Rd VT) (HA : ∀ u, InAt u I s p → Below w.heap.size w u → Calls Tryz.prog 51 #[.pointer (some ⟨I, 0, none⟩), .int .i64 (d : Int)] u fun e w' => VlR I s h u r e w') :
    Calls Tryz.prog 40 #[.pointer (some ⟨I, 0, none⟩), tokV t, .int .i64 (d : Int)] w fun e w' => VlR I s h w r e w' := by
  have HMb : Hid (∀ u, Calls Tryz.prog 49 #[.int .i64 (d : Int), tokV t] u fun e w' => Below u.heap.size u w' ∧ e = .returned (.tuple #[])) := fun u => (w_mayBe d (by omega) t u).mono (by
    rintro e w' ⟨h1, ⟨_, h2⟩ | ⟨h2, _⟩⟩
    · exact ⟨h1, h2⟩
    · omega)
  obtain ⟨kd, pa, fi, tx, er⟩ := t
  unfold tokV at *
  dsimp only at *
  subst h3
  have hIl := hI.lt
  have HI := Hid.mk hI
  have HAr := Hid.mk HA
  clear hI HA
  go_enter Tryz.func40, Tryz.ntmps40
  go_wp2_with fail
  refine (HMb.out _).mono ?_
  rintro e w1 ⟨hb1, rfl⟩
  obtain ⟨W0, hW0⟩ : ∃ W0, (w.alloc (.cells #[.int .i64 1, .int .i64 (pa : Int), .int .i64 (fi : Int), .string ⟨tx.toArray⟩] 73)).alloc (.cells #[.int .i64 0, .string ⟨#[]⟩, .string ⟨#[]⟩, .slice none 0 0, .slice none 0 0] 37) = W0 := ⟨_, rfl⟩
  rw [hW0] at hb1
  have hz0 : W0.heap.size = w.heap.size + 1 + 1 := by rw [← hW0]; simp
  have q0 : W0.heap[w.heap.size + 1]? = some (.cells #[.int .i64 0, .string ⟨#[]⟩, .string ⟨#[]⟩, .slice none 0 0, .slice none 0 0] 37 (0, 0)) := by
    rw [← hW0, show w.heap.size + 1 = (w.alloc (.cells #[.int .i64 1, .int .i64 (pa : Int), .int .i64 (fi : Int), .string ⟨tx.toArray⟩] 73)).heap.size by simp, heap_alloc_new]
  have hbw : Below w.heap.size w W0 := by rw [← hW0]; exact (below1 w _).alloc (by simp) _
  have q1 := (hb1.block _ (by omega)).trans q0
  have hbw1 := hbw.trans (hb1.mono (by omega))
  have hsz1 := hb1.size
  rw [hz0] at hsz1
  have HB := Hid.mk hbw1
  have HQ := Hid.mk q1
  have HZ := Hid.mk hsz1
  clear hW0 hb1 hz0 q0 q1 hbw hbw1 hsz1
  go_wp2_with fail
  refine (HAr.out _ (HI.out.keep HB.out) HB.out).mono ?_
  rintro e w2 ⟨hbut, hm⟩
  have hsz := HZ.out
  cases r with
  | bad er' q =>
    have hm' : e = .panicked (fch er' q) := hm
    subst hm'
    exact ⟨rfl, (But.of HB.out).trans hbut, rfl⟩
  | ok T q =>
    obtain ⟨⟨v, rfl, hF⟩, hin⟩ := hm
    have q2 := (hbut.block _ (by omega) (by omega)).trans HQ.out
    obtain ⟨t0, t1, t2, t3, t4, f0, f1, f2, f3, f4⟩ := vbox_cells q2
    have HF := Hid.mk hF
    obtain ⟨io, icap, ko, kcap, hv, _⟩ := hF
    have HN := Hid.mk (And.intro hbut (And.intro hin q2))
    clear hbut hin q2 hsz
    subst hv
    go_wp2_with fail
    obtain ⟨hbut, hin, q2⟩ := HN.out
    have hsz := HZ.out
    generalize hz5 : ((((w2.setCell ⟨w.heap.size + 1, 0, none⟩ (.int .i64 T.kind)).setCell ⟨w.heap.size + 1, 1, none⟩ (.string T.num)).setCell ⟨w.heap.size + 1, 2, none⟩ (.string T.text)).setCell ⟨w.heap.size + 1, 3, none⟩ (.slice io T.items.length icap)).setCell ⟨w.heap.size + 1, 4, none⟩ (.slice ko T.keys.length kcap) = wz
    obtain ⟨e5, k5, s5⟩ := rbox_set5 w2 _ _ _ _ _ _ _ _ _ _ _ _ q2 wz hz5.symm
    have u5 : But I w wz := by rw [← hz5]; exact (((((But.of HB.out).trans hbut).set2 _ 0 (by omega) _).set2 _ 1 (by omega) _).set2 _ 2 (by omega) _ |>.set2 _ 3 (by omega) _).set2 _ 4 (by omega) _
    obtain ⟨d0, d1, d2, d3, d4, _⟩ := vbox_cells e5
    refine bodyPost_ret (v := .agg #[.int .i64 T.kind, .string T.num, .string T.text, .slice io T.items.length icap, .slice ko T.keys.length kcap]) (by simp [results, Tryz.results40, go_sem, d0, d1, d2, d3, d4]) rfl ?_
    exact ⟨u5, ⟨_, rfl, InF.keepB (by omega) (fun b hb hl => k5 b (by omega)) (by omega) HF.out⟩, (k5 _ (by omega)).trans hin⟩

set_option maxRecDepth 100000 in
set_option maxHeartbeats 3200000 in
theorem w_value_deep3 (s : ByteArray) (I d h : Nat) (hd : 64 < d) (hd2 : d ≤ 1000000) (t : Tok) (h3 : t.kind = 3) (p : Nat) (w : World) :
    Calls Tryz.prog 40 #[.pointer (some ⟨I, 0, none⟩), tokV t, .int .i64 (d : Int)] w fun e w' => VlR I s h w (.bad 52 t.at_) e w' := by
  have HMb : Hid (∀ u, Calls Tryz.prog 49 #[.int .i64 (d : Int), tokV t] u fun e w' => Below u.heap.size u w' ∧ e = .panicked (fch 52 t.at_)) := fun u => (w_mayBe d (by omega) t u).mono (by
    rintro e w' ⟨h1, ⟨h2, _⟩ | ⟨_, h2⟩⟩
    · omega
    · exact ⟨h1, h2⟩)
  obtain ⟨kd, pa, fi, tx, er⟩ := t
  unfold tokV at *
  dsimp only at *
  subst h3
  go_enter Tryz.func40, Tryz.ntmps40
  go_wp2_with fail
  refine (HMb.out _).mono ?_
  rintro e w1 ⟨hb1, rfl⟩
  exact ⟨rfl, But.of (((below1 w _).alloc (by simp) _).trans (hb1.mono (by simp; omega))), rfl⟩

set_option maxRecDepth 100000 in
set_option maxHeartbeats 3200000 in
theorem w_value_deep1 (s : ByteArray) (I d h : Nat) (hd : 64 < d) (hd2 : d ≤ 1000000) (t : Tok) (h3 : t.kind = 1) (p : Nat) (w : World) :
    Calls Tryz.prog 40 #[.pointer (some ⟨I, 0, none⟩), tokV t, .int .i64 (d : Int)] w fun e w' => VlR I s h w (.bad 52 t.at_) e w' := by
  have HMb : Hid (∀ u, Calls Tryz.prog 49 #[.int .i64 (d : Int), tokV t] u fun e w' => Below u.heap.size u w' ∧ e = .panicked (fch 52 t.at_)) := fun u => (w_mayBe d (by omega) t u).mono (by
    rintro e w' ⟨h1, ⟨h2, _⟩ | ⟨_, h2⟩⟩
    · omega
    · exact ⟨h1, h2⟩)
  obtain ⟨kd, pa, fi, tx, er⟩ := t
  unfold tokV at *
  dsimp only at *
  subst h3
  go_enter Tryz.func40, Tryz.ntmps40
  go_wp2_with fail
  refine (HMb.out _).mono ?_
  rintro e w1 ⟨hb1, rfl⟩
  exact ⟨rfl, But.of (((below1 w _).alloc (by simp) _).trans (hb1.mono (by simp; omega))), rfl⟩
end Go.Proofs.YtfgfgcecbodjeaaGreatDoor
namespace Go.Proofs.YtfgfgcecbodjeaaGreatDoor
open Go.RowKit Go.Shelf
set_option linter.unusedVariables false
set_option linter.unusedSimpArgs false
attribute [local go_sem] Oper.semAt_some

/-- the tree stands in memory, in such blocks -/
def InD (D : Nat → Prop) (W : World) : Nat → VT → Value → Prop
  | 0, _, _ => False
  | h + 1, T, v => ∃ (io : Option Addr) (icap : Nat) (ko : Option Addr) (kcap : Nat),
      v = .agg #[.int .i64 T.kind, .string T.num, .string T.text, .slice io T.items.length icap, .slice ko T.keys.length kcap] ∧
      T.num.size ≤ 140737488355328 ∧ T.text.size ≤ 140737488355328 ∧ T.items.length ≤ 140737488355328 ∧ T.keys.length ≤ 140737488355328 ∧ T.items.length ≤ icap ∧ T.keys.length ≤ kcap ∧
      (∀ k ∈ T.keys, k.size ≤ 140737488355328) ∧
      (0 < T.keys.length → ∃ b off, ko = some ⟨b, off, none⟩ ∧ D b ∧ b < W.heap.size ∧ ∀ i, i < T.keys.length → W.cell? ⟨b, off + i, none⟩ = some (.string (T.keys.getD i .empty))) ∧
      (0 < T.items.length → ∃ b off, io = some ⟨b, off, none⟩ ∧ D b ∧ b < W.heap.size ∧ ∀ i, (hi : i < T.items.length) → ∃ v0 v1 v2 v3 v4 : Value,
        (W.cell? ⟨b, off + i * 5, none⟩ = some v0 ∧ W.cell? ⟨b, off + i * 5 + 1, none⟩ = some v1 ∧ W.cell? ⟨b, off + i * 5 + 2, none⟩ = some v2 ∧ W.cell? ⟨b, off + i * 5 + 3, none⟩ = some v3 ∧ W.cell? ⟨b, off + i * 5 + 4, none⟩ = some v4) ∧ InD D W h T.items[i] (.agg #[v0, v1, v2, v3, v4]))
theorem InD.iff {lo : Nat} {W : World} : ∀ {h : Nat} {T : VT} {v : Value}, InD (fun b => lo ≤ b) W h T v ↔ InF lo W h T v
  | 0, _, _ => Iff.rfl
  | h + 1, T, v => by
    constructor
    · rintro ⟨io, icap, ko, kcap, e, a1, a2, a3, a4, a5, a6, a7, hk, hi⟩
      refine ⟨io, icap, ko, kcap, e, a1, a2, a3, a4, a5, a6, a7, hk, fun h0 => ?_⟩
      obtain ⟨b, off, e2, hb, hl, hc⟩ := hi h0
      refine ⟨b, off, e2, hb, hl, fun i hil => ?_⟩
      obtain ⟨v0, v1, v2, v3, v4, c, ht⟩ := hc i hil
      exact ⟨v0, v1, v2, v3, v4, c, InD.iff.1 ht⟩
    · rintro ⟨io, icap, ko, kcap, e, a1, a2, a3, a4, a5, a6, a7, hk, hi⟩
      refine ⟨io, icap, ko, kcap, e, a1, a2, a3, a4, a5, a6, a7, hk, fun h0 => ?_⟩
      obtain ⟨b, off, e2, hb, hl, hc⟩ := hi h0
      refine ⟨b, off, e2, hb, hl, fun i hil => ?_⟩
      obtain ⟨v0, v1, v2, v3, v4, c, ht⟩ := hc i hil
      exact ⟨v0, v1, v2, v3, v4, c, InD.iff.2 ht⟩
theorem InD.keep {D D' : Nat → Prop} {W W' : World} (hz : W.heap.size ≤ W'.heap.size) (hs : ∀ b, D b → b < W.heap.size → W'.heap[b]? = W.heap[b]?) (hlo : ∀ b, D b → b < W.heap.size → D' b) : ∀ {h : Nat} {T : VT} {v : Value}, InD D W h T v → InD D' W' h T v
  | 0, _, _, h => h
  | h + 1, T, v, hI => by
    obtain ⟨io, icap, ko, kcap, e, a1, a2, a3, a4, a5, a6, a7, hk, hi⟩ := hI
    have cc : ∀ b o u, D b → b < W.heap.size → W.cell? ⟨b, o, none⟩ = some u → W'.cell? ⟨b, o, none⟩ = some u := fun b o u h1 h2 h3 => (World.cell?_of_block (a := ⟨b, o, none⟩) (hs b h1 h2)).trans h3
    refine ⟨io, icap, ko, kcap, e, a1, a2, a3, a4, a5, a6, a7, fun h0 => ?_, fun h0 => ?_⟩
    · obtain ⟨b, off, e2, hb, hl, hc⟩ := hk h0
      exact ⟨b, off, e2, hlo b hb hl, Nat.lt_of_lt_of_le hl hz, fun i hi => cc _ _ _ hb hl (hc i hi)⟩
    · obtain ⟨b, off, e2, hb, hl, hc⟩ := hi h0
      refine ⟨b, off, e2, hlo b hb hl, Nat.lt_of_lt_of_le hl hz, fun i hil => ?_⟩
      obtain ⟨v0, v1, v2, v3, v4, ⟨c0, c1, c2, c3, c4⟩, ht⟩ := hc i hil
      exact ⟨v0, v1, v2, v3, v4, ⟨cc _ _ _ hb hl c0, cc _ _ _ hb hl c1, cc _ _ _ hb hl c2, cc _ _ _ hb hl c3, cc _ _ _ hb hl c4⟩, InD.keep hz hs hlo ht⟩
end Go.Proofs.YtfgfgcecbodjeaaGreatDoor
namespace Go.Proofs.YtfgfgcecbodjeaaGreatDoor
open Go.RowKit Go.Shelf
set_option linter.unusedVariables false
set_option linter.unusedSimpArgs false

/-- a cell of a row written over -/
theorem own_setJ {w : World} {B n cap g j size : Nat} {e : TypeId} {xs : List Value} (h : w.ownsRow B e size (.slice (some ⟨g, 0, none⟩) n cap) n xs) (hj : j < n * size) (x : Value) : (w.setCell ⟨g, j, none⟩ x).ownsRow B e size (.slice (some ⟨g, 0, none⟩) n cap) n (xs.set j x) := by
  refine ⟨by rw [List.length_set]; exact h.1, ?_⟩
  rcases h.2 with ⟨e1, e2⟩ | ⟨g', cap', cur, e1, hb, hg, h1, h2, h3, h4⟩
  · cases e1
  · simp only [Value.slice.injEq, Option.some.injEq, Addr.mk.injEq] at e1
    obtain ⟨⟨rfl, _, _⟩, _, rfl⟩ := e1
    refine .inr ⟨g, cap, cur.setIfInBounds j x, rfl, hb, rset (i := j) x hg, h1, h2, by simpa using h3, ?_⟩
    rw [Array.toList_setIfInBounds, List.take_set, h4]
/-- the last element of a row of values written over -/
theorem own_set5 {w : World} {B cap g k : Nat} {e : TypeId} {xs : List Value} (hx : xs.length = k * 5) {z0 z1 z2 z3 z4 : Value} (h : w.ownsRow B e 5 (.slice (some ⟨g, 0, none⟩) (k + 1) cap) (k + 1) (xs ++ [z0, z1, z2, z3, z4])) (x0 x1 x2 x3 x4 : Value) :
    (((((w.setCell ⟨g, k * 5, none⟩ x0).setCell ⟨g, k * 5 + 1, none⟩ x1).setCell ⟨g, k * 5 + 2, none⟩ x2).setCell ⟨g, k * 5 + 3, none⟩ x3).setCell ⟨g, k * 5 + 4, none⟩ x4).ownsRow B e 5 (.slice (some ⟨g, 0, none⟩) (k + 1) cap) (k + 1) (xs ++ [x0, x1, x2, x3, x4]) := by
  have h5 := own_setJ (own_setJ (own_setJ (own_setJ (own_setJ h (j := k * 5) (by omega) x0) (j := k * 5 + 1) (by omega) x1) (j := k * 5 + 2) (by omega) x2) (j := k * 5 + 3) (by omega) x3) (j := k * 5 + 4) (by omega) x4
  have e0 : ((((((xs ++ [z0, z1, z2, z3, z4]).set (k * 5) x0).set (k * 5 + 1) x1).set (k * 5 + 2) x2).set (k * 5 + 3) x3).set (k * 5 + 4) x4) = xs ++ [x0, x1, x2, x3, x4] := by
    rw [← hx]
    have s0 : ∀ (ys : List Value) (j : Nat) (v : Value), (xs ++ ys).set (xs.length + j) v = xs ++ ys.set j v := fun ys j v => by rw [List.set_append_right _ _ (by omega)]; congr 2; omega
    have s1 := s0 [z0, z1, z2, z3, z4] 0 x0
    rw [Nat.add_zero] at s1
    rw [s1, s0, s0, s0, s0]
    rfl
  rw [e0] at h5
  exact h5
end Go.Proofs.YtfgfgcecbodjeaaGreatDoor
