import Derived.Test.YtdehejadiofomaaDoorD6
import Derived.Test.YtdehejadiofomaaDoorD7
import Derived.Test.YtdehejadiofomaaDoorK4
namespace Go.Proofs.YtdehejadiofomaaDoor
open Go.RowKit Go.Shelf
set_option linter.unusedVariables false
set_option linter.unusedSimpArgs false
attribute [local go_sem] Oper.semAt_some

theorem restY_err (l : List UInt8) : ∀ (f p : Nat) (a : List Tok) (x : Tok), a ++ [x] <+: restY l f p → x.err ≠ 0 → restY l f p = a ++ [x] := by
  intro f
  induction f with
  | zero => intro p a x h _; rw [restY] at h; have := List.prefix_nil.1 h; simp at this
  | succ f ih =>
    intro p a x h hx
    rw [restY] at h ⊢
    split at h
    · next h1 =>
      rw [if_pos h1]
      split at h
      · next h2 =>
        rw [if_pos h2]
        cases a with
        | nil =>
          rw [List.nil_append, List.cons_prefix_cons] at h
          exact absurd (h.1 ▸ h2) hx
        | cons b a =>
          rw [List.cons_append, List.cons_prefix_cons] at h
          rw [h.1, ih _ a x h.2 hx, List.cons_append]
      · next h2 =>
        rw [if_neg h2]
        cases a with
        | nil => rw [List.nil_append, List.cons_prefix_cons] at h; rw [h.1]; rfl
        | cons b a => rw [List.cons_append, List.cons_prefix_cons] at h; have := List.prefix_nil.1 h.2; simp at this
    · have := List.prefix_nil.1 h; simp at this

def flT (l : List Tok) : List Value := l.flatMap fun t => [.int .i64 (t.kind : Int), .int .i64 (t.at_ : Int), .int .i64 (t.fin : Int), .string ⟨t.text.toArray⟩]
theorem flT_snoc (l : List Tok) (t : Tok) : flT (l ++ [t]) = flT l ++ [.int .i64 (t.kind : Int), .int .i64 (t.at_ : Int), .int .i64 (t.fin : Int), .string ⟨t.text.toArray⟩] := by simp [flT]
theorem flT_len (l : List Tok) : (flT l).length = l.length * 4 := by
  induction l with
  | nil => rfl
  | cons t l ih => rw [show flT (t :: l) = [.int .i64 (t.kind : Int), .int .i64 (t.at_ : Int), .int .i64 (t.fin : Int), .string ⟨t.text.toArray⟩] ++ flT l from rfl, List.length_append, ih, List.length_cons]; simp; omega

set_option maxRecDepth 100000 in
set_option maxHeartbeats 800000 in
theorem w_Seq (s : ByteArray) (w : World) : Calls Tryd.prog 6 #[.string s] w fun e w' => e = .returned (.func (.func 14) #[.string s] #[]) ∧ w' = w := by
  go_enter Tryd.func6, Tryd.ntmps6
  go_wp2_with fail
  go_ret
  exact ⟨rfl, rfl⟩

theorem Tryd.infoTok : (Tryd.prog.info? 27).map (fun i => (i.zero, i.size, i.bytes)) = some (some (.agg #[.int .i64 0, .int .i64 0, .int .i64 0, .string ⟨#[]⟩]), 4, 40) := by kernel_rfl

/-- what Scan answers -/
def ScanR (l : List UInt8) (w w' : World) (e : Ending) : Prop :=
  (((∀ t ∈ allY l, t.err = 0) ∧ ∃ so sc, e = .returned (.tuple #[.slice so (allY l).length sc, .int .i64 0, .int .i64 0]) ∧ Hid (w'.ownsRow w.heap.size 27 4 (.slice so (allY l).length sc) (allY l).length (flT (allY l)))) ∨ (∃ pre x, allY l = pre ++ [x] ∧ x.err ≠ 0 ∧ e = .returned (.tuple #[.slice none 0 0, .int .i64 (x.err : Int), .int .i64 (x.at_ : Int)]))) ∧ Below w.heap.size w w'
theorem new4 {w : World} {g : Nat} {t : TypeId} {y0 y1 y2 y3 : Value} (h : w.heap[g]? = some (.cells #[y0, y1, y2, y3] t (0, 0))) : ∀ (j : Nat) u, [y0, y1, y2, y3][j]? = some u → w.cell? ((⟨g, 0, none⟩ : Addr).add j) = some u := World.news_of_block (cs := #[y0, y1, y2, y3]) h
theorem kpT_app {W w1 : World} {n₀ B : Nat} {t e : TypeId} {size : Nat} {v v' : Value} {k m : Nat} {xs ys : List Value} {tmp : Obj}
    (hv : Boxed W B t v) (hte : t ≠ e) (hrow : W.ownsRow n₀ e size v k xs) (hown' : w1.ownsRow n₀ e size v' m ys) (hgrow : (W.alloc tmp).grownBy w1 v.ownBlock) (hat : v'.ownBlock = v.ownBlock ∨ v'.ownBlock = some (W.alloc tmp).heap.size) (hv1 : Boxed w1 B t v) :
    KpT (fun b => b = B) B W (w1.setCell ⟨B, 0, none⟩ v') := by
  refine ⟨kpB_app hv hte hrow hown' hgrow hat hv1, fun b' eb => .inr ?_⟩
  have hr1 : rowAt (w1.setCell ⟨B, 0, none⟩ v') B = v'.ownBlock := by unfold rowAt; rw [(hv1.set v').cell]; rfl
  rw [hr1] at eb
  rcases hown'.2 with ⟨rfl, _⟩ | ⟨g', cap, cur, rfl, e2, e3, _⟩
  · cases eb
  · simp [Value.ownBlock] at eb
    subst eb
    have := (Array.getElem?_eq_some_iff.1 e3).1
    simpa using this
theorem box_set1 {W : World} {B : Nat} {t : TypeId} {y : Value} (v : Value) (h : W.heap[B]? = some (.cells #[y] t (0, 0))) : (W.setCell ⟨B, 0, none⟩ v).heap[B]? = some (.cells #[v] t (0, 0)) := by
  show (W.heap.modify B _)[B]? = _
  rw [Array.getElem?_modify, if_pos rfl, h]; rfl

theorem own_shapeT {w : World} {base : Nat} {e : TypeId} {size : Nat} {v : Value} {n : Nat} {xs : List Value} (h : w.ownsRow base e size v n xs) : ∃ so sc, v = .slice so n sc := by
  rcases h.2 with ⟨e, h0⟩ | ⟨g, cap, cur, e, _⟩
  · exact ⟨none, 0, by rw [e, h0]⟩
  · exact ⟨_, _, e⟩
theorem own_blkT {w w' : World} {base : Nat} {e : TypeId} {size : Nat} {v : Value} {n : Nat} {xs : List Value} (h : w.ownsRow base e size v n xs) (hb : ∀ g, base ≤ g → w'.heap[g]? = w.heap[g]?) {base' : Nat} (hle : base' ≤ base) : w'.ownsRow base' e size v n xs := by
  refine ⟨h.1, h.2.imp id ?_⟩
  rintro ⟨g, cap, cur, rfl, e2, e3, rest⟩
  exact ⟨g, cap, cur, rfl, Nat.le_trans hle e2, (hb g e2).trans e3, rest⟩
/-- the three results laid -/
theorem three_set {W wz : World} {m : Nat} {t2 t3 t4 : TypeId} {y2 y3 y4 : Value} (v2 v3 v4 : Value) (q2 : W.heap[m]? = some (.cells #[y2] t2 (0, 0))) (q3 : W.heap[m + 1]? = some (.cells #[y3] t3 (0, 0))) (q4 : W.heap[m + 1 + 1]? = some (.cells #[y4] t4 (0, 0)))
    (hz : wz = ((W.setCell ⟨m, 0, none⟩ v2).setCell ⟨m + 1, 0, none⟩ v3).setCell ⟨m + 1 + 1, 0, none⟩ v4) :
    wz.heap[m]? = some (.cells #[v2] t2 (0, 0)) ∧ wz.heap[m + 1]? = some (.cells #[v3] t3 (0, 0)) ∧ wz.heap[m + 1 + 1]? = some (.cells #[v4] t4 (0, 0)) ∧ KeepsOthers W wz ∧ Below m W wz ∧ ∀ b, m + 1 + 1 < b → wz.heap[b]? = W.heap[b]? := by
  subst hz
  have n1 : (W.setCell ⟨m, 0, none⟩ v2).heap[m + 1]? = some (.cells #[y3] t3 (0, 0)) := (Below.heap_setCell _ _ _ _ (by show m + 1 ≠ m; omega)).trans q3
  have n2 : ((W.setCell ⟨m, 0, none⟩ v2).setCell ⟨m + 1, 0, none⟩ v3).heap[m + 1 + 1]? = some (.cells #[y4] t4 (0, 0)) := ((Below.heap_setCell _ _ _ _ (by show m + 1 + 1 ≠ m + 1; omega)).trans (Below.heap_setCell _ _ _ _ (by show m + 1 + 1 ≠ m; omega))).trans q4
  refine ⟨?_, ?_, box_set1 v4 n2, ((KeepsOthers.setCell _ _ _).trans (KeepsOthers.setCell _ _ _)).trans (KeepsOthers.setCell _ _ _), (((Below.refl m W).setCell (p := ⟨m, 0, none⟩) (Nat.le_refl _) _).setCell (p := ⟨m + 1, 0, none⟩) (by show m ≤ m + 1; omega) _).setCell (p := ⟨m + 1 + 1, 0, none⟩) (by show m ≤ m + 1 + 1; omega) _, fun b hb => ?_⟩
  · exact ((Below.heap_setCell _ _ _ _ (by show m ≠ m + 1 + 1; omega)).trans (Below.heap_setCell _ _ _ _ (by show m ≠ m + 1; omega))).trans (box_set1 v2 q2)
  · exact (Below.heap_setCell _ _ _ _ (by show m + 1 ≠ m + 1 + 1; omega)).trans (box_set1 v3 n1)
  · rw [Below.heap_setCell _ _ _ _ (by show b ≠ m + 1 + 1; omega), Below.heap_setCell _ _ _ _ (by show b ≠ m + 1; omega), Below.heap_setCell _ _ _ _ (by show b ≠ m; omega)]

/-- a token's own box -/
def TBox (W : World) (Bx : Nat) (t : Tok) : Prop := W.heap[Bx]? = some (.cells #[.int .i64 (t.kind : Int), .int .i64 (t.at_ : Int), .int .i64 (t.fin : Int), .string ⟨t.text.toArray⟩] 27 (0, 0))
theorem kpT_below {E : Nat → Prop} {B : Nat} {W W' : World} (hB : B < W.heap.size) (h : Below W.heap.size W W') : KpT E B W W' :=
  ⟨⟨h.size, fun b o _ _ ho _ => heap_lowT h (Array.getElem?_eq_some_iff.1 ho).1 ho, .inl (rowAt_below h hB)⟩, fun b' e => .inl (by rw [rowAt_below h hB] at e; exact e)⟩
theorem cells_own {C : Nat} {A A' : World} {row : Option Nat} (hg : A.grownBy A' row) (hr : ∀ r, row = some r → C ≤ r ∧ ∃ o : Obj, A.heap[r]? = some o ∧ o.isCells = false) {b : Nat} {cs : Array Value} {t : TypeId} {f : Nat × Nat} (hb : A.heap[b]? = some (.cells cs t f)) : A'.heap[b]? = some (.cells cs t f) := by
  rw [hg.block b (Array.getElem?_eq_some_iff.1 hb).1 (fun e => by
    obtain ⟨_, o, ho, hoc⟩ := hr b e.symm
    rw [hb] at ho; cases ho; cases hoc)]
  exact hb
/-- how the loop is left by a return -/
def ScX (w : World) (xs : List Tok) (W : World) : Prop := ∃ pre x, xs = pre ++ [x] ∧ x.err ≠ 0 ∧ Below w.heap.size w W ∧ W.heap[w.heap.size]? = some (.cells #[.slice none 0 0] 22 (0, 0)) ∧ W.heap[w.heap.size + 1]? = some (.cells #[.int .i64 (x.err : Int)] 23 (0, 0)) ∧ W.heap[w.heap.size + 1 + 1]? = some (.cells #[.int .i64 (x.at_ : Int)] 3 (0, 0))
theorem ScX.own {w : World} {C : Nat} (hC : w.heap.size ≤ C) : OwnFrom C (ScX w) := by
  rintro xs A A' row ⟨pre, x, e, he, hb, h1, h2, h3⟩ hg hr
  exact ⟨pre, x, e, he, hb.grown hg hb.size (fun r e => Nat.le_trans hC (hr r e).1), cells_own hg hr h1, cells_own hg hr h2, cells_own hg hr h3⟩

set_option maxRecDepth 100000 in
set_option maxHeartbeats 6400000 in
theorem w_Scan (s : ByteArray) (w : World) (ss : s.size ≤ 16777216) (hE : ErrIn w) :
    Calls Tryd.prog 9 #[.string s] w fun e w' => ScanR s.data.toList w w' e := by
  obtain ⟨i0, hi0, hz0, hz1, hz2⟩ := info_parts Tryd.infoTok
  refine (callsIn_wide (n := 7)).1 ?_
  refine callsIn_of_wp_marks Tryd.func9 rfl trivial ?_ rfl
  simp only [Tryd.ntmps9, List.size_toArray, List.length_cons, List.length_nil, Nat.reduceAdd, Nat.reduceSub, Array.replicate_succ, Array.replicate_zero, List.push_toArray, List.append_toArray, List.nil_append, List.cons_append]
  gi_wp2_with fail
  refine ⟨trivial, (callsIn_wide.2 (w_Seq s _)).mono ?_⟩
  rintro e w1 ⟨rfl, rfl⟩
  gi_wp2_with fail
  obtain ⟨w3, hw3⟩ : ∃ w3, ((w.alloc (.cells #[.slice none 0 0] 22)).alloc (.cells #[.int .i64 0] 23)).alloc (.cells #[.int .i64 0] 3) = w3 := ⟨_, rfl⟩
  have hs3 : w3.heap.size = w.heap.size + 1 + 1 + 1 := by rw [← hw3]; simp
  have hb3 : Below w.heap.size w w3 := by rw [← hw3]; exact ((below1 w _).alloc (by simp) _).alloc (by simp; omega) _
  have r2 : w3.heap[w.heap.size]? = some (.cells #[.slice none 0 0] 22 (0, 0)) := by rw [← hw3, Below.heap_alloc _ _ _ (by simp; omega), Below.heap_alloc _ _ _ (by simp), heap_alloc_new]
  have r3 : w3.heap[w.heap.size + 1]? = some (.cells #[.int .i64 0] 23 (0, 0)) := by
    rw [← hw3, Below.heap_alloc _ _ _ (by simp), show w.heap.size + 1 = (w.alloc (.cells #[.slice none 0 0] 22)).heap.size by simp, heap_alloc_new]
  have r4 : w3.heap[w.heap.size + 1 + 1]? = some (.cells #[.int .i64 0] 3 (0, 0)) := by
    rw [← hw3, show w.heap.size + 1 + 1 = ((w.alloc (.cells #[.slice none 0 0] 22)).alloc (.cells #[.int .i64 0] 23)).heap.size by simp, heap_alloc_new]
  have hbx := Boxed.new w3 22 (.slice none 0 0)
  have hB0 : Below w3.heap.size w3 (w3.alloc (.cells #[.slice none 0 0] 22)) := (Below.refl _ w3).alloc (Nat.le_refl _) _
  have hsz4 : (w3.alloc (.cells #[.slice none 0 0] 22)).heap.size = w.heap.size + 1 + 1 + 1 + 1 := by simp [hs3]
  have hEl : 3 < w.heap.size := by
    obtain ⟨ev, hc, _⟩ := hE
    obtain ⟨o, ho, _⟩ := isCells_of_cell hc
    exact (Array.getElem?_eq_some_iff.1 ho).1
  have HE4 := Hid.mk (hE.keep (hb3.trans (hB0.mono (by omega))))
  rw [hw3]
  clear hw3
  obtain ⟨B, hBB⟩ : ∃ B, B = w.heap.size + 1 + 1 + 1 := ⟨_, rfl⟩
  rw [← hBB]
  rw [hs3, ← hBB] at hbx
  refine wpIn_range_meth (α := Tok) (by omega) (gf := 14) (s := .string s) rfl (enters_of Tryd.func14 (by kernel_rfl) rfl) (encs := encT) (fun _ => rfl) (Kp := KpT (fun b => b = B) B) (S := fun xs => xs = allY s.data.toList) (Sp := fun pre => pre <+: allY s.data.toList) (N := s.size + 1)
    (fun J Jx W hW hJ hJx hY h0 => cut_in (fun b => b = B) (7 - 1) (by omega) _ B s (by omega) _ (by unfold rowAt; rw [hbx.cell]; rfl) (by rw [hsz4, hBB]; omega) (fun b hb => by rw [hsz4, hb, hBB]; omega) HE4.out (by rw [hBB]; omega) (by rw [hsz4]; omega) J Jx W hW hJ hJx hY h0)
    (fun h k => h.trans k) (fun W r r' hb => KpT.put (w := w3.alloc (.cells #[.slice none 0 0] 22)) (by rw [hsz4, hBB]; omega) W _ _ _ (by omega) hb.book rfl rfl)
    (fun pre W => (∃ v, Boxed W B 22 v ∧ W.ownsRow B 27 4 v pre.length (flT pre) ∧ ∀ t ∈ pre, t.err = 0) ∧ Below w3.heap.size w3 W) (ScX w)
    (OwnFrom.and (Own.from (holdsRow_own _ _ _ _ _ (fun pre => pre.length) (fun pre => flT pre) (fun pre v => ∀ t ∈ pre, t.err = 0)) _) (ownFrom_below (Nat.le_refl _) (by rw [hsz4, hs3]; omega)))
    (ScX.own (by rw [hsz4]; omega))
    ⟨⟨_, hbx, World.ownsRow_nil _ _ _ _, fun t ht => by cases ht⟩, hB0⟩
    (fun x a' W => ∃ Bx, TBox W Bx x ∧ a' = { tmps := #[.string s, undef, .pointer (some ⟨w.heap.size, 0, none⟩), .pointer (some ⟨w.heap.size + 1, 0, none⟩), .pointer (some ⟨w.heap.size + 1 + 1, 0, none⟩), .pointer (some ⟨B, 0, none⟩), .pointer (some ⟨Bx, 0, none⟩), .int .i64 (x.err : Int), .string s, .func (.func 14) #[.string s] #[], tokV x, .int .i64 (x.err : Int), undef, undef, undef, undef, undef, undef, undef, undef, undef, undef], defers := [] })
    (fun x a' _ X Y row hs hg hr => by
      obtain ⟨Bx, h1, h2⟩ := hs
      exact ⟨Bx, cells_own hg hr h1, h2⟩)
    ?assign ?body ?done ?stop
  case assign =>
    rintro pre x W KK ⟨⟨v, hv, hrow, hall⟩, hB⟩ hKK
    have hBl : B < W.heap.size := (Array.getElem?_eq_some_iff.1 hv).1
    have FIN := hKK _ _ ((KeepsOthers.alloc W (.cells #[.int .i64 (x.kind : Int), .int .i64 (x.at_ : Int), .int .i64 (x.fin : Int), .string ⟨x.text.toArray⟩] 27)).from _) (kpT_below hBl (below1 W _)) ⟨⟨v, hv.alloc _, hrow.alloc _, hall⟩, hB.alloc hB.size _⟩ ⟨W.heap.size, heap_alloc_new W _, rfl⟩
    obtain ⟨kd, pa, fi, tx, er⟩ := x
    unfold encT tokV
    dsimp only at FIN ⊢
    have HBB := Hid.mk hBB
    clear hKK hv hrow hall hB hBB hbx
    gi_wp2_with fail
    exact FIN
  case body =>
    rintro pre x a' W ⟨⟨v, hv, hrow, hall⟩, hB⟩ ⟨Bx, hX, rfl⟩ hlt
    obtain ⟨c0, c1, c2, c3, _⟩ := tbox_cells hX
    have hc := hv.cell
    have hsz := hB.size
    have hBl : B < W.heap.size := (Array.getElem?_eq_some_iff.1 hv).1
    have q2 := heap_lowT hB (by omega) r2
    have q3 := heap_lowT hB (by omega) r3
    have q4 := heap_lowT hB (by omega) r4
    have HBB := Hid.mk hBB
    have hBs : Hid (B = w3.heap.size) := by show _ = _; rw [hs3]; exact hBB
    obtain ⟨kd, pa, fi, tx, er⟩ := x
    unfold tokV
    dsimp only at *
    clear hBB hbx r2 r3 r4 hs3 hsz4 hX
    by_cases he : er = 0
    · subst he
      have HQ := Hid.mk (And.intro q2 (And.intro q3 q4))
      clear q2 q3 q4
      gi_wp2_with (gi_at_builtin; refine wpListIn_append_own_at _ rfl _ _ 22 rfl B 27 i0 (.agg #[.int .i64 0, .int .i64 0, .int .i64 0, .string ⟨#[]⟩]) 4 40 Tryd.underlying22 hi0 hz0 hz1 hz2 rfl (by decide) _ _ _ rfl (hrow.alloc _) ⟨W.heap.size, 0, none⟩ 1 1 [.int .i64 (kd : Int), .int .i64 (pa : Int), .int .i64 (fi : Int), .string ⟨tx.toArray⟩] rfl rfl (new4 (heap_alloc_new W _)) (by intro u hu; simp at hu; rcases hu with rfl | rfl | rfl | rfl <;> rfl) (by unfold maxLen; omega) (by omega) (by simp; omega) ?_; intro v' w1 hown' hgrow _ hat; obtain ⟨g', cap', rfl⟩ := ownsRow_succ hown'; obtain ⟨hv1, hv2, hr2, hk2, hb2⟩ := hv.appended (by decide) hrow (Nat.le_of_lt hBl) (Nat.le_refl _) hown' hgrow; have hkp := kpT_app hv (by decide) hrow hown' hgrow hat hv1; have hc1 := hv1.cell; have hf1 := hv1.frozen)
      refine ⟨hk2.from _, hkp, ⟨_, hv2, ?_, ?_⟩, hB.trans (by rw [← hBs.out]; exact hb2)⟩
      · rw [flT_snoc, List.length_append]; exact hr2
      · intro t ht
        rcases List.mem_append.1 ht with h | h
        · exact hall t h
        · rw [List.mem_singleton.1 h]
    · have heb : (((er : Nat) : Int) == 0) = false := by rw [beq_eq_false_iff_ne]; omega
      have hmx : Tryd.prog.follows .mixedOrders = true := by kernel_rfl
      have a2 := cell_of_row _ _ 0 _ _ _ q2
      have a3 := cell_of_row _ _ 0 _ _ _ q3
      have a4 := cell_of_row _ _ 0 _ _ _ q4
      have f2 := frozen_rowT (j := 0) q2
      have f3 := frozen_rowT (j := 0) q3
      have f4 := frozen_rowT (j := 0) q4
      have FIN : Hid (∀ wz, wz = ((W.setCell ⟨w.heap.size, 0, none⟩ (.slice none 0 0)).setCell ⟨w.heap.size + 1, 0, none⟩ (.int .i64 (er : Int))).setCell ⟨w.heap.size + 1 + 1, 0, none⟩ (.int .i64 (pa : Int)) → KeepsFrom (w3.alloc (.cells #[.slice none 0 0] 22)).heap.size W wz.drew ∧ ScX w (pre ++ [⟨kd, pa, fi, tx, er⟩]) wz.drew) := by
        intro wz hz
        obtain ⟨z1, z2, z3, z4, z5, _⟩ := three_set (W := W) (.slice none 0 0) (.int .i64 (er : Int)) (.int .i64 (pa : Int)) q2 q3 q4 hz
        refine ⟨⟨z4.size, fun k o _ hk ho => z4.same k o hk ho⟩, pre, _, rfl, he, ?_, z1, z2, z3⟩
        exact ((hb3.trans (hB.mono hb3.size)).trans z5).drew
      clear q2 q3 q4 hrow hall hv hB he
      simp only [cell_of_row, List.getElem?_toArray] at a2 a3 a4
      gi_wp2_with fail
      gi_region_with_o fail
      all_goals
        gi_wp2_with fail
        exact ⟨(FIN.out _ rfl).1, rfl, (FIN.out _ rfl).2⟩
  case done =>
    rintro xs W rfl ⟨⟨v, hv, hrow, hall⟩, hB⟩ hK
    have hc := hv.cell
    have hsz := hB.size
    have q2 := heap_lowT hB (by omega) r2
    have q3 := heap_lowT hB (by omega) r3
    have q4 := heap_lowT hB (by omega) r4
    have a2 := cell_of_row _ _ 0 _ _ _ q2
    have a3 := cell_of_row _ _ 0 _ _ _ q3
    have a4 := cell_of_row _ _ 0 _ _ _ q4
    have f2 := frozen_rowT (j := 0) q2
    have f3 := frozen_rowT (j := 0) q3
    have f4 := frozen_rowT (j := 0) q4
    obtain ⟨so, sc, rfl⟩ := own_shapeT hrow
    have HBB := Hid.mk hBB
    have HQ := Hid.mk (And.intro q2 (And.intro q3 q4))
    have HBw := Hid.mk hB
    have HRow := Hid.mk hrow
    have HAll := Hid.mk hall
    have HK := Hid.mk hK
    clear hBB hbx r2 r3 r4 q2 q3 q4 hall hrow hv
    gi_wp2_with fail
    have hD : (w3.alloc (.cells #[.slice none 0 0] 22)).heap.size = w.heap.size + 1 + 1 + 1 + 1 := hsz4
    have HK' := HK.out
    rw [hD] at HK' ⊢
    generalize hz : ((W.setCell ⟨w.heap.size, 0, none⟩ (.slice so (allY s.data.toList).length sc)).setCell ⟨w.heap.size + 1, 0, none⟩ (.int .i64 0)).setCell ⟨w.heap.size + 1 + 1, 0, none⟩ (.int .i64 0) = wz
    obtain ⟨z1, z2, z3, z4, z5, z6⟩ := three_set (W := W) _ _ _ HQ.out.1 HQ.out.2.1 HQ.out.2.2 hz.symm
    have hKz := (z6 (w.heap.size + 1 + 1 + 1 + 1) (by omega)).trans HK'
    have y1 := (World.putObj_heap_other (w := wz) (o := .deferred none) (by omega : w.heap.size ≠ w.heap.size + 1 + 1 + 1 + 1)).trans z1
    have y2 := (World.putObj_heap_other (w := wz) (o := .deferred none) (by omega : w.heap.size + 1 ≠ w.heap.size + 1 + 1 + 1 + 1)).trans z2
    have y3 := (World.putObj_heap_other (w := wz) (o := .deferred none) (by omega : w.heap.size + 1 + 1 ≠ w.heap.size + 1 + 1 + 1 + 1)).trans z3
    have d1 := cell_of_row _ _ 0 _ _ _ y1
    have d2 := cell_of_row _ _ 0 _ _ _ y2
    have d3 := cell_of_row _ _ 0 _ _ _ y3
    refine ⟨by simp, .inl ⟨_, _, rfl, run_takeDeferred hKz, ?_⟩⟩
    refine ⟨.tuple #[.slice so (allY s.data.toList).length sc, .int .i64 0, .int .i64 0], by simp [results, Tryd.results9, go_sem, d1, d2, d3], .inl ⟨HAll.out, so, sc, rfl, ?_⟩, ?_⟩
    · have h1 := own_blkT (w' := wz) HRow.out (fun g hg => z6 g (by have := HBB.out; omega)) (base' := w.heap.size) (by have := HBB.out; omega)
      exact ownsRow_putObj h1 (.deferred none) hKz rfl
    · exact (((hb3.trans (HBw.out.mono hb3.size)).trans z5)).trans (belowK_b (w := w) (Nat.le_refl _) wz _ _ (.deferred none) (by omega) hKz rfl rfl)
  case stop =>
    rintro pre W hSp ⟨pre', x, rfl, he, hbW, z1, z2, z3⟩ hK
    have hall : allY s.data.toList = pre' ++ [x] := restY_err _ _ _ _ _ hSp he
    have HBB := Hid.mk hBB
    have HA := Hid.mk hall
    have HZ := Hid.mk (And.intro z1 (And.intro z2 z3))
    have HBw := Hid.mk hbW
    have HK := Hid.mk hK
    clear hBB hbx r2 r3 r4 hall z1 z2 z3 hSp hK
    gi_wp2_with fail
    have hD : (w3.alloc (.cells #[.slice none 0 0] 22)).heap.size = w.heap.size + 1 + 1 + 1 + 1 := hsz4
    have hKz := HK.out
    rw [hD] at hKz ⊢
    have y1 := (World.putObj_heap_other (w := W) (o := .deferred none) (by omega : w.heap.size ≠ w.heap.size + 1 + 1 + 1 + 1)).trans HZ.out.1
    have y2 := (World.putObj_heap_other (w := W) (o := .deferred none) (by omega : w.heap.size + 1 ≠ w.heap.size + 1 + 1 + 1 + 1)).trans HZ.out.2.1
    have y3 := (World.putObj_heap_other (w := W) (o := .deferred none) (by omega : w.heap.size + 1 + 1 ≠ w.heap.size + 1 + 1 + 1 + 1)).trans HZ.out.2.2
    have d1 := cell_of_row _ _ 0 _ _ _ y1
    have d2 := cell_of_row _ _ 0 _ _ _ y2
    have d3 := cell_of_row _ _ 0 _ _ _ y3
    refine ⟨by simp, .inl ⟨_, _, rfl, run_takeDeferred hKz, ?_⟩⟩
    refine ⟨.tuple #[.slice none 0 0, .int .i64 (x.err : Int), .int .i64 (x.at_ : Int)], by simp [results, Tryd.results9, go_sem, d1, d2, d3], .inr ⟨pre', x, HA.out, he, rfl⟩, ?_⟩
    exact HBw.out.trans (belowK_b (w := w) (Nat.le_refl _) W _ _ (.deferred none) (by omega) hKz rfl rfl)
end Go.Proofs.YtdehejadiofomaaDoor
