import Derived.Test.YtdehejadiofomaaGreatDoorM23
import Derived.Test.YtdehejadiofomaaGreatDoorM24
import Derived.Test.YtdehejadiofomaaGreatDoorM25
namespace Go.Proofs.YtdehejadiofomaaGreatDoor
open Go.RowKit Go.Shelf
set_option linter.unusedVariables false
set_option linter.unusedSimpArgs false
attribute [local go_sem] Oper.semAt_some

theorem restY_err (l : List UInt8) : ∀ (f p : Nat) (a : List Tok) (x : Tok), a ++ [x] <+: restY l f p → x.err ≠ 0 → restY l f p = a ++ [x] := by
  intro f
  induction f with
  | zero => intro p a x h _; rw [restY] at h; have := List.prefix_nil.1 h; simp at this
  | succ f ih =>
    intro p a x h hx
    rw [restY] at h ⊢
    split at h
    · next h1 =>
      rw [if_pos h1]
      split at h
      · next h2 =>
        rw [if_pos h2]
        cases a with
        | nil =>
          rw [List.nil_append, List.cons_prefix_cons] at h
          exact absurd (h.1 ▸ h2) hx
        | cons b a =>
          rw [List.cons_append, List.cons_prefix_cons] at h
          rw [h.1, ih _ a x h.2 hx, List.cons_append]
      · next h2 =>
        rw [if_neg h2]
        cases a with
        | nil => rw [List.nil_append, List.cons_prefix_cons] at h; rw [h.1]; rfl
        | cons b a => rw [List.cons_append, List.cons_prefix_cons] at h; have := List.prefix_nil.1 h.2; simp at this
    · have := List.prefix_nil.1 h; simp at this

def flT (l : List Tok) : List Value := l.flatMap fun t => [.int .i64 (t.kind : Int), .int .i64 (t.at_ : Int), .int .i64 (t.fin : Int), .string ⟨t.text.toArray⟩]
theorem flT_snoc (l : List Tok) (t : Tok) : flT (l ++ [t]) = flT l ++ [.int .i64 (t.kind : Int), .int .i64 (t.at_ : Int), .int .i64 (t.fin : Int), .string ⟨t.text.toArray⟩] := by simp [flT]
theorem flT_len (l : List Tok) : (flT l).length = l.length * 4 := by
  induction l with
  | nil => rfl
  | cons t l ih => rw [show flT (t :: l) = [.int .i64 (t.kind : Int), .int .i64 (t.at_ : Int), .int .i64 (t.fin : Int), .string ⟨t.text.toArray⟩] ++ flT l from rfl, List.length_append, ih, List.length_cons]; simp; omega

set_option maxRecDepth 100000 in
set_option maxHeartbeats 800000 in
theorem w_Seq (s : ByteArray) (w : World) : Calls Tryz.prog 11 #[.string s] w fun e w' => e = .returned (.func (.func 34) #[.string s] #[]) ∧ w' = w := by
  go_enter Tryz.func11, Tryz.ntmps11
  go_wp2_with fail
  go_ret
  exact ⟨rfl, rfl⟩

theorem Tryz.infoTok : (Tryz.prog.info? 52).map (fun i => (i.zero, i.size, i.bytes)) = some (some (.agg #[.int .i64 0, .int .i64 0, .int .i64 0, .string ⟨#[]⟩]), 4, 40) := by kernel_rfl

/-- what Scan answers -/
def ScanR (l : List UInt8) (w w' : World) (e : Ending) : Prop :=
  (((∀ t ∈ allY l, t.err = 0) ∧ ∃ so sc, e = .returned (.tuple #[.slice so (allY l).length sc, .int .i64 0, .int .i64 0]) ∧ Hid (w'.ownsRow w.heap.size 52 4 (.slice so (allY l).length sc) (allY l).length (flT (allY l)))) ∨ (∃ pre x, allY l = pre ++ [x] ∧ x.err ≠ 0 ∧ e = .returned (.tuple #[.slice none 0 0, .int .i64 (x.err : Int), .int .i64 (x.at_ : Int)]))) ∧ Below w.heap.size w w'
theorem new4 {w : World} {g : Nat} {t : TypeId} {y0 y1 y2 y3 : Value} (h : w.heap[g]? = some (.cells #[y0, y1, y2, y3] t (0, 0))) : ∀ (j : Nat) u, [y0, y1, y2, y3][j]? = some u → w.cell? ((⟨g, 0, none⟩ : Addr).add j) = some u := World.news_of_block (cs := #[y0, y1, y2, y3]) h
theorem kpT_app {W w1 : World} {n₀ B : Nat} {t e : TypeId} {size : Nat} {v v' : Value} {k m : Nat} {xs ys : List Value} {tmp : Obj}
    (hv : Boxed W B t v) (hte : t ≠ e) (hrow : W.ownsRow n₀ e size v k xs) (hown' : w1.ownsRow n₀ e size v' m ys) (hgrow : (W.alloc tmp).grownBy w1 v.ownBlock) (hat : v'.ownBlock = v.ownBlock ∨ v'.ownBlock = some (W.alloc tmp).heap.size) (hv1 : Boxed w1 B t v) :
    KpT (fun b => b = B) B W (w1.setCell ⟨B, 0, none⟩ v') := by
  refine ⟨kpB_app hv hte hrow hown' hgrow hat hv1, fun b' eb => .inr ?_⟩
  have hr1 : rowAt (w1.setCell ⟨B, 0, none⟩ v') B = v'.ownBlock := by unfold rowAt; rw [(hv1.set v').cell]; rfl
  rw [hr1] at eb
  rcases hown'.2 with ⟨rfl, _⟩ | ⟨g', cap, cur, rfl, e2, e3, _⟩
  · cases eb
  · simp [Value.ownBlock] at eb
    subst eb
    have := (Array.getElem?_eq_some_iff.1 e3).1
    simpa using this
theorem box_set1 {W : World} {B : Nat} {t : TypeId} {y : Value} (v : Value) (h : W.heap[B]? = some (.cells #[y] t (0, 0))) : (W.setCell ⟨B, 0, none⟩ v).heap[B]? = some (.cells #[v] t (0, 0)) := by
  show (W.heap.modify B _)[B]? = _
  rw [Array.getElem?_modify, if_pos rfl, h]; rfl

theorem own_shapeT {w : World} {base : Nat} {e : TypeId} {size : Nat} {v : Value} {n : Nat} {xs : List Value} (h : w.ownsRow base e size v n xs) : ∃ so sc, v = .slice so n sc := by
  rcases h.2 with ⟨e, h0⟩ | ⟨g, cap, cur, e, _⟩
  · exact ⟨none, 0, by rw [e, h0]⟩
  · exact ⟨_, _, e⟩
theorem own_blkT {w w' : World} {base : Nat} {e : TypeId} {size : Nat} {v : Value} {n : Nat} {xs : List Value} (h : w.ownsRow base e size v n xs) (hb : ∀ g, base ≤ g → w'.heap[g]? = w.heap[g]?) {base' : Nat} (hle : base' ≤ base) : w'.ownsRow base' e size v n xs := by
  refine ⟨h.1, h.2.imp id ?_⟩
  rintro ⟨g, cap, cur, rfl, e2, e3, rest⟩
  exact ⟨g, cap, cur, rfl, Nat.le_trans hle e2, (hb g e2).trans e3, rest⟩
/-- the three results laid -/
theorem three_set {W wz : World} {m : Nat} {t2 t3 t4 : TypeId} {y2 y3 y4 : Value} (v2 v3 v4 : Value) (q2 : W.heap[m]? = some (.cells #[y2] t2 (0, 0))) (q3 : W.heap[m + 1]? = some (.cells #[y3] t3 (0, 0))) (q4 : W.heap[m + 1 + 1]? = some (.cells #[y4] t4 (0, 0)))
    (hz : wz = ((W.setCell ⟨m, 0, none⟩ v2).setCell ⟨m + 1, 0, none⟩ v3).setCell ⟨m + 1 + 1, 0, none⟩ v4) :
    wz.heap[m]? = some (.cells #[v2] t2 (0, 0)) ∧ wz.heap[m + 1]? = some (.cells #[v3] t3 (0, 0)) ∧ wz.heap[m + 1 + 1]? = some (.cells #[v4] t4 (0, 0)) ∧ KeepsOthers W wz ∧ Below m W wz ∧ ∀ b, m + 1 + 1 < b → wz.heap[b]? = W.heap[b]? := by
  subst hz
  have n1 : (W.setCell ⟨m, 0, none⟩ v2).heap[m + 1]? = some (.cells #[y3] t3 (0, 0)) := (Below.heap_setCell _ _ _ _ (by show m + 1 ≠ m; omega)).trans q3
  have n2 : ((W.setCell ⟨m, 0, none⟩ v2).setCell ⟨m + 1, 0, none⟩ v3).heap[m + 1 + 1]? = some (.cells #[y4] t4 (0, 0)) := ((Below.heap_setCell _ _ _ _ (by show m + 1 + 1 ≠ m + 1; omega)).trans (Below.heap_setCell _ _ _ _ (by show m + 1 + 1 ≠ m; omega))).trans q4
  refine ⟨?_, ?_, box_set1 v4 n2, ((KeepsOthers.setCell _ _ _).trans (KeepsOthers.setCell _ _ _)).trans (KeepsOthers.setCell _ _ _), (((Below.refl m W).setCell (p := ⟨m, 0, none⟩) (Nat.le_refl _) _).setCell (p := ⟨m + 1, 0, none⟩) (by show m ≤ m + 1; omega) _).setCell (p := ⟨m + 1 + 1, 0, none⟩) (by show m ≤ m + 1 + 1; omega) _, fun b hb => ?_⟩
  · exact ((Below.heap_setCell _ _ _ _ (by show m ≠ m + 1 + 1; omega)).trans (Below.heap_setCell _ _ _ _ (by show m ≠ m + 1; omega))).trans (box_set1 v2 q2)
  · exact (Below.heap_setCell _ _ _ _ (by show m + 1 ≠ m + 1 + 1; omega)).trans (box_set1 v3 n1)
  · rw [Below.heap_setCell _ _ _ _ (by show b ≠ m + 1 + 1; omega), Below.heap_setCell _ _ _ _ (by show b ≠ m + 1; omega), Below.heap_setCell _ _ _ _ (by show b ≠ m; omega)]

/-- a token's own box -/
def TBox (W : World) (Bx : Nat) (t : Tok) : Prop := W.heap[Bx]? = some (.cells #[.int .i64 (t.kind : Int), .int .i64 (t.at_ : Int), .int .i64 (t.fin : Int), .string ⟨t.text.toArray⟩] 52 (0, 0))
theorem kpT_below {E : Nat → Prop} {B : Nat} {W W' : World} (hB : B < W.heap.size) (h : Below W.heap.size W W') : KpT E B W W' :=
  ⟨⟨h.size, fun b o _ _ ho _ => heap_lowT h (Array.getElem?_eq_some_iff.1 ho).1 ho, .inl (rowAt_below h hB)⟩, fun b' e => .inl (by rw [rowAt_below h hB] at e; exact e)⟩
theorem cells_own {C : Nat} {A A' : World} {row : Option Nat} (hg : A.grownBy A' row) (hr : ∀ r, row = some r → C ≤ r ∧ ∃ o : Obj, A.heap[r]? = some o ∧ o.isCells = false) {b : Nat} {cs : Array Value} {t : TypeId} {f : Nat × Nat} (hb : A.heap[b]? = some (.cells cs t f)) : A'.heap[b]? = some (.cells cs t f) := by
  rw [hg.block b (Array.getElem?_eq_some_iff.1 hb).1 (fun e => by
    obtain ⟨_, o, ho, hoc⟩ := hr b e.symm
    rw [hb] at ho; cases ho; cases hoc)]
  exact hb
/-- how the loop is left by a return -/
def ScX (w : World) (xs : List Tok) (W : World) : Prop := ∃ pre x, xs = pre ++ [x] ∧ x.err ≠ 0 ∧ Below w.heap.size w W ∧ W.heap[w.heap.size]? = some (.cells #[.slice none 0 0] 22 (0, 0)) ∧ W.heap[w.heap.size + 1]? = some (.cells #[.int .i64 (x.err : Int)] 23 (0, 0)) ∧ W.heap[w.heap.size + 1 + 1]? = some (.cells #[.int .i64 (x.at_ : Int)] 3 (0, 0))
theorem ScX.own {w : World} {C : Nat} (hC : w.heap.size ≤ C) : OwnFrom C (ScX w) := by
  rintro xs A A' row ⟨pre, x, e, he, hb, h1, h2, h3⟩ hg hr
  exact ⟨pre, x, e, he, hb.grown hg hb.size (fun r e => Nat.le_trans hC (hr r e).1), cells_own hg hr h1, cells_own hg hr h2, cells_own hg hr h3⟩

set_option maxRecDepth 100000 in
set_option maxHeartbeats 6400000 in
theorem w_Scan (s : ByteArray) (w : World) (ss : s.size ≤ 16777216) (hE : ErrIn w) :
    Calls Tryz.prog 5 #[.string s] w fun e w' => ScanR s.data.toList w w' e := by
  obtain ⟨i0, hi0, hz0, hz1, hz2⟩ := info_parts Tryz.infoTok
  refine (callsIn_wide (n := 7)).1 ?_
  refine callsIn_of_wp_marks Tryz.func5 rfl trivial ?_ rfl
  simp only [Tryz.ntmps5, List.size_toArray, List.length_cons, List.length_nil, Nat.reduceAdd, Nat.reduceSub, Array.replicate_succ, Array.replicate_zero, List.push_toArray, List.append_toArray, List.nil_append, List.cons_append]
  gi_wp2_with fail
  refine ⟨trivial, (callsIn_wide.2 (w_Seq s _)).mono ?_⟩
  rintro e w1 ⟨rfl, rfl⟩
  gi_wp2_with fail
  obtain ⟨w3, hw3⟩ : ∃ w3, ((w.alloc (.cells #[.slice none 0 0] 22)).alloc (.cells #[.int .i64 0] 23)).alloc (.cells #[.int .i64 0] 3) = w3 := ⟨_, rfl⟩
  have hs3 : w3.heap.size = w.heap.size + 1 + 1 + 1 := by rw [← hw3]; simp
  have hb3 : Below w.heap.size w w3 := by rw [← hw3]; exact ((below1 w _).alloc (by simp) _).alloc (by simp; omega) _
  have r2 : w3.heap[w.heap.size]? = some (.cells #[.slice none 0 0] 22 (0, 0)) := by rw [← hw3, Below.heap_alloc _ _ _ (by simp; omega), Below.heap_alloc _ _ _ (by simp), heap_alloc_new]
  have r3 : w3.heap[w.heap.size + 1]? = some (.cells #[.int .i64 0] 23 (0, 0)) := by
    rw [← hw3, Below.heap_alloc _ _ _ (by simp), show w.heap.size + 1 = (w.alloc (.cells #[.slice none 0 0] 22)).heap.size by simp, heap_alloc_new]
  have r4 : w3.heap[w.heap.size + 1 + 1]? = some (.cells #[.int .i64 0] 3 (0, 0)) := by
    rw [← hw3, show w.heap.size + 1 + 1 = ((w.alloc (.cells #[.slice none 0 0] 22)).alloc (.cells #[.int .i64 0] 23)).heap.size by simp, heap_alloc_new]
  have hbx := Boxed.new w3 22 (.slice none 0 0)
  have hB0 : Below w3.heap.size w3 (w3.alloc (.cells #[.slice none 0 0] 22)) := (Below.refl _ w3).alloc (Nat.le_refl _) _
  have hsz4 : (w3.alloc (.cells #[.slice none 0 0] 22)).heap.size = w.heap.size + 1 + 1 + 1 + 1 := by simp [hs3]
  have hEl : 3 < w.heap.size := by
    obtain ⟨ev, hc, _⟩ := hE
    obtain ⟨o, ho, _⟩ := isCells_of_cell hc
    exact (Array.getElem?_eq_some_iff.1 ho).1
  have HE4 := Hid.mk (hE.keep (hb3.trans (hB0.mono (by omega))))
  rw [hw3]
  clear hw3
  obtain ⟨B, hBB⟩ : ∃ B, B = w.heap.size + 1 + 1 + 1 := ⟨_, rfl⟩
  rw [← hBB]
  rw [hs3, ← hBB] at hbx
  refine wpIn_range_meth (α := Tok) (by omega) (gf := 34) (s := .string s) rfl (enters_of Tryz.func34 (by kernel_rfl) rfl) (encs := encT) (fun _ => rfl) (Kp := KpT (fun b => b = B) B) (S := fun xs => xs = allY s.data.toList) (Sp := fun pre => pre <+: allY s.data.toList) (N := s.size + 1)
    (fun J Jx W hW hJ hJx hY h0 => cut_in (fun b => b = B) (7 - 1) (by omega) _ B s (by omega) _ (by unfold rowAt; rw [hbx.cell]; rfl) (by rw [hsz4, hBB]; omega) (fun b hb => by rw [hsz4, hb, hBB]; omega) HE4.out (by rw [hBB]; omega) (by rw [hsz4]; omega) J Jx W hW hJ hJx hY h0)
    (fun h k => h.trans k) (fun W r r' hb => KpT.put (w := w3.alloc (.cells #[.slice none 0 0] 22)) (by rw [hsz4, hBB]; omega) W _ _ _ (by omega) hb.book rfl rfl)
    (fun pre W => (∃ v, Boxed W B 22 v ∧ W.ownsRow B 52 4 v pre.length (flT pre) ∧ ∀ t ∈ pre, t.err = 0) ∧ Below w3.heap.size w3 W) (ScX w)
    (OwnFrom.and (Own.from (holdsRow_own _ _ _ _ _ (fun pre => pre.length) (fun pre => flT pre) (fun pre v => ∀ t ∈ pre, t.err = 0)) _) (ownFrom_below (Nat.le_refl _) (by rw [hsz4, hs3]; omega)))
    (ScX.own (by rw [hsz4]; omega))
    ⟨⟨_, hbx, World.ownsRow_nil _ _ _ _, fun t ht => by cases ht⟩, hB0⟩
    (fun x a' W => ∃ Bx, TBox W Bx x ∧ a' = { tmps := #[.string s, undef, .pointer (some ⟨w.heap.size, 0, none⟩), .pointer (some ⟨w.heap.size + 1, 0, none⟩), .pointer (some ⟨w.heap.size + 1 + 1, 0, none⟩), .pointer (some ⟨B, 0, none⟩), .pointer (some ⟨Bx, 0, none⟩), .int .i64 (x.err : Int), .string s, .func (.func 34) #[.string s] #[], tokV x, .int .i64 (x.err : Int), undef, undef, undef, undef, undef, undef, undef, undef, undef, undef], defers := [] })
    (fun x a' _ X Y row hs hg hr => by
      obtain ⟨Bx, h1, h2⟩ := hs
      exact ⟨Bx, cells_own hg hr h1, h2⟩)
    ?assign ?body ?done ?stop
  case assign =>
    rintro pre x W KK ⟨⟨v, hv, hrow, hall⟩, hB⟩ hKK
    have hBl : B < W.heap.size := (Array.getElem?_eq_some_iff.1 hv).1
    have FIN := hKK _ _ ((KeepsOthers.alloc W (.cells #[.int .i64 (x.kind : Int), .int .i64 (x.at_ : Int), .int .i64 (x.fin : Int), .string ⟨x.text.toArray⟩] 52)).from _) (kpT_below hBl (below1 W _)) ⟨⟨v, hv.alloc _, hrow.alloc _, hall⟩, hB.alloc hB.size _⟩ ⟨W.heap.size, heap_alloc_new W _, rfl⟩
    obtain ⟨kd, pa, fi, tx, er⟩ := x
    unfold encT tokV
    dsimp only at FIN ⊢
    have HBB := Hid.mk hBB
    clear hKK hv hrow hall hB hBB hbx
    gi_wp2_with fail
    exact FIN
  case body =>
    rintro pre x a' W ⟨⟨v, hv, hrow, hall⟩, hB⟩ ⟨Bx, hX, rfl⟩ hlt
    obtain ⟨c0, c1, c2, c3, _⟩ := tbox_cells hX
    have hc := hv.cell
    have hsz := hB.size
    have hBl : B < W.heap.size := (Array.getElem?_eq_some_iff.1 hv).1
    have q2 := heap_lowT hB (by omega) r2
    have q3 := heap_lowT hB (by omega) r3
    have q4 := heap_lowT hB (by omega) r4
    have HBB := Hid.mk hBB
    have hBs : Hid (B = w3.heap.size) := by show _ = _; rw [hs3]; exact hBB
    obtain ⟨kd, pa, fi, tx, er⟩ := x
    unfold tokV
    dsimp only at *
    clear hBB hbx r2 r3 r4 hs3 hsz4 hX
    by_cases he : er = 0
    · subst he
      have HQ := Hid.mk (And.intro q2 (And.intro q3 q4))
      clear q2 q3 q4
      gi_wp2_with (gi_at_builtin; refine wpListIn_append_own_at _ rfl _ _ 22 rfl B 52 i0 (.agg #[.int .i64 0, .int .i64 0, .int .i64 0, .string ⟨#[]⟩]) 4 40 Tryz.underlying22 hi0 hz0 hz1 hz2 rfl (by decide) _ _ _ rfl (hrow.alloc _) ⟨W.heap.size, 0, none⟩ 1 1 [.int .i64 (kd : Int), .int .i64 (pa : Int), .int .i64 (fi : Int), .string ⟨tx.toArray⟩] rfl rfl (new4 (heap_alloc_new W _)) (by intro u hu; simp at hu; rcases hu with rfl | rfl | rfl | rfl <;> rfl) (by unfold maxLen; omega) (by omega) (by simp; omega) ?_; intro v' w1 hown' hgrow _ hat; obtain ⟨g', cap', rfl⟩ := ownsRow_succ hown'; obtain ⟨hv1, hv2, hr2, hk2, hb2⟩ := hv.appended (by decide) hrow (Nat.le_of_lt hBl) (Nat.le_refl _) hown' hgrow; have hkp := kpT_app hv (by decide) hrow hown' hgrow hat hv1; have hc1 := hv1.cell; have hf1 := hv1.frozen)
      refine ⟨hk2.from _, hkp, ⟨_, hv2, ?_, ?_⟩, hB.trans (by rw [← hBs.out]; exact hb2)⟩
      · rw [flT_snoc, List.length_append]; exact hr2
      · intro t ht
        rcases List.mem_append.1 ht with h | h
        · exact hall t h
        · rw [List.mem_singleton.1 h]
    · have heb : (((er : Nat) : Int) == 0) = false := by rw [beq_eq_false_iff_ne]; omega
      have hmx : Tryz.prog.follows .mixedOrders = true := by kernel_rfl
      have a2 := cell_of_row _ _ 0 _ _ _ q2
      have a3 := cell_of_row _ _ 0 _ _ _ q3
      have a4 := cell_of_row _ _ 0 _ _ _ q4
      have f2 := frozen_rowT (j := 0) q2
      have f3 := frozen_rowT (j := 0) q3
      have f4 := frozen_rowT (j := 0) q4
      have FIN : Hid (∀ wz, wz = ((W.setCell ⟨w.heap.size, 0, none⟩ (.slice none 0 0)).setCell ⟨w.heap.size + 1, 0, none⟩ (.int .i64 (er : Int))).setCell ⟨w.heap.size + 1 + 1, 0, none⟩ (.int .i64 (pa : Int)) → KeepsFrom (w3.alloc (.cells #[.slice none 0 0] 22)).heap.size W wz.drew ∧ ScX w (pre ++ [⟨kd, pa, fi, tx, er⟩]) wz.drew) := by
        intro wz hz
        obtain ⟨z1, z2, z3, z4, z5, _⟩ := three_set (W := W) (.slice none 0 0) (.int .i64 (er : Int)) (.int .i64 (pa : Int)) q2 q3 q4 hz
        refine ⟨⟨z4.size, fun k o _ hk ho => z4.same k o hk ho⟩, pre, _, rfl, he, ?_, z1, z2, z3⟩
        exact ((hb3.trans (hB.mono hb3.size)).trans z5).drew
      clear q2 q3 q4 hrow hall hv hB he
      simp only [cell_of_row, List.getElem?_toArray] at a2 a3 a4
      gi_wp2_with fail
      gi_region_with_o fail
      all_goals
        gi_wp2_with fail
        exact ⟨(FIN.out _ rfl).1, rfl, (FIN.out _ rfl).2⟩
  case done =>
    rintro xs W rfl ⟨⟨v, hv, hrow, hall⟩, hB⟩ hK
    have hc := hv.cell
    have hsz := hB.size
    have q2 := heap_lowT hB (by omega) r2
    have q3 := heap_lowT hB (by omega) r3
    have q4 := heap_lowT hB (by omega) r4
    have a2 := cell_of_row _ _ 0 _ _ _ q2
    have a3 := cell_of_row _ _ 0 _ _ _ q3
    have a4 := cell_of_row _ _ 0 _ _ _ q4
    have f2 := frozen_rowT (j := 0) q2
    have f3 := frozen_rowT (j := 0) q3
    have f4 := frozen_rowT (j := 0) q4
    obtain ⟨so, sc, rfl⟩ := own_shapeT hrow
    have HBB := Hid.mk hBB
    have HQ := Hid.mk (And.intro q2 (And.intro q3 q4))
    have HBw := Hid.mk hB
    have HRow := Hid.mk hrow
    have HAll := Hid.mk hall
    have HK := Hid.mk hK
    clear hBB hbx r2 r3 r4 q2 q3 q4 hall hrow hv
    gi_wp2_with fail
    have hD : (w3.alloc (.cells #[.slice none 0 0] 22)).heap.size = w.heap.size + 1 + 1 + 1 + 1 := hsz4
    have HK' := HK.out
    rw [hD] at HK' ⊢
    generalize hz : ((W.setCell ⟨w.heap.size, 0, none⟩ (.slice so (allY s.data.toList).length sc)).setCell ⟨w.heap.size + 1, 0, none⟩ (.int .i64 0)).setCell ⟨w.heap.size + 1 + 1, 0, none⟩ (.int .i64 0) = wz
    obtain ⟨z1, z2, z3, z4, z5, z6⟩ := three_set (W := W) _ _ _ HQ.out.1 HQ.out.2.1 HQ.out.2.2 hz.symm
    have hKz := (z6 (w.heap.size + 1 + 1 + 1 + 1) (by omega)).trans HK'
    have y1 := (World.putObj_heap_other (w := wz) (o := .deferred none) (by omega : w.heap.size ≠ w.heap.size + 1 + 1 + 1 + 1)).trans z1
    have y2 := (World.putObj_heap_other (w := wz) (o := .deferred none) (by omega : w.heap.size + 1 ≠ w.heap.size + 1 + 1 + 1 + 1)).trans z2
    have y3 := (World.putObj_heap_other (w := wz) (o := .deferred none) (by omega : w.heap.size + 1 + 1 ≠ w.heap.size + 1 + 1 + 1 + 1)).trans z3
    have d1 := cell_of_row _ _ 0 _ _ _ y1
    have d2 := cell_of_row _ _ 0 _ _ _ y2
    have d3 := cell_of_row _ _ 0 _ _ _ y3
    refine ⟨by simp, .inl ⟨_, _, rfl, run_takeDeferred hKz, ?_⟩⟩
    refine ⟨.tuple #[.slice so (allY s.data.toList).length sc, .int .i64 0, .int .i64 0], by simp [results, Tryz.results5, go_sem, d1, d2, d3], .inl ⟨HAll.out, so, sc, rfl, ?_⟩, ?_⟩
    · have h1 := own_blkT (w' := wz) HRow.out (fun g hg => z6 g (by have := HBB.out; omega)) (base' := w.heap.size) (by have := HBB.out; omega)
      exact ownsRow_putObj h1 (.deferred none) hKz rfl
    · exact (((hb3.trans (HBw.out.mono hb3.size)).trans z5)).trans (belowK_b (w := w) (Nat.le_refl _) wz _ _ (.deferred none) (by omega) hKz rfl rfl)
  case stop =>
    rintro pre W hSp ⟨pre', x, rfl, he, hbW, z1, z2, z3⟩ hK
    have hall : allY s.data.toList = pre' ++ [x] := restY_err _ _ _ _ _ hSp he
    have HBB := Hid.mk hBB
    have HA := Hid.mk hall
    have HZ := Hid.mk (And.intro z1 (And.intro z2 z3))
    have HBw := Hid.mk hbW
    have HK := Hid.mk hK
    clear hBB hbx r2 r3 r4 hall z1 z2 z3 hSp hK
    gi_wp2_with fail
    have hD : (w3.alloc (.cells #[.slice none 0 0] 22)).heap.size = w.heap.size + 1 + 1 + 1 + 1 := hsz4
    have hKz := HK.out
    rw [hD] at hKz ⊢
    have y1 := (World.putObj_heap_other (w := W) (o := .deferred none) (by omega : w.heap.size ≠ w.heap.size + 1 + 1 + 1 + 1)).trans HZ.out.1
    have y2 := (World.putObj_heap_other (w := W) (o := .deferred none) (by omega : w.heap.size + 1 ≠ w.heap.size + 1 + 1 + 1 + 1)).trans HZ.out.2.1
    have y3 := (World.putObj_heap_other (w := W) (o := .deferred none) (by omega : w.heap.size + 1 + 1 ≠ w.heap.size + 1 + 1 + 1 + 1)).trans HZ.out.2.2
    have d1 := cell_of_row _ _ 0 _ _ _ y1
    have d2 := cell_of_row _ _ 0 _ _ _ y2
    have d3 := cell_of_row _ _ 0 _ _ _ y3
    refine ⟨by simp, .inl ⟨_, _, rfl, run_takeDeferred hKz, ?_⟩⟩
    refine ⟨.tuple #[.slice none 0 0, .int .i64 (x.err : Int), .int .i64 (x.at_ : Int)], by simp [results, Tryz.results5, go_sem, d1, d2, d3], .inr ⟨pre', x, HA.out, he, rfl⟩, ?_⟩
    exact HBw.out.trans (belowK_b (w := w) (Nat.le_refl _) W _ _ (.deferred none) (by omega) hKz rfl rfl)
end Go.Proofs.YtdehejadiofomaaGreatDoor
namespace Go.Proofs.YtdehejadiofomaaGreatDoor
open Go.RowKit Go.Shelf
set_option linter.unusedVariables false
set_option linter.unusedSimpArgs false
attribute [local go_sem] Oper.semAt_some

theorem restY_step {l : List UInt8} {f p q : Nat} {t : Tok} (hp : p < l.length) (ht : nextT l p = t) (he : t.err = 0) (hq : behL l t.fin cBl = q) : restY l (f + 1) p = t :: restY l f q := by
  rw [restY, if_pos hp, ht, if_pos he, hq]
theorem restY_end {l : List UInt8} {f p : Nat} (hp : ¬ p < l.length) : restY l (f + 1) p = [] := by rw [restY, if_neg hp]
theorem restY_bad {l : List UInt8} {f p : Nat} {t : Tok} (hp : p < l.length) (ht : nextT l p = t) (he : ¬ t.err = 0) : restY l (f + 1) p = [t] := by
  rw [restY, if_pos hp, ht, if_neg he]
def kText : List UInt8 := [123, 34, 97, 34, 58, 32, 91, 49, 44, 32, 45, 48, 44, 32, 110, 117, 108, 108, 93, 125]
def kToks : List Tok := [⟨1, 0, 1, [], 0⟩, ⟨11, 1, 4, [97], 0⟩, ⟨5, 4, 5, [], 0⟩, ⟨3, 6, 7, [], 0⟩, ⟨10, 7, 8, [49], 0⟩, ⟨6, 8, 9, [], 0⟩, ⟨10, 10, 12, [48], 0⟩, ⟨6, 12, 13, [], 0⟩, ⟨7, 14, 18, [], 0⟩, ⟨4, 18, 19, [], 0⟩, ⟨2, 19, 20, [], 0⟩]
theorem kQuote : unqL kText 2 [] = ([97], 4, 0) := by
  rw [unqL, dif_pos (by decide), if_neg (by decide), if_neg (by decide), if_neg (by decide), if_neg (by decide), if_pos (by decide)]
  rw [show 2 + (decL (kText.drop 2)).2 = 3 from by decide, unqL_quote _ (by decide) (by decide)]
  rfl
theorem kLit : nextT kText 1 = ⟨11, 1, 4, [97], 0⟩ := by
  have e : litT kText 1 = ⟨11, 1, 4, [97], 0⟩ := by
    unfold litT
    rw [show 1 + 1 = 2 from rfl, kQuote, if_pos rfl]
    rfl
  unfold nextT
  rw [if_neg (by decide), if_pos (by decide), e]
theorem allY_known : allY kText = kToks := by
  unfold allY kToks
  rw [show behL kText 0 cBl = 0 from by decide, show kText.length + 1 = 21 from by decide]
  rw [restY_step (f := 20) (q := 1) (t := ⟨1, 0, 1, [], 0⟩) (by decide) (by kernel_rfl) rfl (by decide)]
  rw [restY_step (f := 19) (q := 4) (t := ⟨11, 1, 4, [97], 0⟩) (by decide) kLit rfl (by decide)]
  rw [restY_step (f := 18) (q := 6) (t := ⟨5, 4, 5, [], 0⟩) (by decide) (by kernel_rfl) rfl (by decide)]
  rw [restY_step (f := 17) (q := 7) (t := ⟨3, 6, 7, [], 0⟩) (by decide) (by kernel_rfl) rfl (by decide)]
  rw [restY_step (f := 16) (q := 8) (t := ⟨10, 7, 8, [49], 0⟩) (by decide) (by kernel_rfl) rfl (by decide)]
  rw [restY_step (f := 15) (q := 10) (t := ⟨6, 8, 9, [], 0⟩) (by decide) (by kernel_rfl) rfl (by decide)]
  rw [restY_step (f := 14) (q := 12) (t := ⟨10, 10, 12, [48], 0⟩) (by decide) (by kernel_rfl) rfl (by decide)]
  rw [restY_step (f := 13) (q := 14) (t := ⟨6, 12, 13, [], 0⟩) (by decide) (by kernel_rfl) rfl (by decide)]
  rw [restY_step (f := 12) (q := 18) (t := ⟨7, 14, 18, [], 0⟩) (by decide) (by kernel_rfl) rfl (by decide)]
  rw [restY_step (f := 11) (q := 19) (t := ⟨4, 18, 19, [], 0⟩) (by decide) (by kernel_rfl) rfl (by decide)]
  rw [restY_step (f := 10) (q := 20) (t := ⟨2, 19, 20, [], 0⟩) (by decide) (by kernel_rfl) rfl (by decide)]
  rw [restY_end (f := 9) (by decide)]
theorem allY_bad0 : allY [116, 114, 117, 101, 102, 97, 108, 115, 101] = [] ++ [⟨0, 0, 0, [], 41⟩] := by
  unfold allY
  rw [show behL [116, 114, 117, 101, 102, 97, 108, 115, 101] 0 cBl = 0 from by decide, show ([116, 114, 117, 101, 102, 97, 108, 115, 101] : List UInt8).length + 1 = 10 from rfl]
  rw [restY_bad (f := 9) (t := ⟨0, 0, 0, [], 41⟩) (by decide) (by kernel_rfl) (by decide)]
  rfl
theorem allY_bad1 : allY [91, 49, 46, 53, 93] = [⟨3, 0, 1, [], 0⟩] ++ [⟨0, 1, 0, [], 42⟩] := by
  unfold allY
  rw [show behL [91, 49, 46, 53, 93] 0 cBl = 0 from by decide, show ([91, 49, 46, 53, 93] : List UInt8).length + 1 = 6 from rfl]
  rw [restY_step (f := 5) (q := 1) (t := ⟨3, 0, 1, [], 0⟩) (by decide) (by kernel_rfl) rfl (by decide)]
  rw [restY_bad (f := 4) (t := ⟨0, 1, 0, [], 42⟩) (by decide) (by kernel_rfl) (by decide)]
  rfl
theorem allY_bad2 : allY [49, 50, 45, 51] = [] ++ [⟨0, 0, 0, [], 42⟩] := by
  unfold allY
  rw [show behL [49, 50, 45, 51] 0 cBl = 0 from by decide, show ([49, 50, 45, 51] : List UInt8).length + 1 = 5 from rfl]
  rw [restY_bad (f := 4) (t := ⟨0, 0, 0, [], 42⟩) (by decide) (by kernel_rfl) (by decide)]
  rfl
theorem allY_bad3 : allY [39, 97, 39] = [] ++ [⟨0, 0, 0, [], 40⟩] := by
  unfold allY
  rw [show behL [39, 97, 39] 0 cBl = 0 from by decide, show ([39, 97, 39] : List UInt8).length + 1 = 4 from rfl]
  rw [restY_bad (f := 3) (t := ⟨0, 0, 0, [], 40⟩) (by decide) (by kernel_rfl) (by decide)]
  rfl
theorem allY_bad4 : allY [43, 49] = [] ++ [⟨0, 0, 0, [], 40⟩] := by
  unfold allY
  rw [show behL [43, 49] 0 cBl = 0 from by decide, show ([43, 49] : List UInt8).length + 1 = 3 from rfl]
  rw [restY_bad (f := 2) (t := ⟨0, 0, 0, [], 40⟩) (by decide) (by kernel_rfl) (by decide)]
  rfl

set_option maxRecDepth 100000 in
set_option maxHeartbeats 1600000 in
theorem w_SameToken (t : Tok) (w : World) : Calls Tryz.prog 12 #[tokV t, tokV t] w fun e w' => e = .returned (.bool true) ∧ Below w.heap.size w w' := by
  obtain ⟨kd, pa, fi, tx, er⟩ := t
  unfold tokV
  dsimp only
  have h1 : (((kd : Nat) : Int) == (kd : Int)) = true := by simp
  have h2 : (((pa : Nat) : Int) == (pa : Int)) = true := by simp
  have h3 : (((fi : Nat) : Int) == (fi : Int)) = true := by simp
  have h4 : ((⟨tx.toArray⟩ : ByteArray).toList == (⟨tx.toArray⟩ : ByteArray).toList) = true := by simp
  have HB := Hid.mk ((below1 w (.cells #[.int .i64 (kd : Int), .int .i64 (pa : Int), .int .i64 (fi : Int), .string ⟨tx.toArray⟩] 52)).alloc (by simp) (.cells #[.int .i64 (kd : Int), .int .i64 (pa : Int), .int .i64 (fi : Int), .string ⟨tx.toArray⟩] 52))
  generalize (⟨tx.toArray⟩ : ByteArray) = tb at *
  go_enter Tryz.func12, Tryz.ntmps12
  go_wp2_with fail
  go_ret
  exact ⟨rfl, HB.out⟩

/-- tokens in a row -/
def TRow (w : World) (so : Option Addr) (l : List Tok) : Prop := ∀ i, (h : i < l.length) → ∃ g off, so = some ⟨g, off, none⟩ ∧ g < w.heap.size ∧ w.cell? ⟨g, off + i * 4, none⟩ = some (.int .i64 (l[i].kind : Int)) ∧ w.cell? ⟨g, off + i * 4 + 1, none⟩ = some (.int .i64 (l[i].at_ : Int)) ∧ w.cell? ⟨g, off + i * 4 + 2, none⟩ = some (.int .i64 (l[i].fin : Int)) ∧ w.cell? ⟨g, off + i * 4 + 3, none⟩ = some (.string ⟨l[i].text.toArray⟩)
theorem TRow.keep {w w' : World} {so : Option Addr} {l : List Tok} (h : TRow w so l) (hb : Below w.heap.size w w') : TRow w' so l := fun i hi => by
  obtain ⟨g, off, e, hg, a0, a1, a2, a3⟩ := h i hi
  exact ⟨g, off, e, Nat.lt_of_lt_of_le hg hb.size, (hb.cell (p := ⟨_, _, _⟩) hg).trans a0, (hb.cell (p := ⟨_, _, _⟩) hg).trans a1, (hb.cell (p := ⟨_, _, _⟩) hg).trans a2, (hb.cell (p := ⟨_, _, _⟩) hg).trans a3⟩

set_option maxRecDepth 100000 in
set_option maxHeartbeats 3200000 in
theorem w_SameTokens (l : List Tok) (so bo : Option Addr) (sc bc : Nat) (w : World) (hl : l.length ≤ 4294967296) (h1 : TRow w so l) (h2 : TRow w bo l) (hs : l.length ≤ sc) (hb : l.length ≤ bc) :
    Calls Tryz.prog 6 #[.slice so l.length sc, .slice bo l.length bc] w fun e w' => e = .returned (.bool true) ∧ Below w.heap.size w w' := by
  have H1 := Hid.mk h1
  have H2 := Hid.mk h2
  have HST := Hid.mk w_SameToken
  clear h1 h2
  generalize hN : l.length = N at *
  have HN := Hid.mk hN
  clear hN
  have hq : (((N : Nat) : Int) == (N : Int)) = true := by simp
  refine (callsIn_wide (n := 3)).1 ?_
  refine callsIn_of_wp Tryz.func6 rfl trivial ?_ rfl
  simp only [Tryz.ntmps6, List.size_toArray, List.length_cons, List.length_nil, Nat.reduceAdd, Nat.reduceSub, Array.replicate_succ, Array.replicate_zero, List.push_toArray, List.append_toArray, List.nil_append, List.cons_append]
  gi_wp2_with fail
  gi_loopw [5] (fun i wr => ∃ k : Nat, k ≤ N ∧ i = .int .i64 (k : Int) ∧ Hid (Below w.heap.size w wr)) (fun i _ => N - (intOf i).toNat)
  case atStart => exact ⟨0, Nat.zero_le _, rfl, Below.refl _ _⟩
  case round =>
    obtain ⟨k, hk, rfl, HB⟩ := hrel
    have hmx : Tryz.prog.follows .mixedOrders = true := by kernel_rfl
    by_cases hlt : k < N
    · have hl1 : (k : Int) < (N : Int) := by omega
      have hl0 : (0 : Int) ≤ (k : Int) := by omega
      have hk2 : k < l.length := by rw [HN.out]; exact hlt
      obtain ⟨g, off, rfl, hg, a0, a1, a2, a3⟩ := (H1.out.keep HB.out) k hk2
      obtain ⟨g2, off2, rfl, hg2, b0, b1, b2, b3⟩ := (H2.out.keep HB.out) k hk2
      have HT := Hid.mk (w_SameToken l[k])
      unfold tokV at HT
      generalize l[k] = t at *
      obtain ⟨kd, pa, fi, tx, er⟩ := t
      dsimp only at HT a0 a1 a2 a3 b0 b1 b2 b3
      have HD : Hid (Below w.heap.size w wr.drew) := HB.out.drew
      gi_wp2_with fail
      gi_region_with_o (refine ⟨trivial, ?_⟩; gi_at_call 12; refine (callsIn_wide.2 (HT.out _)).mono ?_; rintro e w' ⟨rfl, hw⟩)
      all_goals
        have HW : Hid (Below w.heap.size w w') := HD.out.trans (hw.mono HD.out.size)
        clear hw
        gi_wp2_with fail
        go_roundw
        case rel => exact ⟨k + 1, by omega, by go_num, HW⟩
        case measure => simp [intOf]; omega
    · have hl1 : ¬ (k : Int) < (N : Int) := by omega
      gi_wp2_with fail
      go_ret
      exact ⟨rfl, HB.out⟩

set_option maxRecDepth 100000 in
set_option maxHeartbeats 3200000 in
theorem w_known (w : World) : Calls Tryz.prog 30 #[] w fun e w' => e = .returned (.slice (some ⟨w.heap.size, 0, none⟩) 11 11) ∧ w' = w.alloc (.cells (flT kToks).toArray 52) := by
  go_enter Tryz.func30, Tryz.ntmps30
  go_wp2_with fail
  go_ret
  exact ⟨rfl, rfl⟩

set_option maxRecDepth 100000 in
set_option maxHeartbeats 3200000 in
theorem w_fails (s : ByteArray) (er pa : Nat) (pre : List Tok) (x : Tok) (w : World) (ss : s.size ≤ 1048576) (hE : ErrIn w) (hall : allY s.data.toList = pre ++ [x]) (he : x.err = er) (hne : er ≠ 0) (hp : x.at_ = pa) :
    Calls Tryz.prog 31 #[.string s, .int .i64 (er : Int), .int .i64 (pa : Int)] w fun e w' => e = .returned (.bool true) ∧ Below w.heap.size w w' := by
  have HS : Hid (Calls Tryz.prog 5 #[.string s] w fun e w' => e = .returned (.tuple #[.slice none 0 0, .int .i64 (er : Int), .int .i64 (pa : Int)]) ∧ Below w.heap.size w w') := by
    refine (w_Scan s w (by omega) hE).mono ?_
    rintro e w' ⟨h | ⟨p2, x2, h1, _, h3⟩, hb⟩
    · exact absurd (h.1 x (by rw [hall]; simp)) (by rw [he]; exact hne)
    · rw [hall] at h1
      have := List.append_inj' h1 rfl
      have hx : x = x2 := by simpa using this.2
      rw [← hx, he, hp] at h3
      exact ⟨h3, hb⟩
  have h1 : (((er : Nat) : Int) == (er : Int)) = true := by simp
  have h2 : (((pa : Nat) : Int) == (pa : Int)) = true := by simp
  clear hall he hp hE
  go_enter Tryz.func31, Tryz.ntmps31
  go_wp2_with fail
  refine HS.out.mono ?_
  rintro e w1 ⟨rfl, hb1⟩
  have HB := Hid.mk hb1
  clear hb1
  go_wp2_with fail
  go_ret
  exact ⟨rfl, HB.out⟩
end Go.Proofs.YtdehejadiofomaaGreatDoor
namespace Go.Proofs.YtdehejadiofomaaGreatDoor
open Go.RowKit Go.Shelf
set_option linter.unusedVariables false
set_option linter.unusedSimpArgs false

def tokC (t : Tok) (j : Nat) : Value := if j = 0 then .int .i64 (t.kind : Int) else if j = 1 then .int .i64 (t.at_ : Int) else if j = 2 then .int .i64 (t.fin : Int) else .string ⟨t.text.toArray⟩
theorem flT_get (l : List Tok) : ∀ (i j : Nat) (h : i < l.length), j < 4 → (flT l)[i * 4 + j]? = some (tokC l[i] j) := by
  induction l with
  | nil => intro i j h; exact absurd h (Nat.not_lt_zero _)
  | cons t l ih =>
    intro i j h hj
    have e : flT (t :: l) = [.int .i64 (t.kind : Int), .int .i64 (t.at_ : Int), .int .i64 (t.fin : Int), .string ⟨t.text.toArray⟩] ++ flT l := rfl
    rw [e]
    cases i with
    | zero =>
      rw [List.getElem?_append_left (by simp; omega)]
      have : j = 0 ∨ j = 1 ∨ j = 2 ∨ j = 3 := by omega
      rcases this with rfl | rfl | rfl | rfl <;> rfl
    | succ i =>
      rw [List.getElem?_append_right (by simp; omega)]
      have e2 : (i + 1) * 4 + j - [Value.int .i64 (t.kind : Int), .int .i64 (t.at_ : Int), .int .i64 (t.fin : Int), .string ⟨t.text.toArray⟩].length = i * 4 + j := by simp; omega
      rw [e2, ih i j (by simpa using h) hj]
      rfl
theorem trow_block {w : World} {g : Nat} {cur : Array Value} {t : TypeId} {l : List Tok} (h : w.heap[g]? = some (.cells cur t (0, 0))) (hc : cur.toList.take (l.length * 4) = flT l) : TRow w (some ⟨g, 0, none⟩) l := fun i hi => by
  have hv : ∀ j, j < 4 → w.cell? ⟨g, 0 + i * 4 + j, none⟩ = some (tokC l[i] j) := fun j hj => by
    rw [cell_of_row _ _ _ _ _ _ h, ← Array.getElem?_toList, Nat.zero_add, ← flT_get l i j hi hj, ← hc, List.getElem?_take_of_lt (by omega)]
  exact ⟨g, 0, rfl, (Array.getElem?_eq_some_iff.1 h).1, hv 0 (by decide), hv 1 (by decide), hv 2 (by decide), hv 3 (by decide)⟩
theorem trow_own {w : World} {base : Nat} {so : Option Addr} {sc : Nat} {l : List Tok} (h : w.ownsRow base 52 4 (.slice so l.length sc) l.length (flT l)) : TRow w so l ∧ l.length ≤ sc := by
  rcases h.2 with ⟨e, h0⟩ | ⟨g, cap, cur, e, h1, h2, h3, h4, h5, h6⟩
  · exact ⟨fun i hi => by omega, by omega⟩
  · simp only [Value.slice.injEq] at e
    obtain ⟨rfl, _, rfl⟩ := e
    exact ⟨trow_block h2 h6, h3⟩

theorem w_ScanK (w : World) (hE : ErrIn w) : Calls Tryz.prog 5 #[.string ⟨kText.toArray⟩] w fun e w' => ∃ so sc, e = .returned (.tuple #[.slice so 11 sc, .int .i64 0, .int .i64 0]) ∧ Hid (TRow w' so kToks ∧ 11 ≤ sc) ∧ Below w.heap.size w w' := by
  refine (w_Scan ⟨kText.toArray⟩ w (by decide) hE).mono ?_
  have e1 : (⟨kText.toArray⟩ : ByteArray).data.toList = kText := rfl
  unfold ScanR
  rw [e1, allY_known]
  rintro e w' ⟨⟨_, so, sc, rfl, hr⟩ | ⟨p2, x2, h1, h2, _⟩, hb⟩
  · obtain ⟨t1, t2⟩ := trow_own hr.out
    exact ⟨so, sc, rfl, ⟨t1, t2⟩, hb⟩
  · have hm : x2 ∈ kToks := by rw [h1]; simp
    have : ∀ t ∈ kToks, t.err = 0 := by
      intro t ht
      simp only [kToks, List.mem_cons, List.mem_nil_iff, or_false] at ht
      rcases ht with rfl | rfl | rfl | rfl | rfl | rfl | rfl | rfl | rfl | rfl | rfl <;> rfl
    exact absurd (this _ hm) h2

set_option maxRecDepth 100000 in
set_option maxHeartbeats 6400000 in
theorem w_lTokenKnown (w : World) (hE : ErrIn w) : Calls Tryz.prog 9 #[] w fun e w' => e = .returned (.bool true) ∧ Below w.heap.size w w' := by
  have HE := Hid.mk hE
  have HS := Hid.mk (w_ScanK w hE)
  unfold kText at HS
  clear hE
  go_enter Tryz.func9, Tryz.ntmps9
  go_wp2_with fail
  refine HS.out.mono ?_
  rintro e w1 ⟨so, sc, rfl, HT, hb1⟩
  have HB1 := Hid.mk hb1
  clear hb1 HS
  go_wp2_with fail
  refine (w_known _).mono ?_
  rintro e w2 ⟨rfl, hw2⟩
  have HB2 : Hid (Below w.heap.size w w2) := by show Below _ _ _; rw [hw2]; exact HB1.out.alloc HB1.out.size _
  have HR : Hid (TRow w2 so kToks ∧ TRow w2 (some ⟨w1.heap.size, 0, none⟩) kToks) := by
    refine ⟨HT.out.1.keep (by rw [hw2]; exact below1 w1 _), trow_block (cur := (flT kToks).toArray) (by rw [hw2]; exact heap_alloc_new w1 _) ?_⟩
    exact List.take_of_length_le (by rw [flT_len]; exact Nat.le_refl _)
  clear hw2
  go_wp2_with fail
  refine (w_SameTokens kToks so (some ⟨w1.heap.size, 0, none⟩) sc 11 w2 (by decide) HR.out.1 HR.out.2 HT.out.2 (by decide)).mono ?_
  rintro e w3 ⟨rfl, hb3⟩
  have HB3 := Hid.mk (HB2.out.trans (hb3.mono HB2.out.size))
  clear hb3 HR HT
  go_wp2_with fail
  refine (w_fails ⟨#[116, 114, 117, 101, 102, 97, 108, 115, 101]⟩ 41 0 _ _ w3 (by decide) (HE.out.keep HB3.out) allY_bad0 rfl (by decide) rfl).mono ?_
  rintro e w4 ⟨rfl, hb4⟩
  have HB4 := Hid.mk (HB3.out.trans (hb4.mono HB3.out.size))
  clear hb4
  go_wp2_with fail
  refine (w_fails ⟨#[91, 49, 46, 53, 93]⟩ 42 1 _ _ w4 (by decide) (HE.out.keep HB4.out) allY_bad1 rfl (by decide) rfl).mono ?_
  rintro e w5 ⟨rfl, hb5⟩
  have HB5 := Hid.mk (HB4.out.trans (hb5.mono HB4.out.size))
  clear hb5
  go_wp2_with fail
  refine (w_fails ⟨#[49, 50, 45, 51]⟩ 42 0 _ _ w5 (by decide) (HE.out.keep HB5.out) allY_bad2 rfl (by decide) rfl).mono ?_
  rintro e w6 ⟨rfl, hb6⟩
  have HB6 := Hid.mk (HB5.out.trans (hb6.mono HB5.out.size))
  clear hb6
  go_wp2_with fail
  refine (w_fails ⟨#[39, 97, 39]⟩ 40 0 _ _ w6 (by decide) (HE.out.keep HB6.out) allY_bad3 rfl (by decide) rfl).mono ?_
  rintro e w7 ⟨rfl, hb7⟩
  have HB7 := Hid.mk (HB6.out.trans (hb7.mono HB6.out.size))
  clear hb7
  go_wp2_with fail
  refine (w_fails ⟨#[43, 49]⟩ 40 0 _ _ w7 (by decide) (HE.out.keep HB7.out) allY_bad4 rfl (by decide) rfl).mono ?_
  rintro e w8 ⟨rfl, hb8⟩
  have HB8 := Hid.mk (HB7.out.trans (hb8.mono HB7.out.size))
  clear hb8
  go_wp2_with fail
  go_ret
  exact ⟨rfl, HB8.out⟩
end Go.Proofs.YtdehejadiofomaaGreatDoor
namespace Go.Proofs.YtdehejadiofomaaGreatDoor
open Go.RowKit Go.Shelf
set_option linter.unusedVariables false
set_option linter.unusedSimpArgs false

theorem nextT_at {l : List UInt8} {p : Nat} (h : (nextT l p).err = 0) : (nextT l p).at_ = p := by
  unfold nextT at h ⊢
  split
  · rfl
  · next h1 =>
    rw [if_neg h1] at h
    split
    · next h2 =>
      rw [if_pos h2] at h
      unfold litT at h ⊢
      split
      · rfl
      · next h3 => rw [if_neg h3] at h; exact absurd h h3
    · next h2 =>
      rw [if_neg h2] at h
      split
      · unfold wordT
        split
        · rfl
        · split
          · rfl
          · split <;> rfl
      · split
        · unfold numeralT
          split <;> rfl
        · rfl

/-- each token's place is behind the blanks that follow the last one -/
def Good (l : List UInt8) : Nat → List Tok → Prop
  | a, [] => behL l a cBl = l.length
  | a, t :: r => t.at_ = behL l a cBl ∧ t.at_ < t.fin ∧ t.fin ≤ l.length ∧ Good l t.fin r
theorem good_rest (l : List UInt8) : ∀ (f a : Nat), a ≤ l.length → l.length - behL l a cBl < f → (∀ t ∈ restY l f (behL l a cBl), t.err = 0) → Good l a (restY l f (behL l a cBl)) := by
  intro f
  induction f with
  | zero => intro a _ h; omega
  | succ f ih =>
    intro a ha hf hall
    have hb := behL_ge (l := l) (p := a) cBl ha
    rw [restY] at hall ⊢
    by_cases hp : behL l a cBl < l.length
    · rw [if_pos hp] at hall ⊢
      by_cases he : (nextT l (behL l a cBl)).err = 0
      · rw [if_pos he] at hall ⊢
        obtain ⟨u1, u2⟩ := nextT_up hp he
        have hb2 := behL_ge (l := l) (p := (nextT l (behL l a cBl)).fin) cBl u2
        refine ⟨nextT_at he, by rw [nextT_at he]; exact u1, u2, ih _ u2 (by omega) fun t ht => hall t (List.mem_cons_of_mem _ ht)⟩
      · rw [if_neg he] at hall
        exact absurd (hall _ (List.mem_singleton.2 rfl)) he
    · rw [if_neg hp]
      show behL l a cBl = l.length
      omega
theorem good_all {l : List UInt8} (h : ∀ t ∈ allY l, t.err = 0) : Good l 0 (allY l) := by
  have hb := behL_ge (l := l) (p := 0) cBl (Nat.zero_le _)
  exact good_rest l (l.length + 1) 0 (Nat.zero_le _) (by omega) h

theorem drop_blank (p : UInt8 → Bool) : ∀ (m : List UInt8) (j : Nat), j < m.length - (m.dropWhile p).length → p (m.getD j 0) = true := by
  intro m
  induction m with
  | nil => intro j h; simp at h
  | cons c r ih =>
    intro j h
    rw [List.dropWhile_cons] at h
    split at h
    · next hc =>
      cases j with
      | zero => exact hc
      | succ j =>
        have := ih j (by rw [List.length_cons] at h; have := dropWhile_le p r; omega)
        simpa using this
    · simp at h
theorem beh_blank {l : List UInt8} {a k : Nat} (ha : a ≤ k) (hk : k < behL l a cBl) : cBl.contains (l.getD k 0) = true := by
  unfold behL at hk
  have := drop_blank (cBl.contains ·) (l.drop a) (k - a) (by rw [List.length_drop]; omega)
  rw [show (l.drop a).getD (k - a) 0 = l.getD k 0 by rw [List.getD, List.getD, List.getElem?_drop, show a + (k - a) = k by omega]] at this
  exact this
theorem blank4 {c : UInt8} (h : cBl.contains c = true) : c.toNat = 32 ∨ c.toNat = 9 ∨ c.toNat = 10 ∨ c.toNat = 13 := by
  simp only [cBl, List.contains_cons, List.contains_nil, Bool.or_false, Bool.or_eq_true, beq_iff_eq] at h
  rcases h with rfl | rfl | rfl | rfl
  · exact .inl rfl
  · exact .inr (.inl rfl)
  · exact .inr (.inr (.inl rfl))
  · exact .inr (.inr (.inr rfl))

theorem restY_len (l : List UInt8) : ∀ (f p : Nat), (restY l f p).length ≤ l.length - p := by
  intro f
  induction f with
  | zero => intro p; rw [restY]; simp
  | succ f ih =>
    intro p
    rw [restY]
    by_cases hp : p < l.length
    · rw [if_pos hp]
      by_cases he : (nextT l p).err = 0
      · rw [if_pos he, List.length_cons]
        obtain ⟨u1, u2⟩ := nextT_up hp he
        have hb := behL_ge (l := l) (p := (nextT l p).fin) cBl u2
        have := ih (behL l (nextT l p).fin cBl)
        omega
      · rw [if_neg he]; simp; omega
    · rw [if_neg hp]; simp
theorem allY_len (l : List UInt8) : (allY l).length ≤ l.length := by
  have := restY_len l (l.length + 1) (behL l 0 cBl)
  unfold allY
  omega

/-- where the loop stands -/
def PlS (l : List UInt8) (k p : Nat) : Prop := ∃ pre rest, allY l = pre ++ rest ∧ pre.length = k ∧ Good l p rest
theorem PlS.more {l : List UInt8} {k p : Nat} (h : PlS l k p) (hk : k < (allY l).length) : (allY l)[k].at_ = behL l p cBl ∧ (allY l)[k].at_ < (allY l)[k].fin ∧ (allY l)[k].fin ≤ l.length ∧ PlS l (k + 1) (allY l)[k].fin := by
  obtain ⟨pre, rest, e, rfl, hg⟩ := h
  cases rest with
  | nil => rw [e] at hk; simp at hk
  | cons t r =>
    have et : (allY l)[pre.length] = t := by simp [e]
    rw [et]
    obtain ⟨g1, g2, g3, g4⟩ := hg
    exact ⟨g1, g2, g3, pre ++ [t], r, by rw [e]; simp, by simp, g4⟩
theorem PlS.last {l : List UInt8} {k p : Nat} (h : PlS l k p) (hk : k = (allY l).length) : behL l p cBl = l.length := by
  obtain ⟨pre, rest, e, rfl, hg⟩ := h
  cases rest with
  | nil => exact hg
  | cons t r => rw [e] at hk; simp at hk
end Go.Proofs.YtdehejadiofomaaGreatDoor
