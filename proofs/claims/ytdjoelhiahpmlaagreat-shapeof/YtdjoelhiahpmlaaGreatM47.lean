import Derived.Test.YtdjoelhiahpmlaaGreatM43
import Derived.Test.YtdjoelhiahpmlaaGreatM46
namespace Go.Proofs.YtdjoelhiahpmlaaGreat
open Go.RowKit Go.Shelf Go.Sort
set_option linter.unusedVariables false
set_option linter.unusedSimpArgs false

/-- nearFields answers so at a height -/
def FdC (h : Nat) : Prop := ∀ (hv : Nat) (V : VT) (vv : Value) (u : World), InH u hv V vv → formN hv V = true → V.kind = 6 → Calls Tryz.prog 58 #[vv, .int .i64 ((h + 1 : Nat) : Int)] u fun e w' => (∃ v, e = .returned v ∧ Hid (FrO u.heap.size w' (h + 2) (fdN h (nrN h) V) v)) ∧ Below u.heap.size u w'

set_option maxRecDepth 100000 in
set_option maxHeartbeats 1600000 in
/-- nothing is told of no items -/
theorem item_none (io : Option Addr) (icap : Nat) (H : Int) (w : World) : Calls Tryz.prog 59 #[.slice io 0 icap, .int .i64 H] w fun e w' => (∃ v, e = .returned v ∧ Hid (FrT w.heap.size w' 1 ttNe v)) ∧ Below w.heap.size w w' := by
  obtain ⟨W0, hW0⟩ : ∃ W0, w.alloc (.cells #[.bool false, .bool false, .bool false, .bool false, .slice none 0 0, .bool false, .slice none 0 0, .slice none 0 0, .slice none 0 0] 32) = W0 := ⟨_, rfl⟩
  have HB0 : Hid (Below w.heap.size w W0) := by rw [← hW0]; exact (Below.refl _ w).alloc (Nat.le_refl _) _
  have HR0 : Hid (W0.heap[w.heap.size]? = some (.cells #[.bool false, .bool false, .bool false, .bool false, .slice none 0 0, .bool false, .slice none 0 0, .slice none 0 0, .slice none 0 0] 32 (0, 0))) := by show _ = _; rw [← hW0]; exact World.alloc_heap_new w _
  go_enter Tryz.func59, Tryz.ntmps59
  go_wp2_with fail
  refine (w_sfNever _).mono ?_
  rintro e w1 ⟨rfl, hq⟩
  have HB1 := Hid.mk (HB0.out.trans (hq.mono HB0.out.size))
  have HR1 : Hid (w1.heap[w.heap.size]? = _) := (hq.block _ (lt_of_row HR0.out)).trans HR0.out
  clear hq hW0
  have g0 := cell_of_row _ _ 0 _ _ _ HR1.out
  have f0 := frozen_row9 (j := 0) HR1.out
  have g1 := cell_of_row _ _ 1 _ _ _ HR1.out
  have f1 := frozen_row9 (j := 1) HR1.out
  have g2 := cell_of_row _ _ 2 _ _ _ HR1.out
  have f2 := frozen_row9 (j := 2) HR1.out
  have g3 := cell_of_row _ _ 3 _ _ _ HR1.out
  have f3 := frozen_row9 (j := 3) HR1.out
  have g4 := cell_of_row _ _ 4 _ _ _ HR1.out
  have f4 := frozen_row9 (j := 4) HR1.out
  have g5 := cell_of_row _ _ 5 _ _ _ HR1.out
  have f5 := frozen_row9 (j := 5) HR1.out
  have g6 := cell_of_row _ _ 6 _ _ _ HR1.out
  have f6 := frozen_row9 (j := 6) HR1.out
  have g7 := cell_of_row _ _ 7 _ _ _ HR1.out
  have f7 := frozen_row9 (j := 7) HR1.out
  have g8 := cell_of_row _ _ 8 _ _ _ HR1.out
  have f8 := frozen_row9 (j := 8) HR1.out
  go_wp2_with fail
  (try simp only [Exit.inBlock, Exit.then])
  generalize hz9 : ((((((((w1.setCell ⟨w.heap.size, 0, none⟩ (.bool false)).setCell ⟨w.heap.size, 1, none⟩ (.bool false)).setCell ⟨w.heap.size, 2, none⟩ (.bool false)).setCell ⟨w.heap.size, 3, none⟩ (.bool false)).setCell ⟨w.heap.size, 4, none⟩ (.slice none 0 0)).setCell ⟨w.heap.size, 5, none⟩ (.bool false)).setCell ⟨w.heap.size, 6, none⟩ (.slice none 0 0)).setCell ⟨w.heap.size, 7, none⟩ (.slice none 0 0)).setCell ⟨w.heap.size, 8, none⟩ (.slice none 0 0) = wz
  obtain ⟨e7, k7, s7⟩ := rbox_set9 w1 _ _ _ _ _ _ _ _ _ _ _ _ _ _ _ _ _ _ _ _ (HR1.out) wz hz9.symm
  have d0 := cell_of_row _ _ 0 _ _ _ e7
  have d1 := cell_of_row _ _ 1 _ _ _ e7
  have d2 := cell_of_row _ _ 2 _ _ _ e7
  have d3 := cell_of_row _ _ 3 _ _ _ e7
  have d4 := cell_of_row _ _ 4 _ _ _ e7
  have d5 := cell_of_row _ _ 5 _ _ _ e7
  have d6 := cell_of_row _ _ 6 _ _ _ e7
  have d7 := cell_of_row _ _ 7 _ _ _ e7
  have d8 := cell_of_row _ _ 8 _ _ _ e7
  have hbz : Below w.heap.size w wz := by rw [← hz9]; exact (((((((((HB1.out.setCell (p := ⟨w.heap.size, 0, none⟩) (by show w.heap.size ≤ w.heap.size; omega) _).setCell (p := ⟨w.heap.size, 1, none⟩) (by show w.heap.size ≤ w.heap.size; omega) _).setCell (p := ⟨w.heap.size, 2, none⟩) (by show w.heap.size ≤ w.heap.size; omega) _).setCell (p := ⟨w.heap.size, 3, none⟩) (by show w.heap.size ≤ w.heap.size; omega) _).setCell (p := ⟨w.heap.size, 4, none⟩) (by show w.heap.size ≤ w.heap.size; omega) _).setCell (p := ⟨w.heap.size, 5, none⟩) (by show w.heap.size ≤ w.heap.size; omega) _).setCell (p := ⟨w.heap.size, 6, none⟩) (by show w.heap.size ≤ w.heap.size; omega) _).setCell (p := ⟨w.heap.size, 7, none⟩) (by show w.heap.size ≤ w.heap.size; omega) _).setCell (p := ⟨w.heap.size, 8, none⟩) (by show w.heap.size ≤ w.heap.size; omega) _)
  refine bodyPost_ret (v := .agg #[.bool false, .bool false, .bool false, .bool false, .slice none 0 0, .bool false, .slice none 0 0, .slice none 0 0, .slice none 0 0]) (by simp [results, Tryz.results59, go_sem, d0, d1, d2, d3, d4, d5, d6, d7, d8]) rfl ?_
  exact ⟨⟨_, rfl, Hid.mk (fun x _ _ => inT_nev x 0)⟩, hbz⟩

theorem same_of {h hv : Nat} {x y : VT} (hx : formN hv x = true) (bx : bdV hv x) (hy : formN hv y = true) (bY : bdV hv y) (u : World) (va vb : Value) (ha : InT u (h + 2) (nrN h y) va) (hb : InT u (h + 2) (nrN h x) vb) :
    Calls Tryz.prog 69 #[va, vb] u fun e w' => e = .returned (.bool (sameT (h + 2) (nrN h x) (nrN h y))) ∧ Below u.heap.size u w' := by
  have e := w_sSame (h + 2) (nrN h y) (nrN h x) va vb u ha hb
  rw [same_nr (good_nr h hv x hx bx) (good_nr h hv y hy bY)] at e
  exact e
theorem nr_eq5 (h : Nat) (i : List VT) : nrN (h + 1) (.mk 5 .empty .empty i []) = .mk false false false false false [] [] [.mk (itN h (nrN h) i) (i.length : Int) (i.length : Int)] [] := rfl
theorem nr_eq6 (h : Nat) (i : List VT) (ks : List ByteArray) : nrN (h + 1) (.mk 6 .empty .empty i ks) = .mk false false false false false [] [] [] [fdN h (nrN h) (.mk 6 .empty .empty i ks)] := rfl
theorem nr_leaf (h : Nat) {V : VT} (h5 : V.kind ≠ 5) (h6 : V.kind ≠ 6) : nrN h V = nrLeaf V := by
  cases h with
  | zero => unfold nrN; rw [if_neg (fun h => h.elim h5 h6)]
  | succ h => unfold nrN; rw [if_neg h5, if_neg h6]
theorem nr_zero5 (i : List VT) : nrN 0 (.mk 5 .empty .empty i []) = ttEv := rfl
theorem nr_zero6 (i : List VT) (ks : List ByteArray) : nrN 0 (.mk 6 .empty .empty i ks) = ttEv := rfl

/-- near, given nearFields -/
theorem nr_all (HFd : ∀ h, h ≤ 7 → NrC h → FdC h) : ∀ h, h ≤ 8 → NrC h := by
  intro h
  induction h with
  | zero =>
    intro _ hv V vv u hI hf
    obtain ⟨m, rfl⟩ := form_pos hf
    obtain ⟨io, icap, ko, kcap, rfl, a1, a2, a3, a4, a5, a6, a7, hk, hi⟩ := hI.open
    rcases form_open hf with (rfl | rfl | rfl) | ⟨n, rfl, hn⟩ | ⟨t, rfl, ht⟩ | ⟨i, rfl, hi'⟩ | ⟨i, ks, rfl, _, _, _, hi'⟩
    · rw [nr_leaf _ (by show ¬ (0 : Int) = 5; decide) (by show ¬ (0 : Int) = 6; decide)]
      have e : nrLeaf (.mk 0 .empty .empty [] []) = widT (bv 0) := rfl
      rw [e]
      exact (near_kind 0 _ _ _ _ _ _ _ _ ((0 : Nat) : Int) u (by decide)).mono fun e w' ⟨⟨v, hv, hF⟩, hb⟩ => ⟨⟨v, hv, Hid.mk (hF.out.le (by omega))⟩, hb⟩
    · rw [nr_leaf _ (by show ¬ (1 : Int) = 5; decide) (by show ¬ (1 : Int) = 6; decide)]
      have e : nrLeaf (.mk 1 .empty .empty [] []) = widT (bv 1) := rfl
      rw [e]
      exact (near_kind 1 _ _ _ _ _ _ _ _ ((0 : Nat) : Int) u (by decide)).mono fun e w' ⟨⟨v, hv, hF⟩, hb⟩ => ⟨⟨v, hv, Hid.mk (hF.out.le (by omega))⟩, hb⟩
    · rw [nr_leaf _ (by show ¬ (2 : Int) = 5; decide) (by show ¬ (2 : Int) = 6; decide)]
      have e : nrLeaf (.mk 2 .empty .empty [] []) = widT (bv 2) := rfl
      rw [e]
      exact (near_kind 2 _ _ _ _ _ _ _ _ ((0 : Nat) : Int) u (by decide)).mono fun e w' ⟨⟨v, hv, hF⟩, hb⟩ => ⟨⟨v, hv, Hid.mk (hF.out.le (by omega))⟩, hb⟩
    · rw [nr_leaf _ (by show ¬ (3 : Int) = 5; decide) (by show ¬ (3 : Int) = 6; decide), leaf3]
      exact (near_num _ _ _ _ _ _ _ _ ((0 : Nat) : Int) u).mono fun e w' ⟨b, hv, hF, hb⟩ => ⟨⟨_, hv, Hid.mk (fr_num 1 a1 hF)⟩, hb⟩
    · rw [nr_leaf _ (by show ¬ (4 : Int) = 5; decide) (by show ¬ (4 : Int) = 6; decide), leaf4]
      exact (near_text _ _ _ _ _ _ _ _ ((0 : Nat) : Int) u).mono fun e w' ⟨b, hv, hF, hb⟩ => ⟨⟨_, hv, Hid.mk (fr_text 1 a2 hF)⟩, hb⟩
    · rw [nr_zero5]
      exact near_around 5 _ _ _ _ _ _ _ _ 0 u 2 ttEv (.inl rfl) (Hid.mk fun u2 _ => around_zero 5 _ _ _ _ _ _ _ _ u2)
    · rw [nr_zero6]
      exact near_around 6 _ _ _ _ _ _ _ _ 0 u 2 ttEv (.inr rfl) (Hid.mk fun u2 _ => around_zero 6 _ _ _ _ _ _ _ _ u2)
  | succ h ih =>
    intro h8 hv V vv u hI hf
    have ihc := ih (by omega)
    have hfd := HFd h (by omega) ihc
    obtain ⟨m, rfl⟩ := form_pos hf
    have hI0 := hI
    obtain ⟨io, icap, ko, kcap, rfl, a1, a2, a3, a4, a5, a6, a7, hk, hi⟩ := hI.open
    rcases form_open hf with (rfl | rfl | rfl) | ⟨n, rfl, hn⟩ | ⟨t, rfl, ht⟩ | ⟨i, rfl, hi'⟩ | ⟨i, ks, rfl, _, _, _, hi'⟩
    · rw [nr_leaf _ (by show ¬ (0 : Int) = 5; decide) (by show ¬ (0 : Int) = 6; decide)]
      have e : nrLeaf (.mk 0 .empty .empty [] []) = widT (bv 0) := rfl
      rw [e]
      exact (near_kind 0 _ _ _ _ _ _ _ _ ((h + 1 : Nat) : Int) u (by decide)).mono fun e w' ⟨⟨v, hv, hF⟩, hb⟩ => ⟨⟨v, hv, Hid.mk (hF.out.le (by omega))⟩, hb⟩
    · rw [nr_leaf _ (by show ¬ (1 : Int) = 5; decide) (by show ¬ (1 : Int) = 6; decide)]
      have e : nrLeaf (.mk 1 .empty .empty [] []) = widT (bv 1) := rfl
      rw [e]
      exact (near_kind 1 _ _ _ _ _ _ _ _ ((h + 1 : Nat) : Int) u (by decide)).mono fun e w' ⟨⟨v, hv, hF⟩, hb⟩ => ⟨⟨v, hv, Hid.mk (hF.out.le (by omega))⟩, hb⟩
    · rw [nr_leaf _ (by show ¬ (2 : Int) = 5; decide) (by show ¬ (2 : Int) = 6; decide)]
      have e : nrLeaf (.mk 2 .empty .empty [] []) = widT (bv 2) := rfl
      rw [e]
      exact (near_kind 2 _ _ _ _ _ _ _ _ ((h + 1 : Nat) : Int) u (by decide)).mono fun e w' ⟨⟨v, hv, hF⟩, hb⟩ => ⟨⟨v, hv, Hid.mk (hF.out.le (by omega))⟩, hb⟩
    · rw [nr_leaf _ (by show ¬ (3 : Int) = 5; decide) (by show ¬ (3 : Int) = 6; decide), leaf3]
      exact (near_num _ _ _ _ _ _ _ _ ((h + 1 : Nat) : Int) u).mono fun e w' ⟨b, hv, hF, hb⟩ => ⟨⟨_, hv, Hid.mk (fr_num (h + 2) a1 hF)⟩, hb⟩
    · rw [nr_leaf _ (by show ¬ (4 : Int) = 5; decide) (by show ¬ (4 : Int) = 6; decide), leaf4]
      exact (near_text _ _ _ _ _ _ _ _ ((h + 1 : Nat) : Int) u).mono fun e w' ⟨b, hv, hF, hb⟩ => ⟨⟨_, hv, Hid.mk (fr_text (h + 2) a2 hF)⟩, hb⟩
    · rw [nr_eq5]
      have hbd := hI0.bd
      refine near_around 5 _ _ _ _ _ _ _ _ ((h + 1 : Nat) : Int) u (h + 3) _ (.inl rfl) (Hid.mk fun u2 hu => ?_)
      refine around_arr _ _ _ _ _ _ _ _ ((h + 1 : Nat) : Int) u2 (h + 2) _ (by simp; omega) (Hid.mk fun u3 hu3 => ?_)
      have hb3 : Below u.heap.size u u3 := hu.trans (hu3.mono hu.size)
      have hii : IIn u3 m io i := hi.keep hb3
      cases i with
      | nil => exact (item_none io icap ((h + 1 : Nat) : Int) u3).mono fun e w' ⟨⟨v, hv, hF⟩, hb⟩ => ⟨⟨v, hv, Hid.mk (hF.out.le (by omega))⟩, hb⟩
      | cons x0 r =>
        exact w_nearItem h ihc ((h + 1 : Nat) : Int) (by omega) (by omega) m io _ icap x0 r u3 hii rfl a5 a3 hi' (Hid.mk fun y hy u4 va vb ha hb => same_of (hi' x0 (List.mem_cons_self ..)) (hbd.2 x0 (List.mem_cons_self ..)) (hi' y (List.mem_cons_of_mem _ hy)) (hbd.2 y (List.mem_cons_of_mem _ hy)) u4 va vb ha hb)
    · rw [nr_eq6]
      refine near_around 6 _ _ _ _ _ _ _ _ ((h + 1 : Nat) : Int) u (h + 3) _ (.inr rfl) (Hid.mk fun u2 hu => ?_)
      refine around_obj _ _ _ _ _ _ _ _ ((h + 1 : Nat) : Int) u2 (h + 2) _ (by simp; omega) (Hid.mk fun u3 hu3 => ?_)
      have hb3 : Below u.heap.size u u3 := hu.trans (hu3.mono hu.size)
      exact hfd (m + 1) _ _ u3 (hI0.keep hb3) hf rfl
end Go.Proofs.YtdjoelhiahpmlaaGreat
namespace Go.Proofs.YtdjoelhiahpmlaaGreat
open Go.RowKit Go.Shelf Go.Sort
set_option linter.unusedVariables false
set_option linter.unusedSimpArgs false
attribute [local go_sem] Oper.semAt_some

set_option maxHeartbeats 1600000 in
theorem rbox_set12 (w : World) (B : Nat) (t : TypeId) (y0 y1 y2 y3 y4 y5 y6 y7 y8 y9 y10 y11 a0 a1 a2 a3 a4 a5 a6 a7 a8 a9 a10 a11 : Value) (h : w.heap[B]? = some (.cells #[y0, y1, y2, y3, y4, y5, y6, y7, y8, y9, y10, y11] t (0, 0))) (wz : World) (hz : wz = (((((((((((w.setCell ⟨B, 0, none⟩ (a0)).setCell ⟨B, 1, none⟩ (a1)).setCell ⟨B, 2, none⟩ (a2)).setCell ⟨B, 3, none⟩ (a3)).setCell ⟨B, 4, none⟩ (a4)).setCell ⟨B, 5, none⟩ (a5)).setCell ⟨B, 6, none⟩ (a6)).setCell ⟨B, 7, none⟩ (a7)).setCell ⟨B, 8, none⟩ (a8)).setCell ⟨B, 9, none⟩ (a9)).setCell ⟨B, 10, none⟩ (a10)).setCell ⟨B, 11, none⟩ (a11)) :
    wz.heap[B]? = some (.cells #[a0, a1, a2, a3, a4, a5, a6, a7, a8, a9, a10, a11] t (0, 0)) ∧ (∀ b, b ≠ B → wz.heap[b]? = w.heap[b]?) ∧ wz.heap.size = w.heap.size := by
  subst hz
  refine ⟨rset9 (i := 11) (c := #[a0, a1, a2, a3, a4, a5, a6, a7, a8, a9, a10, y11]) a11 (rset9 (i := 10) (c := #[a0, a1, a2, a3, a4, a5, a6, a7, a8, a9, y10, y11]) a10 (rset9 (i := 9) (c := #[a0, a1, a2, a3, a4, a5, a6, a7, a8, y9, y10, y11]) a9 (rset9 (i := 8) (c := #[a0, a1, a2, a3, a4, a5, a6, a7, y8, y9, y10, y11]) a8 (rset9 (i := 7) (c := #[a0, a1, a2, a3, a4, a5, a6, y7, y8, y9, y10, y11]) a7 (rset9 (i := 6) (c := #[a0, a1, a2, a3, a4, a5, y6, y7, y8, y9, y10, y11]) a6 (rset9 (i := 5) (c := #[a0, a1, a2, a3, a4, y5, y6, y7, y8, y9, y10, y11]) a5 (rset9 (i := 4) (c := #[a0, a1, a2, a3, y4, y5, y6, y7, y8, y9, y10, y11]) a4 (rset9 (i := 3) (c := #[a0, a1, a2, y3, y4, y5, y6, y7, y8, y9, y10, y11]) a3 (rset9 (i := 2) (c := #[a0, a1, y2, y3, y4, y5, y6, y7, y8, y9, y10, y11]) a2 (rset9 (i := 1) (c := #[a0, y1, y2, y3, y4, y5, y6, y7, y8, y9, y10, y11]) a1 (rset9 (i := 0) (c := #[y0, y1, y2, y3, y4, y5, y6, y7, y8, y9, y10, y11]) a0 (h)))))))))))), fun b hb => ?_, by simp⟩
  rw [Below.heap_setCell _ _ _ _ hb, Below.heap_setCell _ _ _ _ hb, Below.heap_setCell _ _ _ _ hb, Below.heap_setCell _ _ _ _ hb, Below.heap_setCell _ _ _ _ hb, Below.heap_setCell _ _ _ _ hb, Below.heap_setCell _ _ _ _ hb, Below.heap_setCell _ _ _ _ hb, Below.heap_setCell _ _ _ _ hb, Below.heap_setCell _ _ _ _ hb, Below.heap_setCell _ _ _ _ hb, Below.heap_setCell _ _ _ _ hb]
/-- an object's type of no names, the rest's type given -/
theorem fr_wide {L : Nat} {W : World} {h : Nat} {T : TT} {c0 c1 c2 c3 c4 c5 c6 c7 c8 : Value} (f : FrT L W h T (.agg #[c0, c1, c2, c3, c4, c5, c6, c7, c8])) : FrO L W h (.mk [] [] [] T) (.agg #[.slice none 0 0, .slice none 0 0, .slice none 0 0, c0, c1, c2, c3, c4, c5, c6, c7, c8]) :=
  ⟨none, 0, none, 0, none, 0, c0, c1, c2, c3, c4, c5, c6, c7, c8, rfl, fun x h1 h2 => ⟨⟨Nat.le_refl _, Nat.le_refl _, Nat.le_refl _⟩, ⟨Nat.zero_le _, Nat.zero_le _, Nat.zero_le _, fun k hk => absurd hk (List.not_mem_nil)⟩, ⟨fun h => absurd h (Nat.lt_irrefl 0)⟩, ⟨fun h => absurd h (Nat.lt_irrefl 0)⟩, fun h => absurd h (Nat.lt_irrefl 0), f x h1 h2⟩⟩

set_option maxRecDepth 100000 in
set_option maxHeartbeats 3200000 in
/-- nearFields of more than twelve fields -/
theorem fields_wide (nm tx : ByteArray) (io : Option Addr) (NI icap : Nat) (ko : Option Addr) (NK kcap : Nat) (h : Int) (w : World) (m : Nat) (CT : TT) (h12 : 12 < NK)
    (HC : Hid (∀ u, Below w.heap.size w u → Calls Tryz.prog 68 #[.slice io NI icap, .int .i64 h] u fun e w' => (∃ v, e = .returned v ∧ Hid (FrT u.heap.size w' m CT v)) ∧ Below u.heap.size u w')) :
    Calls Tryz.prog 58 #[.agg #[.int .i64 6, .string nm, .string tx, .slice io NI icap, .slice ko NK kcap], .int .i64 h] w fun e w' => (∃ v, e = .returned v ∧ Hid (FrO w.heap.size w' m (.mk [] [] [] CT) v)) ∧ Below w.heap.size w w' := by
  have hx : (12 : Int) < (NK : Int) := by omega
  obtain ⟨W0, hW0⟩ : ∃ W0, (w.alloc (.cells #[.int .i64 6, .string nm, .string tx, .slice io NI icap, .slice ko NK kcap] 25)).alloc (.cells #[.slice none 0 0, .slice none 0 0, .slice none 0 0, .bool false, .bool false, .bool false, .bool false, .slice none 0 0, .bool false, .slice none 0 0, .slice none 0 0, .slice none 0 0] 63) = W0 := ⟨_, rfl⟩
  have HB0 : Hid (Below w.heap.size w W0) := by rw [← hW0]; exact ((Below.refl _ w).alloc (Nat.le_refl _) _).alloc (by simp) _
  have HR0 : Hid (W0.heap[w.heap.size + 1]? = some (.cells #[.slice none 0 0, .slice none 0 0, .slice none 0 0, .bool false, .bool false, .bool false, .bool false, .slice none 0 0, .bool false, .slice none 0 0, .slice none 0 0, .slice none 0 0] 63 (0, 0))) := by
    show _ = _
    rw [← hW0]
    have h := World.alloc_heap_new (w.alloc (.cells #[.int .i64 6, .string nm, .string tx, .slice io NI icap, .slice ko NK kcap] 25)) (.cells #[.slice none 0 0, .slice none 0 0, .slice none 0 0, .bool false, .bool false, .bool false, .bool false, .slice none 0 0, .bool false, .slice none 0 0, .slice none 0 0, .slice none 0 0] 63)
    rw [World.size_alloc] at h
    exact h
  have HV0 : Hid (W0.heap[w.heap.size]? = some (.cells #[.int .i64 6, .string nm, .string tx, .slice io NI icap, .slice ko NK kcap] 25 (0, 0))) := by
    show _ = _
    rw [← hW0]
    exact (Below.heap_alloc _ _ _ (by simp)).trans (World.alloc_heap_new w _)
  have c0 := cell_of_row _ _ 0 _ _ _ HV0.out
  have c1 := cell_of_row _ _ 1 _ _ _ HV0.out
  have c2 := cell_of_row _ _ 2 _ _ _ HV0.out
  have c3 := cell_of_row _ _ 3 _ _ _ HV0.out
  have c4 := cell_of_row _ _ 4 _ _ _ HV0.out
  go_enter Tryz.func58, Tryz.ntmps58
  go_wp2_with fail
  refine (HC.out _ HB0.out).mono ?_
  rintro e w3 ⟨⟨vw, rfl, hF⟩, hq⟩
  have HB3 := Hid.mk (HB0.out.trans (hq.mono HB0.out.size))
  have HR3 : Hid (w3.heap[w.heap.size + 1]? = _) := (hq.block _ (lt_of_row HR0.out)).trans HR0.out
  have HL := Hid.mk (lt_of_row HR0.out)
  clear hq
  have hF2 := hF.out.here
  obtain ⟨ta, tb, tc, td, ⟨teo, ten, tec⟩, tf, ⟨tgo, tgn, tgc⟩, ⟨tio, tinn, tic⟩, ⟨tjo, tjn, tjc⟩, esht⟩ := inT_shape hF2
  simp only [Value.agg.injEq, Array.mk.injEq, List.cons.injEq, and_true] at esht
  obtain ⟨rfl, rfl, rfl, rfl, rfl, rfl, rfl, rfl, rfl⟩ := esht
  clear hF2
  have g0 := cell_of_row _ _ 0 _ _ _ HR3.out
  have f0 := frozen_row9 (j := 0) HR3.out
  have g1 := cell_of_row _ _ 1 _ _ _ HR3.out
  have f1 := frozen_row9 (j := 1) HR3.out
  have g2 := cell_of_row _ _ 2 _ _ _ HR3.out
  have f2 := frozen_row9 (j := 2) HR3.out
  have g3 := cell_of_row _ _ 3 _ _ _ HR3.out
  have f3 := frozen_row9 (j := 3) HR3.out
  have g4 := cell_of_row _ _ 4 _ _ _ HR3.out
  have f4 := frozen_row9 (j := 4) HR3.out
  have g5 := cell_of_row _ _ 5 _ _ _ HR3.out
  have f5 := frozen_row9 (j := 5) HR3.out
  have g6 := cell_of_row _ _ 6 _ _ _ HR3.out
  have f6 := frozen_row9 (j := 6) HR3.out
  have g7 := cell_of_row _ _ 7 _ _ _ HR3.out
  have f7 := frozen_row9 (j := 7) HR3.out
  have g8 := cell_of_row _ _ 8 _ _ _ HR3.out
  have f8 := frozen_row9 (j := 8) HR3.out
  have g9 := cell_of_row _ _ 9 _ _ _ HR3.out
  have f9 := frozen_row9 (j := 9) HR3.out
  have g10 := cell_of_row _ _ 10 _ _ _ HR3.out
  have f10 := frozen_row9 (j := 10) HR3.out
  have g11 := cell_of_row _ _ 11 _ _ _ HR3.out
  have f11 := frozen_row9 (j := 11) HR3.out
  go_wp2_with fail
  (try simp only [Exit.inBlock, Exit.then])
  generalize hz9 : (((((((((((w3.setCell ⟨w.heap.size + 1, 0, none⟩ (.slice none 0 0)).setCell ⟨w.heap.size + 1, 1, none⟩ (.slice none 0 0)).setCell ⟨w.heap.size + 1, 2, none⟩ (.slice none 0 0)).setCell ⟨w.heap.size + 1, 3, none⟩ (.bool ta)).setCell ⟨w.heap.size + 1, 4, none⟩ (.bool tb)).setCell ⟨w.heap.size + 1, 5, none⟩ (.bool tc)).setCell ⟨w.heap.size + 1, 6, none⟩ (.bool td)).setCell ⟨w.heap.size + 1, 7, none⟩ (.slice teo ten tec)).setCell ⟨w.heap.size + 1, 8, none⟩ (.bool tf)).setCell ⟨w.heap.size + 1, 9, none⟩ (.slice tgo tgn tgc)).setCell ⟨w.heap.size + 1, 10, none⟩ (.slice tio tinn tic)).setCell ⟨w.heap.size + 1, 11, none⟩ (.slice tjo tjn tjc) = wz
  obtain ⟨e7, k7, s7⟩ := rbox_set12 w3 _ _ _ _ _ _ _ _ _ _ _ _ _ _ _ _ _ _ _ _ _ _ _ _ _ _ (HR3.out) wz hz9.symm
  have d0 := cell_of_row _ _ 0 _ _ _ e7
  have d1 := cell_of_row _ _ 1 _ _ _ e7
  have d2 := cell_of_row _ _ 2 _ _ _ e7
  have d3 := cell_of_row _ _ 3 _ _ _ e7
  have d4 := cell_of_row _ _ 4 _ _ _ e7
  have d5 := cell_of_row _ _ 5 _ _ _ e7
  have d6 := cell_of_row _ _ 6 _ _ _ e7
  have d7 := cell_of_row _ _ 7 _ _ _ e7
  have d8 := cell_of_row _ _ 8 _ _ _ e7
  have d9 := cell_of_row _ _ 9 _ _ _ e7
  have d10 := cell_of_row _ _ 10 _ _ _ e7
  have d11 := cell_of_row _ _ 11 _ _ _ e7
  have hbz : Below w.heap.size w wz := by rw [← hz9]; exact ((((((((((((HB3.out.setCell (p := ⟨w.heap.size + 1, 0, none⟩) (by show w.heap.size ≤ w.heap.size + 1; omega) _).setCell (p := ⟨w.heap.size + 1, 1, none⟩) (by show w.heap.size ≤ w.heap.size + 1; omega) _).setCell (p := ⟨w.heap.size + 1, 2, none⟩) (by show w.heap.size ≤ w.heap.size + 1; omega) _).setCell (p := ⟨w.heap.size + 1, 3, none⟩) (by show w.heap.size ≤ w.heap.size + 1; omega) _).setCell (p := ⟨w.heap.size + 1, 4, none⟩) (by show w.heap.size ≤ w.heap.size + 1; omega) _).setCell (p := ⟨w.heap.size + 1, 5, none⟩) (by show w.heap.size ≤ w.heap.size + 1; omega) _).setCell (p := ⟨w.heap.size + 1, 6, none⟩) (by show w.heap.size ≤ w.heap.size + 1; omega) _).setCell (p := ⟨w.heap.size + 1, 7, none⟩) (by show w.heap.size ≤ w.heap.size + 1; omega) _).setCell (p := ⟨w.heap.size + 1, 8, none⟩) (by show w.heap.size ≤ w.heap.size + 1; omega) _).setCell (p := ⟨w.heap.size + 1, 9, none⟩) (by show w.heap.size ≤ w.heap.size + 1; omega) _).setCell (p := ⟨w.heap.size + 1, 10, none⟩) (by show w.heap.size ≤ w.heap.size + 1; omega) _).setCell (p := ⟨w.heap.size + 1, 11, none⟩) (by show w.heap.size ≤ w.heap.size + 1; omega) _)
  refine bodyPost_ret (v := .agg #[.slice none 0 0, .slice none 0 0, .slice none 0 0, .bool ta, .bool tb, .bool tc, .bool td, .slice teo ten tec, .bool tf, .slice tgo tgn tgc, .slice tio tinn tic, .slice tjo tjn tjc]) (by simp [results, Tryz.results58, go_sem, d0, d1, d2, d3, d4, d5, d6, d7, d8, d9, d10, d11]) rfl ?_
  exact ⟨⟨_, rfl, Hid.mk (fr_wide ((hF.out.set s7 (fun b hb => k7 b (by have := HL.out; omega))).mono (by have := HL.out; omega)))⟩, hbz⟩
end Go.Proofs.YtdjoelhiahpmlaaGreat
