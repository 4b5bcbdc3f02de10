import Derived.Test.YtdjoelhiahpmlaaGreatM47
import Derived.Maps.AppendAt
import Derived.Deep.AppendLies
namespace Go.Proofs.YtdjoelhiahpmlaaGreat
open Go.RowKit Go.Shelf Go.Sort Go.Maps Go.WideMaps
set_option linter.unusedVariables false
set_option linter.unusedSimpArgs false
attribute [local go_sem] Oper.semAt_some

theorem own_keepF {W W' : World} {B : Nat} {e : TypeId} {size : Nat} {v : Value} {n : Nat} {xs : List Value} (h : W.ownsRow B e size v n xs) (hb : ∀ b, v.ownBlock = some b → b < W.heap.size → W'.heap[b]? = W.heap[b]?) : W'.ownsRow B e size v n xs := by
  refine ⟨h.1, h.2.imp id ?_⟩
  rintro ⟨g, cap, cur, rfl, e2, e3, rest⟩
  exact ⟨g, cap, cur, rfl, e2, (hb g rfl (Array.getElem?_eq_some_iff.1 e3).1).trans e3, rest⟩
theorem own_cellsF {w : World} {base : Nat} {e : TypeId} {size : Nat} {v : Value} {n : Nat} {xs : List Value} (h : w.ownsRow base e size v n xs) {g : Nat} (hg : v.ownBlock = some g) : ∃ cur, w.heap[g]? = some (.cells cur e (0, 0)) ∧ base ≤ g := by
  rcases h.2 with ⟨rfl, _⟩ | ⟨g', cap, cur, rfl, e2, e3, _⟩
  · cases hg
  · simp [Value.ownBlock] at hg
    subst hg
    exact ⟨cur, e3, e2⟩
theorem own_succF {w : World} {base : Nat} {e : TypeId} {size : Nat} {v : Value} {n : Nat} {xs : List Value} (h : w.ownsRow base e size v (n + 1) xs) : ∃ g cap, v = .slice (some ⟨g, 0, none⟩) (n + 1) cap := by
  rcases h.2 with ⟨e, h0⟩ | ⟨g, cap, cur, e, _⟩
  · omega
  · exact ⟨_, _, e⟩
/-- a row's block lies outside of an interval -/
def outI (lo hi : Nat) (v : Value) : Prop := ∀ g, v.ownBlock = some g → g < lo ∨ hi ≤ g
/-- a type that stands by the blocks of an interval -/
def FrI (lo hi : Nat) (W : World) (h : Nat) (T : TT) (v : Value) : Prop := hi ≤ W.heap.size ∧ ∀ x : World, hi ≤ x.heap.size → (∀ b, lo ≤ b → b < hi → x.heap[b]? = W.heap[b]?) → InT x h T v
theorem FrI.move {lo hi : Nat} {W W' : World} {h : Nat} {T : TT} {v : Value} (f : FrI lo hi W h T v) (hs : W.heap.size ≤ W'.heap.size) (hb : ∀ b, lo ≤ b → b < hi → W'.heap[b]? = W.heap[b]?) : FrI lo hi W' h T v :=
  ⟨Nat.le_trans f.1 hs, fun x h1 h2 => f.2 x h1 (fun b g1 g2 => (h2 b g1 g2).trans (hb b g1 g2))⟩
theorem FrT.int {L : Nat} {W : World} {h : Nat} {T : TT} {v : Value} (f : FrT L W h T v) : FrI L W.heap.size W h T v := ⟨Nat.le_refl _, f⟩
/-- what nearFields holds: a names, b types, c marks -/
structure FdI (w W0 : World) (h : Nat) (vs : Array Value) (ns : List Value) (ts : List TT) (a b c : Nat) (nv fv mv : Value) (fs : List (List Value)) (W : World) : Prop where
  below : Below w.heap.size w W
  lo : W0.heap.size = w.heap.size + 3
  le : W0.heap.size ≤ W.heap.size
  box : W.heap[w.heap.size]? = some (.cells vs 25 (0, 0))
  res : W.heap[w.heap.size + 1]? = some (.cells #[.slice none 0 0, .slice none 0 0, .slice none 0 0, .bool false, .bool false, .bool false, .bool false, .slice none 0 0, .bool false, .slice none 0 0, .slice none 0 0, .slice none 0 0] 63 (0, 0))
  out : W.heap[w.heap.size + 2]? = some (.cells #[nv, fv, mv, .bool false, .bool false, .bool false, .bool false, .slice none 0 0, .bool false, .slice none 0 0, .slice none 0 0, .slice none 0 0] 63 (0, 0))
  nms : W.ownsRow W0.heap.size 9 1 nv a (ns.take a)
  fds : W.ownsRow W0.heap.size 32 9 fv b fs.flatten
  mst : W.ownsRow W0.heap.size 4 1 mv c (List.replicate c (.bool true))
  len : fs.length = b
  tys : ∀ j, (hj : j < fs.length) → (h2 : j < ts.length) → ∃ (c0 c1 c2 c3 c4 c5 c6 c7 c8 : Value) (lo hi : Nat), fs[j] = [c0, c1, c2, c3, c4, c5, c6, c7, c8] ∧ W0.heap.size ≤ lo ∧ FrI lo hi W (h + 2) ts[j] (.agg #[c0, c1, c2, c3, c4, c5, c6, c7, c8]) ∧ outI lo hi nv ∧ outI lo hi fv ∧ outI lo hi mv
theorem FdI.keep {w W0 W W' : World} {h : Nat} {vs : Array Value} {ns : List Value} {ts : List TT} {a b c : Nat} {nv fv mv : Value} {fs : List (List Value)} (x : FdI w W0 h vs ns ts a b c nv fv mv fs W) (hb : Below W.heap.size W W') : FdI w W0 h vs ns ts a b c nv fv mv fs W' := by
  have hl := x.lo
  have hle := x.le
  refine ⟨x.below.trans (hb.mono x.below.size), hl, Nat.le_trans hle hb.size, (hb.block _ (by omega)).trans x.box, (hb.block _ (by omega)).trans x.res, (hb.block _ (by omega)).trans x.out, own_keepF x.nms (fun g _ hg => hb.block g hg), own_keepF x.fds (fun g _ hg => hb.block g hg), own_keepF x.mst (fun g _ hg => hb.block g hg), x.len, fun j hj h2 => ?_⟩
  obtain ⟨c0, c1, c2, c3, c4, c5, c6, c7, c8, lo, hi, e1, e2, e3, e4⟩ := x.tys j hj h2
  exact ⟨c0, c1, c2, c3, c4, c5, c6, c7, c8, lo, hi, e1, e2, e3.move hb.size (fun b _ hbh => hb.block b (Nat.lt_of_lt_of_le hbh e3.1)), e4⟩
theorem FdI.up1 {w W0 W w4 : World} {h : Nat} {vs : Array Value} {ns : List Value} {ts : List TT} {a b c : Nat} {nv fv mv nv' : Value} {fs : List (List Value)} {o : Obj} {x : Value} (hx : ns[a]? = some x) (x0 : FdI w W0 h vs ns ts a b c nv fv mv fs W) (hg : (W.alloc o).grownBy w4 nv.ownBlock) (hown : w4.ownsRow W0.heap.size 9 1 nv' (a + 1) (ns.take a ++ [x])) (hat : nv'.ownBlock = nv.ownBlock ∨ nv'.ownBlock = some (W.alloc o).heap.size) :
    FdI w W0 h vs ns ts (a + 1) (b) (c) nv' fv mv fs (w4.setCell ⟨w.heap.size + 2, 0, none⟩ nv') ∧ w4.heap[w.heap.size + 2]? = some (.cells #[nv, fv, mv, .bool false, .bool false, .bool false, .bool false, .slice none 0 0, .bool false, .slice none 0 0, .slice none 0 0, .slice none 0 0] 63 (0, 0)) := by
  have hl := x0.lo
  have hle := x0.le
  have hbz := x0.below.size
  have nk : ∀ b, b < W0.heap.size → some b ≠ nv.ownBlock := fun b hb e => by
    obtain ⟨_, _, h2⟩ := own_cellsF x0.nms e.symm; omega
  have old : ∀ b, b < W.heap.size → some b ≠ nv.ownBlock → w4.heap[b]? = W.heap[b]? := fun b hb hne => (hg.block b (by simp; omega) hne).trans (Below.heap_alloc _ _ b hb)
  have o4 := (old (w.heap.size + 2) (by omega) (nk _ (by omega))).trans x0.out
  have oth : ∀ b, b ≠ w.heap.size + 2 → (w4.setCell ⟨w.heap.size + 2, 0, none⟩ nv').heap[b]? = w4.heap[b]? := fun b hb => Below.heap_setCell _ _ _ _ hb
  have hsz : W.heap.size ≤ w4.heap.size := by have := hg.size; simp at this; omega
  have hsA : (W.alloc o).heap.size = W.heap.size + 1 := by simp
  have oi : ∀ lo hi, hi ≤ W.heap.size → outI lo hi nv → outI lo hi nv' := fun lo hi hh h1 g hgv => by
    rcases hat with e | e
    · exact h1 g (e.symm.trans hgv)
    · rw [e] at hgv; simp only [Option.some.injEq] at hgv; right; omega
  have tk : ∀ lo hi T v, W0.heap.size ≤ lo → FrI lo hi W (h + 2) T v → outI lo hi nv → FrI lo hi (w4.setCell ⟨w.heap.size + 2, 0, none⟩ nv') (h + 2) T v := fun lo hi T v h1 f h2 => f.move (by simp; omega) (fun b g1 g2 => by
    rw [oth b (by omega)]
    exact old b (Nat.lt_of_lt_of_le g2 f.1) (fun e => by rcases h2 b e.symm with h | h <;> omega))
  refine ⟨⟨?_, hl, by simp; omega, ?_, ?_, ?_, ?_, ?_, ?_, ?_, fun j hj h2 => ?_⟩, o4⟩
  · exact ((x0.below.alloc hbz o).grown hg (by simp; omega) (fun r e => by obtain ⟨_, _, h2⟩ := own_cellsF x0.nms e; omega)).setCell (p := ⟨w.heap.size + 2, 0, none⟩) (by show _ ≤ w.heap.size + 2; omega) _
  · rw [oth _ (by omega), old _ (by omega) (nk _ (by omega))]; exact x0.box
  · rw [oth _ (by omega), old _ (by omega) (nk _ (by omega))]; exact x0.res
  · exact rset9 (i := 0) (c := #[nv, fv, mv, .bool false, .bool false, .bool false, .bool false, .slice none 0 0, .bool false, .slice none 0 0, .slice none 0 0, .slice none 0 0]) _ o4
  · have e : ns.take a ++ [x] = ns.take (a + 1) := by rw [List.take_add_one, hx]; rfl
    rw [← e]
    exact own_keepF hown fun g e _ => oth g (by obtain ⟨_, _, h2⟩ := own_cellsF hown e; omega)
  · refine own_keepF x0.fds fun g e hgl => ?_
    obtain ⟨cur, h1, h2⟩ := own_cellsF x0.fds e
    rw [oth g (by omega), old g hgl (fun e2 => by
      obtain ⟨cur2, h3, _⟩ := own_cellsF x0.nms e2.symm
      rw [h1] at h3; simp at h3)]
  · refine own_keepF x0.mst fun g e hgl => ?_
    obtain ⟨cur, h1, h2⟩ := own_cellsF x0.mst e
    rw [oth g (by omega), old g hgl (fun e2 => by
      obtain ⟨cur2, h3, _⟩ := own_cellsF x0.nms e2.symm
      rw [h1] at h3; simp at h3)]
  · exact x0.len
  · obtain ⟨c0, c1, c2, c3, c4, c5, c6, c7, c8, lo, hi, e1, e2, e3, p1, p2, p3⟩ := x0.tys j hj h2
    exact ⟨c0, c1, c2, c3, c4, c5, c6, c7, c8, lo, hi, e1, e2, tk _ _ _ _ e2 e3 p1, oi _ _ e3.1 p1, p2, p3⟩
theorem FdI.up2 {w W0 W w4 : World} {h : Nat} {vs : Array Value} {ns : List Value} {ts : List TT} {a b c : Nat} {nv fv mv fv' : Value} {fs : List (List Value)} {o : Obj} {c0 c1 c2 c3 c4 c5 c6 c7 c8 : Value} {lo hi : Nat} {T : TT} (hT : ts[b]? = some T) (hlo : W0.heap.size ≤ lo) (hI : FrI lo hi W (h + 2) T (.agg #[c0, c1, c2, c3, c4, c5, c6, c7, c8])) (o1 : outI lo hi nv) (o2 : outI lo hi fv) (o3 : outI lo hi mv) (x0 : FdI w W0 h vs ns ts a b c nv fv mv fs W) (hg : (W.alloc o).grownBy w4 fv.ownBlock) (hown : w4.ownsRow W0.heap.size 32 9 fv' (b + 1) (fs.flatten ++ [c0, c1, c2, c3, c4, c5, c6, c7, c8])) (hat : fv'.ownBlock = fv.ownBlock ∨ fv'.ownBlock = some (W.alloc o).heap.size) :
    FdI w W0 h vs ns ts (a) (b + 1) (c) nv fv' mv (fs ++ [[c0, c1, c2, c3, c4, c5, c6, c7, c8]]) (w4.setCell ⟨w.heap.size + 2, 1, none⟩ fv') ∧ w4.heap[w.heap.size + 2]? = some (.cells #[nv, fv, mv, .bool false, .bool false, .bool false, .bool false, .slice none 0 0, .bool false, .slice none 0 0, .slice none 0 0, .slice none 0 0] 63 (0, 0)) := by
  have hl := x0.lo
  have hle := x0.le
  have hbz := x0.below.size
  have nk : ∀ b, b < W0.heap.size → some b ≠ fv.ownBlock := fun b hb e => by
    obtain ⟨_, _, h2⟩ := own_cellsF x0.fds e.symm; omega
  have old : ∀ b, b < W.heap.size → some b ≠ fv.ownBlock → w4.heap[b]? = W.heap[b]? := fun b hb hne => (hg.block b (by simp; omega) hne).trans (Below.heap_alloc _ _ b hb)
  have o4 := (old (w.heap.size + 2) (by omega) (nk _ (by omega))).trans x0.out
  have oth : ∀ b, b ≠ w.heap.size + 2 → (w4.setCell ⟨w.heap.size + 2, 1, none⟩ fv').heap[b]? = w4.heap[b]? := fun b hb => Below.heap_setCell _ _ _ _ hb
  have hsz : W.heap.size ≤ w4.heap.size := by have := hg.size; simp at this; omega
  have hsA : (W.alloc o).heap.size = W.heap.size + 1 := by simp
  have oi : ∀ lo hi, hi ≤ W.heap.size → outI lo hi fv → outI lo hi fv' := fun lo hi hh h1 g hgv => by
    rcases hat with e | e
    · exact h1 g (e.symm.trans hgv)
    · rw [e] at hgv; simp only [Option.some.injEq] at hgv; right; omega
  have tk : ∀ lo hi T v, W0.heap.size ≤ lo → FrI lo hi W (h + 2) T v → outI lo hi fv → FrI lo hi (w4.setCell ⟨w.heap.size + 2, 1, none⟩ fv') (h + 2) T v := fun lo hi T v h1 f h2 => f.move (by simp; omega) (fun b g1 g2 => by
    rw [oth b (by omega)]
    exact old b (Nat.lt_of_lt_of_le g2 f.1) (fun e => by rcases h2 b e.symm with h | h <;> omega))
  refine ⟨⟨?_, hl, by simp; omega, ?_, ?_, ?_, ?_, ?_, ?_, ?_, fun j hj h2 => ?_⟩, o4⟩
  · exact ((x0.below.alloc hbz o).grown hg (by simp; omega) (fun r e => by obtain ⟨_, _, h2⟩ := own_cellsF x0.fds e; omega)).setCell (p := ⟨w.heap.size + 2, 1, none⟩) (by show _ ≤ w.heap.size + 2; omega) _
  · rw [oth _ (by omega), old _ (by omega) (nk _ (by omega))]; exact x0.box
  · rw [oth _ (by omega), old _ (by omega) (nk _ (by omega))]; exact x0.res
  · exact rset9 (i := 1) (c := #[nv, fv, mv, .bool false, .bool false, .bool false, .bool false, .slice none 0 0, .bool false, .slice none 0 0, .slice none 0 0, .slice none 0 0]) _ o4
  · refine own_keepF x0.nms fun g e hgl => ?_
    obtain ⟨cur, h1, h2⟩ := own_cellsF x0.nms e
    rw [oth g (by omega), old g hgl (fun e2 => by
      obtain ⟨cur2, h3, _⟩ := own_cellsF x0.fds e2.symm
      rw [h1] at h3; simp at h3)]
  · have e : fs.flatten ++ [c0, c1, c2, c3, c4, c5, c6, c7, c8] = (fs ++ [[c0, c1, c2, c3, c4, c5, c6, c7, c8]]).flatten := by simp
    rw [← e]
    exact own_keepF hown fun g e _ => oth g (by obtain ⟨_, _, h2⟩ := own_cellsF hown e; omega)
  · refine own_keepF x0.mst fun g e hgl => ?_
    obtain ⟨cur, h1, h2⟩ := own_cellsF x0.mst e
    rw [oth g (by omega), old g hgl (fun e2 => by
      obtain ⟨cur2, h3, _⟩ := own_cellsF x0.fds e2.symm
      rw [h1] at h3; simp at h3)]
  · rw [List.length_append, x0.len]; rfl
  · by_cases hjk : j < fs.length
    · obtain ⟨d0, d1, d2, d3, d4, d5, d6, d7, d8, lo', hi', e1, e2, e3, p1, p2, p3⟩ := x0.tys j hjk h2
      exact ⟨d0, d1, d2, d3, d4, d5, d6, d7, d8, lo', hi', by rw [List.getElem_append_left hjk]; exact e1, e2, tk _ _ _ _ e2 e3 p2, p1, oi _ _ e3.1 p2, p3⟩
    · have hjb : j = fs.length := by rw [List.length_append] at hj; simp at hj; omega
      subst hjb
      have eT : ts[fs.length] = T := by have := hT; rw [← x0.len, List.getElem?_eq_getElem h2] at this; exact Option.some.inj this
      exact ⟨c0, c1, c2, c3, c4, c5, c6, c7, c8, lo, hi, by simp, hlo, by rw [eT]; exact tk _ _ _ _ hlo hI o2, o1, oi _ _ hI.1 o2, o3⟩
theorem FdI.up3 {w W0 W w4 : World} {h : Nat} {vs : Array Value} {ns : List Value} {ts : List TT} {a b c : Nat} {nv fv mv mv' : Value} {fs : List (List Value)} {o : Obj} (x0 : FdI w W0 h vs ns ts a b c nv fv mv fs W) (hg : (W.alloc o).grownBy w4 mv.ownBlock) (hown : w4.ownsRow W0.heap.size 4 1 mv' (c + 1) (List.replicate c (.bool true) ++ [.bool true])) (hat : mv'.ownBlock = mv.ownBlock ∨ mv'.ownBlock = some (W.alloc o).heap.size) :
    FdI w W0 h vs ns ts (a) (b) (c + 1) nv fv mv' fs (w4.setCell ⟨w.heap.size + 2, 2, none⟩ mv') ∧ w4.heap[w.heap.size + 2]? = some (.cells #[nv, fv, mv, .bool false, .bool false, .bool false, .bool false, .slice none 0 0, .bool false, .slice none 0 0, .slice none 0 0, .slice none 0 0] 63 (0, 0)) := by
  have hl := x0.lo
  have hle := x0.le
  have hbz := x0.below.size
  have nk : ∀ b, b < W0.heap.size → some b ≠ mv.ownBlock := fun b hb e => by
    obtain ⟨_, _, h2⟩ := own_cellsF x0.mst e.symm; omega
  have old : ∀ b, b < W.heap.size → some b ≠ mv.ownBlock → w4.heap[b]? = W.heap[b]? := fun b hb hne => (hg.block b (by simp; omega) hne).trans (Below.heap_alloc _ _ b hb)
  have o4 := (old (w.heap.size + 2) (by omega) (nk _ (by omega))).trans x0.out
  have oth : ∀ b, b ≠ w.heap.size + 2 → (w4.setCell ⟨w.heap.size + 2, 2, none⟩ mv').heap[b]? = w4.heap[b]? := fun b hb => Below.heap_setCell _ _ _ _ hb
  have hsz : W.heap.size ≤ w4.heap.size := by have := hg.size; simp at this; omega
  have hsA : (W.alloc o).heap.size = W.heap.size + 1 := by simp
  have oi : ∀ lo hi, hi ≤ W.heap.size → outI lo hi mv → outI lo hi mv' := fun lo hi hh h1 g hgv => by
    rcases hat with e | e
    · exact h1 g (e.symm.trans hgv)
    · rw [e] at hgv; simp only [Option.some.injEq] at hgv; right; omega
  have tk : ∀ lo hi T v, W0.heap.size ≤ lo → FrI lo hi W (h + 2) T v → outI lo hi mv → FrI lo hi (w4.setCell ⟨w.heap.size + 2, 2, none⟩ mv') (h + 2) T v := fun lo hi T v h1 f h2 => f.move (by simp; omega) (fun b g1 g2 => by
    rw [oth b (by omega)]
    exact old b (Nat.lt_of_lt_of_le g2 f.1) (fun e => by rcases h2 b e.symm with h | h <;> omega))
  refine ⟨⟨?_, hl, by simp; omega, ?_, ?_, ?_, ?_, ?_, ?_, ?_, fun j hj h2 => ?_⟩, o4⟩
  · exact ((x0.below.alloc hbz o).grown hg (by simp; omega) (fun r e => by obtain ⟨_, _, h2⟩ := own_cellsF x0.mst e; omega)).setCell (p := ⟨w.heap.size + 2, 2, none⟩) (by show _ ≤ w.heap.size + 2; omega) _
  · rw [oth _ (by omega), old _ (by omega) (nk _ (by omega))]; exact x0.box
  · rw [oth _ (by omega), old _ (by omega) (nk _ (by omega))]; exact x0.res
  · exact rset9 (i := 2) (c := #[nv, fv, mv, .bool false, .bool false, .bool false, .bool false, .slice none 0 0, .bool false, .slice none 0 0, .slice none 0 0, .slice none 0 0]) _ o4
  · refine own_keepF x0.nms fun g e hgl => ?_
    obtain ⟨cur, h1, h2⟩ := own_cellsF x0.nms e
    rw [oth g (by omega), old g hgl (fun e2 => by
      obtain ⟨cur2, h3, _⟩ := own_cellsF x0.mst e2.symm
      rw [h1] at h3; simp at h3)]
  · refine own_keepF x0.fds fun g e hgl => ?_
    obtain ⟨cur, h1, h2⟩ := own_cellsF x0.fds e
    rw [oth g (by omega), old g hgl (fun e2 => by
      obtain ⟨cur2, h3, _⟩ := own_cellsF x0.mst e2.symm
      rw [h1] at h3; simp at h3)]
  · rw [List.replicate_succ']
    exact own_keepF hown fun g e _ => oth g (by obtain ⟨_, _, h2⟩ := own_cellsF hown e; omega)
  · exact x0.len
  · obtain ⟨c0, c1, c2, c3, c4, c5, c6, c7, c8, lo, hi, e1, e2, e3, p1, p2, p3⟩ := x0.tys j hj h2
    exact ⟨c0, c1, c2, c3, c4, c5, c6, c7, c8, lo, hi, e1, e2, tk _ _ _ _ e2 e3 p3, p1, p2, oi _ _ e3.1 p3⟩
end Go.Proofs.YtdjoelhiahpmlaaGreat
namespace Go.Proofs.YtdjoelhiahpmlaaGreat
open Go.RowKit Go.Shelf Go.Sort Go.Maps Go.WideMaps
set_option linter.unusedVariables false
set_option linter.unusedSimpArgs false

theorem flat9 : ∀ (fs : List (List Value)), (∀ f ∈ fs, f.length = 9) → ∀ (j r : Nat) (hj : j < fs.length) (hr : r < 9), fs.flatten[j * 9 + r]? = fs[j][r]?
  | [], _, j, r, hj, _ => absurd hj (Nat.not_lt_zero _)
  | f :: fs, h, 0, r, hj, hr => by
    have h9 := h f (List.mem_cons_self ..)
    rw [List.flatten_cons, List.getElem?_append_left (by omega)]
    simp
  | f :: fs, h, j + 1, r, hj, hr => by
    have h9 := h f (List.mem_cons_self ..)
    have hj' : j < fs.length := by simpa using hj
    rw [List.flatten_cons, List.getElem?_append_right (by omega), show (j + 1) * 9 + r - f.length = j * 9 + r from by omega, flat9 fs (fun g hg => h g (List.mem_cons_of_mem _ hg)) j r hj' hr]
    simp
/-- the cells of a row that is owned -/
theorem own_row {W : World} {B : Nat} {e : TypeId} {size : Nat} {so : Option Addr} {n cap : Nat} {xs : List Value} (h : W.ownsRow B e size (.slice so n cap) n xs) : n ≤ cap ∧ (0 < n → ∃ g cur, so = some ⟨g, 0, none⟩ ∧ B ≤ g ∧ W.heap[g]? = some (.cells cur e (0, 0)) ∧ ∀ j u, j < n * size → xs[j]? = some u → cur[j]? = some u) := by
  rcases h.2 with ⟨e1, e2⟩ | ⟨g, cap', cur, e1, e2, e3, e4, e5, e6, e7⟩
  · cases e1
    exact ⟨Nat.le_refl _, fun h0 => absurd h0 (Nat.lt_irrefl 0)⟩
  · cases e1
    refine ⟨e4, fun _ => ⟨g, cur, rfl, e2, e3, fun j u hj hu => ?_⟩⟩
    rw [← e7, List.getElem?_take_of_lt hj] at hu
    rw [← Array.getElem?_toList]
    exact hu
theorem cell_at {W : World} {b j : Nat} {cur : Array Value} {t : TypeId} {u : Value} (h : W.heap[b]? = some (.cells cur t (0, 0))) (hu : cur[j]? = some u) : W.cell? ⟨b, j, none⟩ = some u := (cell_of_row W b j cur t (0, 0) h).trans hu

/-- behind the last round: the object's type is whole -/
theorem fd_end {w W0 W : World} {h N : Nat} {vs : Array Value} {ks : List ByteArray} {ts : List TT} {no : Option Addr} {nc : Nat} {fo : Option Addr} {fc : Nat} {mo : Option Addr} {mc : Nat} {fs : List (List Value)} (F : FdI w W0 h vs (ks.map .string) ts N N N (.slice no N nc) (.slice fo N fc) (.slice mo N mc) fs W) (hk : ks.length = N) (ht : ts.length = N) (hN : N ≤ 140737488355328) (hs : ∀ k ∈ ks, k.size ≤ 140737488355328) :
    FrO W0.heap.size W (h + 2) (.mk ks ts (ks.map fun _ => true) ttNe) (.agg #[.slice no N nc, .slice fo N fc, .slice mo N mc, .bool false, .bool false, .bool false, .bool false, .slice none 0 0, .bool false, .slice none 0 0, .slice none 0 0, .slice none 0 0]) := by
  obtain ⟨cn, rn⟩ := own_row F.nms
  obtain ⟨cf, rf⟩ := own_row F.fds
  obtain ⟨cm, rm⟩ := own_row F.mst
  have hm : (ks.map fun _ => true).length = N := by rw [List.length_map, hk]
  refine ⟨no, nc, fo, fc, mo, mc, _, _, _, _, _, _, _, _, _, ?_, fun x hxs hx => ⟨⟨?_, ?_, ?_⟩, ⟨?_, ?_, ?_, hs⟩, ⟨fun h0 => ?_⟩, ⟨fun h0 => ?_⟩, fun h0 => ?_, inT_nev x (h + 1)⟩⟩
  · show Value.agg _ = Value.agg #[.slice no ks.length nc, .slice fo ts.length fc, .slice mo (ks.map fun _ => true).length mc, _, _, _, _, _, _, _, _, _]
    rw [hk, ht, hm]
  · show ks.length ≤ nc; omega
  · show ts.length ≤ fc; omega
  · show (ks.map fun _ => true).length ≤ mc; omega
  · show ks.length ≤ _; omega
  · show ts.length ≤ _; omega
  · show (ks.map fun _ => true).length ≤ _; omega
  · have h0' : 0 < ks.length := h0
    obtain ⟨g, cur, e1, e2, e3, e4⟩ := rn (by omega)
    have hl := lt_of_row e3
    have hr := (hx g e2 hl).trans e3
    refine ⟨g, 0, e1, by omega, fun i hi => ?_⟩
    have hi' : i < ks.length := hi
    rw [Nat.zero_add]
    refine cell_at hr (e4 i _ (by omega) ?_)
    rw [List.take_of_length_le (by rw [List.length_map]; omega), List.getElem?_map, List.getElem?_eq_getElem hi', List.getD_eq_getElem?_getD, List.getElem?_eq_getElem (l := (OB.mk ks ts (ks.map fun _ => true) ttNe).names) hi]
    rfl
  · have h0' : 0 < (ks.map fun _ => true).length := h0
    obtain ⟨g, cur, e1, e2, e3, e4⟩ := rm (by omega)
    have hl := lt_of_row e3
    have hr := (hx g e2 hl).trans e3
    refine ⟨g, 0, e1, by omega, fun i hi => ?_⟩
    have hi' : i < (ks.map fun _ => true).length := hi
    rw [Nat.zero_add]
    refine cell_at hr (e4 i _ (by omega) ?_)
    have e5 : (OB.mk ks ts (ks.map fun _ => true) ttNe).must[i]'hi = true := by
      show (ks.map fun _ => true)[i] = true
      simp
    rw [e5, List.getElem?_replicate, if_pos (by omega)]
  · have h0' : 0 < ts.length := h0
    obtain ⟨g, cur, e1, e2, e3, e4⟩ := rf (by omega)
    have hl := lt_of_row e3
    have hr := (hx g e2 hl).trans e3
    have h9 : ∀ f ∈ fs, f.length = 9 := fun f hf => by
      obtain ⟨j, hj, rfl⟩ := List.getElem_of_mem hf
      obtain ⟨c0, c1, c2, c3, c4, c5, c6, c7, c8, lo, hi, q1, _⟩ := F.tys j hj (by have := F.len; omega)
      rw [q1]; rfl
    refine ⟨g, 0, e1, by omega, fun j hj => ?_⟩
    have hj2 : j < ts.length := hj
    have hjf : j < fs.length := by have := F.len; omega
    obtain ⟨c0, c1, c2, c3, c4, c5, c6, c7, c8, lo, hi, q1, q2, q3, _⟩ := F.tys j hjf hj2
    have hc : ∀ r u, (hr9 : r < 9) → [c0, c1, c2, c3, c4, c5, c6, c7, c8][r]? = some u → x.cell? ⟨g, 0 + j * 9 + r, none⟩ = some u := fun r u hr9 hu => by
      rw [Nat.zero_add]
      refine cell_at hr (e4 _ _ (by omega) ?_)
      rw [flat9 fs h9 j r hjf hr9, q1]
      exact hu
    refine ⟨c0, c1, c2, c3, c4, c5, c6, c7, c8, ⟨hc 0 _ (by omega) rfl, hc 1 _ (by omega) rfl, hc 2 _ (by omega) rfl, hc 3 _ (by omega) rfl, hc 4 _ (by omega) rfl, hc 5 _ (by omega) rfl, hc 6 _ (by omega) rfl, hc 7 _ (by omega) rfl, hc 8 _ (by omega) rfl⟩, ?_⟩
    exact q3.2 x (Nat.le_trans q3.1 hxs) (fun b g1 g2 => hx b (Nat.le_trans q2 g1) (Nat.lt_of_lt_of_le g2 q3.1))
end Go.Proofs.YtdjoelhiahpmlaaGreat
namespace Go.Proofs.YtdjoelhiahpmlaaGreat
open Go.RowKit Go.Shelf Go.Sort Go.Maps Go.WideMaps
set_option linter.unusedVariables false
set_option linter.unusedSimpArgs false
attribute [local go_sem] Oper.semAt_some

/-- what the reference holds: a names, b types, c marks -/
structure FdR (w W0 : World) (h : Nat) (vs : Array Value) (ns : List Value) (ts : List TT) (a b c : Nat) (nv fv mv : Value) (fs : List (List Value)) (W : World) : Prop where
  below : Below w.heap.size w W
  lo : W0.heap.size = w.heap.size + 3
  le : W0.heap.size ≤ W.heap.size
  box : W.heap[w.heap.size]? = some (.cells vs 25 (0, 0))
  res : W.heap[w.heap.size + 1]? = some (.cells #[.bool false, .bool false, .bool false, .bool false, .slice none 0 0, .bool false, .slice none 0 0, .slice none 0 0, .slice none 0 0] 32 (0, 0))
  out : W.heap[w.heap.size + 2]? = some (.cells #[nv, fv, mv, .bool false, .bool false, .bool false, .bool false, .slice none 0 0, .bool false, .slice none 0 0, .slice none 0 0, .slice none 0 0] 63 (0, 0))
  nms : W.ownsRow W0.heap.size 9 1 nv a (ns.take a)
  fds : W.ownsRow W0.heap.size 32 9 fv b fs.flatten
  mst : W.ownsRow W0.heap.size 4 1 mv c (List.replicate c (.bool true))
  len : fs.length = b
  tys : ∀ j, (hj : j < fs.length) → (h2 : j < ts.length) → ∃ (c0 c1 c2 c3 c4 c5 c6 c7 c8 : Value) (lo hi : Nat), fs[j] = [c0, c1, c2, c3, c4, c5, c6, c7, c8] ∧ W0.heap.size ≤ lo ∧ FrI lo hi W (h + 2) ts[j] (.agg #[c0, c1, c2, c3, c4, c5, c6, c7, c8]) ∧ outI lo hi nv ∧ outI lo hi fv ∧ outI lo hi mv
theorem FdR.keep {w W0 W W' : World} {h : Nat} {vs : Array Value} {ns : List Value} {ts : List TT} {a b c : Nat} {nv fv mv : Value} {fs : List (List Value)} (x : FdR w W0 h vs ns ts a b c nv fv mv fs W) (hb : Below W.heap.size W W') : FdR w W0 h vs ns ts a b c nv fv mv fs W' := by
  have hl := x.lo
  have hle := x.le
  refine ⟨x.below.trans (hb.mono x.below.size), hl, Nat.le_trans hle hb.size, (hb.block _ (by omega)).trans x.box, (hb.block _ (by omega)).trans x.res, (hb.block _ (by omega)).trans x.out, own_keepF x.nms (fun g _ hg => hb.block g hg), own_keepF x.fds (fun g _ hg => hb.block g hg), own_keepF x.mst (fun g _ hg => hb.block g hg), x.len, fun j hj h2 => ?_⟩
  obtain ⟨c0, c1, c2, c3, c4, c5, c6, c7, c8, lo, hi, e1, e2, e3, e4⟩ := x.tys j hj h2
  exact ⟨c0, c1, c2, c3, c4, c5, c6, c7, c8, lo, hi, e1, e2, e3.move hb.size (fun b _ hbh => hb.block b (Nat.lt_of_lt_of_le hbh e3.1)), e4⟩
theorem FdR.up1 {w W0 W w4 : World} {h : Nat} {vs : Array Value} {ns : List Value} {ts : List TT} {a b c : Nat} {nv fv mv nv' : Value} {fs : List (List Value)} {o : Obj} {x : Value} (hx : ns[a]? = some x) (x0 : FdR w W0 h vs ns ts a b c nv fv mv fs W) (hg : (W.alloc o).grownBy w4 nv.ownBlock) (hown : w4.ownsRow W0.heap.size 9 1 nv' (a + 1) (ns.take a ++ [x])) (hat : nv'.ownBlock = nv.ownBlock ∨ nv'.ownBlock = some (W.alloc o).heap.size) :
    FdR w W0 h vs ns ts (a + 1) (b) (c) nv' fv mv fs (w4.setCell ⟨w.heap.size + 2, 0, none⟩ nv') ∧ w4.heap[w.heap.size + 2]? = some (.cells #[nv, fv, mv, .bool false, .bool false, .bool false, .bool false, .slice none 0 0, .bool false, .slice none 0 0, .slice none 0 0, .slice none 0 0] 63 (0, 0)) := by
  have hl := x0.lo
  have hle := x0.le
  have hbz := x0.below.size
  have nk : ∀ b, b < W0.heap.size → some b ≠ nv.ownBlock := fun b hb e => by
    obtain ⟨_, _, h2⟩ := own_cellsF x0.nms e.symm; omega
  have old : ∀ b, b < W.heap.size → some b ≠ nv.ownBlock → w4.heap[b]? = W.heap[b]? := fun b hb hne => (hg.block b (by simp; omega) hne).trans (Below.heap_alloc _ _ b hb)
  have o4 := (old (w.heap.size + 2) (by omega) (nk _ (by omega))).trans x0.out
  have oth : ∀ b, b ≠ w.heap.size + 2 → (w4.setCell ⟨w.heap.size + 2, 0, none⟩ nv').heap[b]? = w4.heap[b]? := fun b hb => Below.heap_setCell _ _ _ _ hb
  have hsz : W.heap.size ≤ w4.heap.size := by have := hg.size; simp at this; omega
  have hsA : (W.alloc o).heap.size = W.heap.size + 1 := by simp
  have oi : ∀ lo hi, hi ≤ W.heap.size → outI lo hi nv → outI lo hi nv' := fun lo hi hh h1 g hgv => by
    rcases hat with e | e
    · exact h1 g (e.symm.trans hgv)
    · rw [e] at hgv; simp only [Option.some.injEq] at hgv; right; omega
  have tk : ∀ lo hi T v, W0.heap.size ≤ lo → FrI lo hi W (h + 2) T v → outI lo hi nv → FrI lo hi (w4.setCell ⟨w.heap.size + 2, 0, none⟩ nv') (h + 2) T v := fun lo hi T v h1 f h2 => f.move (by simp; omega) (fun b g1 g2 => by
    rw [oth b (by omega)]
    exact old b (Nat.lt_of_lt_of_le g2 f.1) (fun e => by rcases h2 b e.symm with h | h <;> omega))
  refine ⟨⟨?_, hl, by simp; omega, ?_, ?_, ?_, ?_, ?_, ?_, ?_, fun j hj h2 => ?_⟩, o4⟩
  · exact ((x0.below.alloc hbz o).grown hg (by simp; omega) (fun r e => by obtain ⟨_, _, h2⟩ := own_cellsF x0.nms e; omega)).setCell (p := ⟨w.heap.size + 2, 0, none⟩) (by show _ ≤ w.heap.size + 2; omega) _
  · rw [oth _ (by omega), old _ (by omega) (nk _ (by omega))]; exact x0.box
  · rw [oth _ (by omega), old _ (by omega) (nk _ (by omega))]; exact x0.res
  · exact rset9 (i := 0) (c := #[nv, fv, mv, .bool false, .bool false, .bool false, .bool false, .slice none 0 0, .bool false, .slice none 0 0, .slice none 0 0, .slice none 0 0]) _ o4
  · have e : ns.take a ++ [x] = ns.take (a + 1) := by rw [List.take_add_one, hx]; rfl
    rw [← e]
    exact own_keepF hown fun g e _ => oth g (by obtain ⟨_, _, h2⟩ := own_cellsF hown e; omega)
  · refine own_keepF x0.fds fun g e hgl => ?_
    obtain ⟨cur, h1, h2⟩ := own_cellsF x0.fds e
    rw [oth g (by omega), old g hgl (fun e2 => by
      obtain ⟨cur2, h3, _⟩ := own_cellsF x0.nms e2.symm
      rw [h1] at h3; simp at h3)]
  · refine own_keepF x0.mst fun g e hgl => ?_
    obtain ⟨cur, h1, h2⟩ := own_cellsF x0.mst e
    rw [oth g (by omega), old g hgl (fun e2 => by
      obtain ⟨cur2, h3, _⟩ := own_cellsF x0.nms e2.symm
      rw [h1] at h3; simp at h3)]
  · exact x0.len
  · obtain ⟨c0, c1, c2, c3, c4, c5, c6, c7, c8, lo, hi, e1, e2, e3, p1, p2, p3⟩ := x0.tys j hj h2
    exact ⟨c0, c1, c2, c3, c4, c5, c6, c7, c8, lo, hi, e1, e2, tk _ _ _ _ e2 e3 p1, oi _ _ e3.1 p1, p2, p3⟩
theorem FdR.up2 {w W0 W w4 : World} {h : Nat} {vs : Array Value} {ns : List Value} {ts : List TT} {a b c : Nat} {nv fv mv fv' : Value} {fs : List (List Value)} {o : Obj} {c0 c1 c2 c3 c4 c5 c6 c7 c8 : Value} {lo hi : Nat} {T : TT} (hT : ts[b]? = some T) (hlo : W0.heap.size ≤ lo) (hI : FrI lo hi W (h + 2) T (.agg #[c0, c1, c2, c3, c4, c5, c6, c7, c8])) (o1 : outI lo hi nv) (o2 : outI lo hi fv) (o3 : outI lo hi mv) (x0 : FdR w W0 h vs ns ts a b c nv fv mv fs W) (hg : (W.alloc o).grownBy w4 fv.ownBlock) (hown : w4.ownsRow W0.heap.size 32 9 fv' (b + 1) (fs.flatten ++ [c0, c1, c2, c3, c4, c5, c6, c7, c8])) (hat : fv'.ownBlock = fv.ownBlock ∨ fv'.ownBlock = some (W.alloc o).heap.size) :
    FdR w W0 h vs ns ts (a) (b + 1) (c) nv fv' mv (fs ++ [[c0, c1, c2, c3, c4, c5, c6, c7, c8]]) (w4.setCell ⟨w.heap.size + 2, 1, none⟩ fv') ∧ w4.heap[w.heap.size + 2]? = some (.cells #[nv, fv, mv, .bool false, .bool false, .bool false, .bool false, .slice none 0 0, .bool false, .slice none 0 0, .slice none 0 0, .slice none 0 0] 63 (0, 0)) := by
  have hl := x0.lo
  have hle := x0.le
  have hbz := x0.below.size
  have nk : ∀ b, b < W0.heap.size → some b ≠ fv.ownBlock := fun b hb e => by
    obtain ⟨_, _, h2⟩ := own_cellsF x0.fds e.symm; omega
  have old : ∀ b, b < W.heap.size → some b ≠ fv.ownBlock → w4.heap[b]? = W.heap[b]? := fun b hb hne => (hg.block b (by simp; omega) hne).trans (Below.heap_alloc _ _ b hb)
  have o4 := (old (w.heap.size + 2) (by omega) (nk _ (by omega))).trans x0.out
  have oth : ∀ b, b ≠ w.heap.size + 2 → (w4.setCell ⟨w.heap.size + 2, 1, none⟩ fv').heap[b]? = w4.heap[b]? := fun b hb => Below.heap_setCell _ _ _ _ hb
  have hsz : W.heap.size ≤ w4.heap.size := by have := hg.size; simp at this; omega
  have hsA : (W.alloc o).heap.size = W.heap.size + 1 := by simp
  have oi : ∀ lo hi, hi ≤ W.heap.size → outI lo hi fv → outI lo hi fv' := fun lo hi hh h1 g hgv => by
    rcases hat with e | e
    · exact h1 g (e.symm.trans hgv)
    · rw [e] at hgv; simp only [Option.some.injEq] at hgv; right; omega
  have tk : ∀ lo hi T v, W0.heap.size ≤ lo → FrI lo hi W (h + 2) T v → outI lo hi fv → FrI lo hi (w4.setCell ⟨w.heap.size + 2, 1, none⟩ fv') (h + 2) T v := fun lo hi T v h1 f h2 => f.move (by simp; omega) (fun b g1 g2 => by
    rw [oth b (by omega)]
    exact old b (Nat.lt_of_lt_of_le g2 f.1) (fun e => by rcases h2 b e.symm with h | h <;> omega))
  refine ⟨⟨?_, hl, by simp; omega, ?_, ?_, ?_, ?_, ?_, ?_, ?_, fun j hj h2 => ?_⟩, o4⟩
  · exact ((x0.below.alloc hbz o).grown hg (by simp; omega) (fun r e => by obtain ⟨_, _, h2⟩ := own_cellsF x0.fds e; omega)).setCell (p := ⟨w.heap.size + 2, 1, none⟩) (by show _ ≤ w.heap.size + 2; omega) _
  · rw [oth _ (by omega), old _ (by omega) (nk _ (by omega))]; exact x0.box
  · rw [oth _ (by omega), old _ (by omega) (nk _ (by omega))]; exact x0.res
  · exact rset9 (i := 1) (c := #[nv, fv, mv, .bool false, .bool false, .bool false, .bool false, .slice none 0 0, .bool false, .slice none 0 0, .slice none 0 0, .slice none 0 0]) _ o4
  · refine own_keepF x0.nms fun g e hgl => ?_
    obtain ⟨cur, h1, h2⟩ := own_cellsF x0.nms e
    rw [oth g (by omega), old g hgl (fun e2 => by
      obtain ⟨cur2, h3, _⟩ := own_cellsF x0.fds e2.symm
      rw [h1] at h3; simp at h3)]
  · have e : fs.flatten ++ [c0, c1, c2, c3, c4, c5, c6, c7, c8] = (fs ++ [[c0, c1, c2, c3, c4, c5, c6, c7, c8]]).flatten := by simp
    rw [← e]
    exact own_keepF hown fun g e _ => oth g (by obtain ⟨_, _, h2⟩ := own_cellsF hown e; omega)
  · refine own_keepF x0.mst fun g e hgl => ?_
    obtain ⟨cur, h1, h2⟩ := own_cellsF x0.mst e
    rw [oth g (by omega), old g hgl (fun e2 => by
      obtain ⟨cur2, h3, _⟩ := own_cellsF x0.fds e2.symm
      rw [h1] at h3; simp at h3)]
  · rw [List.length_append, x0.len]; rfl
  · by_cases hjk : j < fs.length
    · obtain ⟨d0, d1, d2, d3, d4, d5, d6, d7, d8, lo', hi', e1, e2, e3, p1, p2, p3⟩ := x0.tys j hjk h2
      exact ⟨d0, d1, d2, d3, d4, d5, d6, d7, d8, lo', hi', by rw [List.getElem_append_left hjk]; exact e1, e2, tk _ _ _ _ e2 e3 p2, p1, oi _ _ e3.1 p2, p3⟩
    · have hjb : j = fs.length := by rw [List.length_append] at hj; simp at hj; omega
      subst hjb
      have eT : ts[fs.length] = T := by have := hT; rw [← x0.len, List.getElem?_eq_getElem h2] at this; exact Option.some.inj this
      exact ⟨c0, c1, c2, c3, c4, c5, c6, c7, c8, lo, hi, by simp, hlo, by rw [eT]; exact tk _ _ _ _ hlo hI o2, o1, oi _ _ hI.1 o2, o3⟩
theorem FdR.up3 {w W0 W w4 : World} {h : Nat} {vs : Array Value} {ns : List Value} {ts : List TT} {a b c : Nat} {nv fv mv mv' : Value} {fs : List (List Value)} {o : Obj} (x0 : FdR w W0 h vs ns ts a b c nv fv mv fs W) (hg : (W.alloc o).grownBy w4 mv.ownBlock) (hown : w4.ownsRow W0.heap.size 4 1 mv' (c + 1) (List.replicate c (.bool true) ++ [.bool true])) (hat : mv'.ownBlock = mv.ownBlock ∨ mv'.ownBlock = some (W.alloc o).heap.size) :
    FdR w W0 h vs ns ts (a) (b) (c + 1) nv fv mv' fs (w4.setCell ⟨w.heap.size + 2, 2, none⟩ mv') ∧ w4.heap[w.heap.size + 2]? = some (.cells #[nv, fv, mv, .bool false, .bool false, .bool false, .bool false, .slice none 0 0, .bool false, .slice none 0 0, .slice none 0 0, .slice none 0 0] 63 (0, 0)) := by
  have hl := x0.lo
  have hle := x0.le
  have hbz := x0.below.size
  have nk : ∀ b, b < W0.heap.size → some b ≠ mv.ownBlock := fun b hb e => by
    obtain ⟨_, _, h2⟩ := own_cellsF x0.mst e.symm; omega
  have old : ∀ b, b < W.heap.size → some b ≠ mv.ownBlock → w4.heap[b]? = W.heap[b]? := fun b hb hne => (hg.block b (by simp; omega) hne).trans (Below.heap_alloc _ _ b hb)
  have o4 := (old (w.heap.size + 2) (by omega) (nk _ (by omega))).trans x0.out
  have oth : ∀ b, b ≠ w.heap.size + 2 → (w4.setCell ⟨w.heap.size + 2, 2, none⟩ mv').heap[b]? = w4.heap[b]? := fun b hb => Below.heap_setCell _ _ _ _ hb
  have hsz : W.heap.size ≤ w4.heap.size := by have := hg.size; simp at this; omega
  have hsA : (W.alloc o).heap.size = W.heap.size + 1 := by simp
  have oi : ∀ lo hi, hi ≤ W.heap.size → outI lo hi mv → outI lo hi mv' := fun lo hi hh h1 g hgv => by
    rcases hat with e | e
    · exact h1 g (e.symm.trans hgv)
    · rw [e] at hgv; simp only [Option.some.injEq] at hgv; right; omega
  have tk : ∀ lo hi T v, W0.heap.size ≤ lo → FrI lo hi W (h + 2) T v → outI lo hi mv → FrI lo hi (w4.setCell ⟨w.heap.size + 2, 2, none⟩ mv') (h + 2) T v := fun lo hi T v h1 f h2 => f.move (by simp; omega) (fun b g1 g2 => by
    rw [oth b (by omega)]
    exact old b (Nat.lt_of_lt_of_le g2 f.1) (fun e => by rcases h2 b e.symm with h | h <;> omega))
  refine ⟨⟨?_, hl, by simp; omega, ?_, ?_, ?_, ?_, ?_, ?_, ?_, fun j hj h2 => ?_⟩, o4⟩
  · exact ((x0.below.alloc hbz o).grown hg (by simp; omega) (fun r e => by obtain ⟨_, _, h2⟩ := own_cellsF x0.mst e; omega)).setCell (p := ⟨w.heap.size + 2, 2, none⟩) (by show _ ≤ w.heap.size + 2; omega) _
  · rw [oth _ (by omega), old _ (by omega) (nk _ (by omega))]; exact x0.box
  · rw [oth _ (by omega), old _ (by omega) (nk _ (by omega))]; exact x0.res
  · exact rset9 (i := 2) (c := #[nv, fv, mv, .bool false, .bool false, .bool false, .bool false, .slice none 0 0, .bool false, .slice none 0 0, .slice none 0 0, .slice none 0 0]) _ o4
  · refine own_keepF x0.nms fun g e hgl => ?_
    obtain ⟨cur, h1, h2⟩ := own_cellsF x0.nms e
    rw [oth g (by omega), old g hgl (fun e2 => by
      obtain ⟨cur2, h3, _⟩ := own_cellsF x0.mst e2.symm
      rw [h1] at h3; simp at h3)]
  · refine own_keepF x0.fds fun g e hgl => ?_
    obtain ⟨cur, h1, h2⟩ := own_cellsF x0.fds e
    rw [oth g (by omega), old g hgl (fun e2 => by
      obtain ⟨cur2, h3, _⟩ := own_cellsF x0.mst e2.symm
      rw [h1] at h3; simp at h3)]
  · rw [List.replicate_succ']
    exact own_keepF hown fun g e _ => oth g (by obtain ⟨_, _, h2⟩ := own_cellsF hown e; omega)
  · exact x0.len
  · obtain ⟨c0, c1, c2, c3, c4, c5, c6, c7, c8, lo, hi, e1, e2, e3, p1, p2, p3⟩ := x0.tys j hj h2
    exact ⟨c0, c1, c2, c3, c4, c5, c6, c7, c8, lo, hi, e1, e2, tk _ _ _ _ e2 e3 p3, p1, p2, oi _ _ e3.1 p3⟩
/-- behind the last round: the object's type is whole -/
theorem fdr_end {w W0 W : World} {h N : Nat} {vs : Array Value} {ks : List ByteArray} {ts : List TT} {no : Option Addr} {nc : Nat} {fo : Option Addr} {fc : Nat} {mo : Option Addr} {mc : Nat} {fs : List (List Value)} (F : FdR w W0 h vs (ks.map .string) ts N N N (.slice no N nc) (.slice fo N fc) (.slice mo N mc) fs W) (hk : ks.length = N) (ht : ts.length = N) (hN : N ≤ 140737488355328) (hs : ∀ k ∈ ks, k.size ≤ 140737488355328) :
    FrO W0.heap.size W (h + 2) (.mk ks ts (ks.map fun _ => true) ttNe) (.agg #[.slice no N nc, .slice fo N fc, .slice mo N mc, .bool false, .bool false, .bool false, .bool false, .slice none 0 0, .bool false, .slice none 0 0, .slice none 0 0, .slice none 0 0]) := by
  obtain ⟨cn, rn⟩ := own_row F.nms
  obtain ⟨cf, rf⟩ := own_row F.fds
  obtain ⟨cm, rm⟩ := own_row F.mst
  have hm : (ks.map fun _ => true).length = N := by rw [List.length_map, hk]
  refine ⟨no, nc, fo, fc, mo, mc, _, _, _, _, _, _, _, _, _, ?_, fun x hxs hx => ⟨⟨?_, ?_, ?_⟩, ⟨?_, ?_, ?_, hs⟩, ⟨fun h0 => ?_⟩, ⟨fun h0 => ?_⟩, fun h0 => ?_, inT_nev x (h + 1)⟩⟩
  · show Value.agg _ = Value.agg #[.slice no ks.length nc, .slice fo ts.length fc, .slice mo (ks.map fun _ => true).length mc, _, _, _, _, _, _, _, _, _]
    rw [hk, ht, hm]
  · show ks.length ≤ nc; omega
  · show ts.length ≤ fc; omega
  · show (ks.map fun _ => true).length ≤ mc; omega
  · show ks.length ≤ _; omega
  · show ts.length ≤ _; omega
  · show (ks.map fun _ => true).length ≤ _; omega
  · have h0' : 0 < ks.length := h0
    obtain ⟨g, cur, e1, e2, e3, e4⟩ := rn (by omega)
    have hl := lt_of_row e3
    have hr := (hx g e2 hl).trans e3
    refine ⟨g, 0, e1, by omega, fun i hi => ?_⟩
    have hi' : i < ks.length := hi
    rw [Nat.zero_add]
    refine cell_at hr (e4 i _ (by omega) ?_)
    rw [List.take_of_length_le (by rw [List.length_map]; omega), List.getElem?_map, List.getElem?_eq_getElem hi', List.getD_eq_getElem?_getD, List.getElem?_eq_getElem (l := (OB.mk ks ts (ks.map fun _ => true) ttNe).names) hi]
    rfl
  · have h0' : 0 < (ks.map fun _ => true).length := h0
    obtain ⟨g, cur, e1, e2, e3, e4⟩ := rm (by omega)
    have hl := lt_of_row e3
    have hr := (hx g e2 hl).trans e3
    refine ⟨g, 0, e1, by omega, fun i hi => ?_⟩
    have hi' : i < (ks.map fun _ => true).length := hi
    rw [Nat.zero_add]
    refine cell_at hr (e4 i _ (by omega) ?_)
    have e5 : (OB.mk ks ts (ks.map fun _ => true) ttNe).must[i]'hi = true := by
      show (ks.map fun _ => true)[i] = true
      simp
    rw [e5, List.getElem?_replicate, if_pos (by omega)]
  · have h0' : 0 < ts.length := h0
    obtain ⟨g, cur, e1, e2, e3, e4⟩ := rf (by omega)
    have hl := lt_of_row e3
    have hr := (hx g e2 hl).trans e3
    have h9 : ∀ f ∈ fs, f.length = 9 := fun f hf => by
      obtain ⟨j, hj, rfl⟩ := List.getElem_of_mem hf
      obtain ⟨c0, c1, c2, c3, c4, c5, c6, c7, c8, lo, hi, q1, _⟩ := F.tys j hj (by have := F.len; omega)
      rw [q1]; rfl
    refine ⟨g, 0, e1, by omega, fun j hj => ?_⟩
    have hj2 : j < ts.length := hj
    have hjf : j < fs.length := by have := F.len; omega
    obtain ⟨c0, c1, c2, c3, c4, c5, c6, c7, c8, lo, hi, q1, q2, q3, _⟩ := F.tys j hjf hj2
    have hc : ∀ r u, (hr9 : r < 9) → [c0, c1, c2, c3, c4, c5, c6, c7, c8][r]? = some u → x.cell? ⟨g, 0 + j * 9 + r, none⟩ = some u := fun r u hr9 hu => by
      rw [Nat.zero_add]
      refine cell_at hr (e4 _ _ (by omega) ?_)
      rw [flat9 fs h9 j r hjf hr9, q1]
      exact hu
    refine ⟨c0, c1, c2, c3, c4, c5, c6, c7, c8, ⟨hc 0 _ (by omega) rfl, hc 1 _ (by omega) rfl, hc 2 _ (by omega) rfl, hc 3 _ (by omega) rfl, hc 4 _ (by omega) rfl, hc 5 _ (by omega) rfl, hc 6 _ (by omega) rfl, hc 7 _ (by omega) rfl, hc 8 _ (by omega) rfl⟩, ?_⟩
    exact q3.2 x (Nat.le_trans q3.1 hxs) (fun b g1 g2 => hx b (Nat.le_trans q2 g1) (Nat.lt_of_lt_of_le g2 q3.1))
/-- a type stands through an append and a store elsewhere -/
theorem FrI.over {lo hi : Nat} {W w4 : World} {h : Nat} {T : TT} {v x : Value} {o : Obj} {rb : Option Nat} {B i : Nat} (f : FrI lo hi W h T v) (hg : (W.alloc o).grownBy w4 rb) (hr : ∀ g, rb = some g → g < lo ∨ hi ≤ g) (hB : B < lo) : FrI lo hi (w4.setCell ⟨B, i, none⟩ x) h T v := by
  have hsz : W.heap.size ≤ w4.heap.size := by have := hg.size; simp at this; omega
  refine f.move (by simp; omega) (fun b g1 g2 => ?_)
  have hbW := Nat.lt_of_lt_of_le g2 f.1
  rw [Below.heap_setCell _ _ _ _ (by show b ≠ B; omega)]
  exact (hg.block b (by simp; omega) (fun e => by rcases hr b e.symm with h | h <;> omega)).trans (Below.heap_alloc _ _ b hbW)
theorem box_over {W w4 : World} {x : Value} {o : Obj} {rb : Option Nat} {B i G : Nat} {c : Array Value} {t : TypeId} (hG : W.heap[G]? = some (.cells c t (0, 0))) (hg : (W.alloc o).grownBy w4 rb) (hr : ∀ g, rb = some g → g ≠ G) (hB : B ≠ G) : (w4.setCell ⟨B, i, none⟩ x).heap[G]? = some (.cells c t (0, 0)) := by
  have hl := lt_of_row hG
  rw [Below.heap_setCell _ _ _ _ (by show G ≠ B; omega)]
  exact ((hg.block G (by simp; omega) (fun e => hr G e.symm rfl)).trans (Below.heap_alloc _ _ G hl)).trans hG
end Go.Proofs.YtdjoelhiahpmlaaGreat
