import Derived.Test.YtdjoelhiahpmlaaM49
import Derived.Maps.AppendAt
import Derived.Deep.AppendLies
import Derived.Deep.RegionHeld3
namespace Go.Proofs.Ytdjoelhiahpmlaa
open Go.RowKit Go.Shelf Go.Sort Go.Maps Go.WideMaps
set_option linter.unusedVariables false
set_option linter.unusedSimpArgs false
attribute [local go_sem] Oper.semAt_some

theorem own_keepF {W W' : World} {B : Nat} {e : TypeId} {size : Nat} {v : Value} {n : Nat} {xs : List Value} (h : W.ownsRow B e size v n xs) (hb : ∀ b, v.ownBlock = some b → b < W.heap.size → W'.heap[b]? = W.heap[b]?) : W'.ownsRow B e size v n xs := by
  refine ⟨h.1, h.2.imp id ?_⟩
  rintro ⟨g, cap, cur, rfl, e2, e3, rest⟩
  exact ⟨g, cap, cur, rfl, e2, (hb g rfl (Array.getElem?_eq_some_iff.1 e3).1).trans e3, rest⟩
theorem own_cellsF {w : World} {base : Nat} {e : TypeId} {size : Nat} {v : Value} {n : Nat} {xs : List Value} (h : w.ownsRow base e size v n xs) {g : Nat} (hg : v.ownBlock = some g) : ∃ cur, w.heap[g]? = some (.cells cur e (0, 0)) ∧ base ≤ g := by
  rcases h.2 with ⟨rfl, _⟩ | ⟨g', cap, cur, rfl, e2, e3, _⟩
  · cases hg
  · simp [Value.ownBlock] at hg
    subst hg
    exact ⟨cur, e3, e2⟩
theorem own_succF {w : World} {base : Nat} {e : TypeId} {size : Nat} {v : Value} {n : Nat} {xs : List Value} (h : w.ownsRow base e size v (n + 1) xs) : ∃ g cap, v = .slice (some ⟨g, 0, none⟩) (n + 1) cap := by
  rcases h.2 with ⟨e, h0⟩ | ⟨g, cap, cur, e, _⟩
  · omega
  · exact ⟨_, _, e⟩
/-- a row's block lies outside of an interval -/
def outI (lo hi : Nat) (v : Value) : Prop := ∀ g, v.ownBlock = some g → g < lo ∨ hi ≤ g
/-- a type that stands by the blocks of an interval -/
def FrI (lo hi : Nat) (W : World) (h : Nat) (T : TT) (v : Value) : Prop := hi ≤ W.heap.size ∧ ∀ x : World, hi ≤ x.heap.size → (∀ b, lo ≤ b → b < hi → x.heap[b]? = W.heap[b]?) → InT x h T v
theorem FrI.move {lo hi : Nat} {W W' : World} {h : Nat} {T : TT} {v : Value} (f : FrI lo hi W h T v) (hs : W.heap.size ≤ W'.heap.size) (hb : ∀ b, lo ≤ b → b < hi → W'.heap[b]? = W.heap[b]?) : FrI lo hi W' h T v :=
  ⟨Nat.le_trans f.1 hs, fun x h1 h2 => f.2 x h1 (fun b g1 g2 => (h2 b g1 g2).trans (hb b g1 g2))⟩
theorem FrT.int {L : Nat} {W : World} {h : Nat} {T : TT} {v : Value} (f : FrT L W h T v) : FrI L W.heap.size W h T v := ⟨Nat.le_refl _, f⟩
/-- what nearFields holds: a names, b types, c marks -/
structure FdI (w W0 : World) (h : Nat) (vs : Array Value) (ns : List Value) (ts : List TT) (a b c : Nat) (nv fv mv : Value) (fs : List (List Value)) (W : World) : Prop where
  below : Below w.heap.size w W
  lo : W0.heap.size = w.heap.size + 3
  le : W0.heap.size ≤ W.heap.size
  box : W.heap[w.heap.size]? = some (.cells vs 25 (0, 0))
  res : W.heap[w.heap.size + 1]? = some (.cells #[.slice none 0 0, .slice none 0 0, .slice none 0 0, .bool false, .bool false, .bool false, .bool false, .slice none 0 0, .bool false, .slice none 0 0, .slice none 0 0, .slice none 0 0] 55 (0, 0))
  out : W.heap[w.heap.size + 2]? = some (.cells #[nv, fv, mv, .bool false, .bool false, .bool false, .bool false, .slice none 0 0, .bool false, .slice none 0 0, .slice none 0 0, .slice none 0 0] 55 (0, 0))
  nms : W.ownsRow W0.heap.size 9 1 nv a (ns.take a)
  fds : W.ownsRow W0.heap.size 33 9 fv b fs.flatten
  mst : W.ownsRow W0.heap.size 4 1 mv c (List.replicate c (.bool true))
  len : fs.length = b
  tys : ∀ j, (hj : j < fs.length) → (h2 : j < ts.length) → ∃ (c0 c1 c2 c3 c4 c5 c6 c7 c8 : Value) (lo hi : Nat), fs[j] = [c0, c1, c2, c3, c4, c5, c6, c7, c8] ∧ W0.heap.size ≤ lo ∧ FrI lo hi W (h + 2) ts[j] (.agg #[c0, c1, c2, c3, c4, c5, c6, c7, c8]) ∧ outI lo hi nv ∧ outI lo hi fv ∧ outI lo hi mv
theorem FdI.keep {w W0 W W' : World} {h : Nat} {vs : Array Value} {ns : List Value} {ts : List TT} {a b c : Nat} {nv fv mv : Value} {fs : List (List Value)} (x : FdI w W0 h vs ns ts a b c nv fv mv fs W) (hb : Below W.heap.size W W') : FdI w W0 h vs ns ts a b c nv fv mv fs W' := by
  have hl := x.lo
  have hle := x.le
  refine ⟨x.below.trans (hb.mono x.below.size), hl, Nat.le_trans hle hb.size, (hb.block _ (by omega)).trans x.box, (hb.block _ (by omega)).trans x.res, (hb.block _ (by omega)).trans x.out, own_keepF x.nms (fun g _ hg => hb.block g hg), own_keepF x.fds (fun g _ hg => hb.block g hg), own_keepF x.mst (fun g _ hg => hb.block g hg), x.len, fun j hj h2 => ?_⟩
  obtain ⟨c0, c1, c2, c3, c4, c5, c6, c7, c8, lo, hi, e1, e2, e3, e4⟩ := x.tys j hj h2
  exact ⟨c0, c1, c2, c3, c4, c5, c6, c7, c8, lo, hi, e1, e2, e3.move hb.size (fun b _ hbh => hb.block b (Nat.lt_of_lt_of_le hbh e3.1)), e4⟩
theorem FdI.up1 {w W0 W w4 : World} {h : Nat} {vs : Array Value} {ns : List Value} {ts : List TT} {a b c : Nat} {nv fv mv nv' : Value} {fs : List (List Value)} {o : Obj} {x : Value} (hx : ns[a]? = some x) (x0 : FdI w W0 h vs ns ts a b c nv fv mv fs W) (hg : (W.alloc o).grownBy w4 nv.ownBlock) (hown : w4.ownsRow W0.heap.size 9 1 nv' (a + 1) (ns.take a ++ [x])) (hat : nv'.ownBlock = nv.ownBlock ∨ nv'.ownBlock = some (W.alloc o).heap.size) :
    FdI w W0 h vs ns ts (a + 1) (b) (c) nv' fv mv fs (w4.setCell ⟨w.heap.size + 2, 0, none⟩ nv') ∧ w4.heap[w.heap.size + 2]? = some (.cells #[nv, fv, mv, .bool false, .bool false, .bool false, .bool false, .slice none 0 0, .bool false, .slice none 0 0, .slice none 0 0, .slice none 0 0] 55 (0, 0)) := by
  have hl := x0.lo
  have hle := x0.le
  have hbz := x0.below.size
  have nk : ∀ b, b < W0.heap.size → some b ≠ nv.ownBlock := fun b hb e => by
    obtain ⟨_, _, h2⟩ := own_cellsF x0.nms e.symm; omega
  have old : ∀ b, b < W.heap.size → some b ≠ nv.ownBlock → w4.heap[b]? = W.heap[b]? := fun b hb hne => (hg.block b (by simp; omega) hne).trans (Below.heap_alloc _ _ b hb)
  have o4 := (old (w.heap.size + 2) (by omega) (nk _ (by omega))).trans x0.out
  have oth : ∀ b, b ≠ w.heap.size + 2 → (w4.setCell ⟨w.heap.size + 2, 0, none⟩ nv').heap[b]? = w4.heap[b]? := fun b hb => Below.heap_setCell _ _ _ _ hb
  have hsz : W.heap.size ≤ w4.heap.size := by have := hg.size; simp at this; omega
  have hsA : (W.alloc o).heap.size = W.heap.size + 1 := by simp
  have oi : ∀ lo hi, hi ≤ W.heap.size → outI lo hi nv → outI lo hi nv' := fun lo hi hh h1 g hgv => by
    rcases hat with e | e
    · exact h1 g (e.symm.trans hgv)
    · rw [e] at hgv; simp only [Option.some.injEq] at hgv; right; omega
  have tk : ∀ lo hi T v, W0.heap.size ≤ lo → FrI lo hi W (h + 2) T v → outI lo hi nv → FrI lo hi (w4.setCell ⟨w.heap.size + 2, 0, none⟩ nv') (h + 2) T v := fun lo hi T v h1 f h2 => f.move (by simp; omega) (fun b g1 g2 => by
    rw [oth b (by omega)]
    exact old b (Nat.lt_of_lt_of_le g2 f.1) (fun e => by rcases h2 b e.symm with h | h <;> omega))
  refine ⟨⟨?_, hl, by simp; omega, ?_, ?_, ?_, ?_, ?_, ?_, ?_, fun j hj h2 => ?_⟩, o4⟩
  · exact ((x0.below.alloc hbz o).grown hg (by simp; omega) (fun r e => by obtain ⟨_, _, h2⟩ := own_cellsF x0.nms e; omega)).setCell (p := ⟨w.heap.size + 2, 0, none⟩) (by show _ ≤ w.heap.size + 2; omega) _
  · rw [oth _ (by omega), old _ (by omega) (nk _ (by omega))]; exact x0.box
  · rw [oth _ (by omega), old _ (by omega) (nk _ (by omega))]; exact x0.res
  · exact rset9 (i := 0) (c := #[nv, fv, mv, .bool false, .bool false, .bool false, .bool false, .slice none 0 0, .bool false, .slice none 0 0, .slice none 0 0, .slice none 0 0]) _ o4
  · have e : ns.take a ++ [x] = ns.take (a + 1) := by rw [List.take_add_one, hx]; rfl
    rw [← e]
    exact own_keepF hown fun g e _ => oth g (by obtain ⟨_, _, h2⟩ := own_cellsF hown e; omega)
  · refine own_keepF x0.fds fun g e hgl => ?_
    obtain ⟨cur, h1, h2⟩ := own_cellsF x0.fds e
    rw [oth g (by omega), old g hgl (fun e2 => by
      obtain ⟨cur2, h3, _⟩ := own_cellsF x0.nms e2.symm
      rw [h1] at h3; simp at h3)]
  · refine own_keepF x0.mst fun g e hgl => ?_
    obtain ⟨cur, h1, h2⟩ := own_cellsF x0.mst e
    rw [oth g (by omega), old g hgl (fun e2 => by
      obtain ⟨cur2, h3, _⟩ := own_cellsF x0.nms e2.symm
      rw [h1] at h3; simp at h3)]
  · exact x0.len
  · obtain ⟨c0, c1, c2, c3, c4, c5, c6, c7, c8, lo, hi, e1, e2, e3, p1, p2, p3⟩ := x0.tys j hj h2
    exact ⟨c0, c1, c2, c3, c4, c5, c6, c7, c8, lo, hi, e1, e2, tk _ _ _ _ e2 e3 p1, oi _ _ e3.1 p1, p2, p3⟩
theorem FdI.up2 {w W0 W w4 : World} {h : Nat} {vs : Array Value} {ns : List Value} {ts : List TT} {a b c : Nat} {nv fv mv fv' : Value} {fs : List (List Value)} {o : Obj} {c0 c1 c2 c3 c4 c5 c6 c7 c8 : Value} {lo hi : Nat} {T : TT} (hT : ts[b]? = some T) (hlo : W0.heap.size ≤ lo) (hI : FrI lo hi W (h + 2) T (.agg #[c0, c1, c2, c3, c4, c5, c6, c7, c8])) (o1 : outI lo hi nv) (o2 : outI lo hi fv) (o3 : outI lo hi mv) (x0 : FdI w W0 h vs ns ts a b c nv fv mv fs W) (hg : (W.alloc o).grownBy w4 fv.ownBlock) (hown : w4.ownsRow W0.heap.size 33 9 fv' (b + 1) (fs.flatten ++ [c0, c1, c2, c3, c4, c5, c6, c7, c8])) (hat : fv'.ownBlock = fv.ownBlock ∨ fv'.ownBlock = some (W.alloc o).heap.size) :
    FdI w W0 h vs ns ts (a) (b + 1) (c) nv fv' mv (fs ++ [[c0, c1, c2, c3, c4, c5, c6, c7, c8]]) (w4.setCell ⟨w.heap.size + 2, 1, none⟩ fv') ∧ w4.heap[w.heap.size + 2]? = some (.cells #[nv, fv, mv, .bool false, .bool false, .bool false, .bool false, .slice none 0 0, .bool false, .slice none 0 0, .slice none 0 0, .slice none 0 0] 55 (0, 0)) := by
  have hl := x0.lo
  have hle := x0.le
  have hbz := x0.below.size
  have nk : ∀ b, b < W0.heap.size → some b ≠ fv.ownBlock := fun b hb e => by
    obtain ⟨_, _, h2⟩ := own_cellsF x0.fds e.symm; omega
  have old : ∀ b, b < W.heap.size → some b ≠ fv.ownBlock → w4.heap[b]? = W.heap[b]? := fun b hb hne => (hg.block b (by simp; omega) hne).trans (Below.heap_alloc _ _ b hb)
  have o4 := (old (w.heap.size + 2) (by omega) (nk _ (by omega))).trans x0.out
  have oth : ∀ b, b ≠ w.heap.size + 2 → (w4.setCell ⟨w.heap.size + 2, 1, none⟩ fv').heap[b]? = w4.heap[b]? := fun b hb => Below.heap_setCell _ _ _ _ hb
  have hsz : W.heap.size ≤ w4.heap.size := by have := hg.size; simp at this; omega
  have hsA : (W.alloc o).heap.size = W.heap.size + 1 := by simp
  have oi : ∀ lo hi, hi ≤ W.heap.size → outI lo hi fv → outI lo hi fv' := fun lo hi hh h1 g hgv => by
    rcases hat with e | e
    · exact h1 g (e.symm.trans hgv)
    · rw [e] at hgv; simp only [Option.some.injEq] at hgv; right; omega
  have tk : ∀ lo hi T v, W0.heap.size ≤ lo → FrI lo hi W (h + 2) T v → outI lo hi fv → FrI lo hi (w4.setCell ⟨w.heap.size + 2, 1, none⟩ fv') (h + 2) T v := fun lo hi T v h1 f h2 => f.move (by simp; omega) (fun b g1 g2 => by
    rw [oth b (by omega)]
    exact old b (Nat.lt_of_lt_of_le g2 f.1) (fun e => by rcases h2 b e.symm with h | h <;> omega))
  refine ⟨⟨?_, hl, by simp; omega, ?_, ?_, ?_, ?_, ?_, ?_, ?_, fun j hj h2 => ?_⟩, o4⟩
  · exact ((x0.below.alloc hbz o).grown hg (by simp; omega) (fun r e => by obtain ⟨_, _, h2⟩ := own_cellsF x0.fds e; omega)).setCell (p := ⟨w.heap.size + 2, 1, none⟩) (by show _ ≤ w.heap.size + 2; omega) _
  · rw [oth _ (by omega), old _ (by omega) (nk _ (by omega))]; exact x0.box
  · rw [oth _ (by omega), old _ (by omega) (nk _ (by omega))]; exact x0.res
  · exact rset9 (i := 1) (c := #[nv, fv, mv, .bool false, .bool false, .bool false, .bool false, .slice none 0 0, .bool false, .slice none 0 0, .slice none 0 0, .slice none 0 0]) _ o4
  · refine own_keepF x0.nms fun g e hgl => ?_
    obtain ⟨cur, h1, h2⟩ := own_cellsF x0.nms e
    rw [oth g (by omega), old g hgl (fun e2 => by
      obtain ⟨cur2, h3, _⟩ := own_cellsF x0.fds e2.symm
      rw [h1] at h3; simp at h3)]
  · have e : fs.flatten ++ [c0, c1, c2, c3, c4, c5, c6, c7, c8] = (fs ++ [[c0, c1, c2, c3, c4, c5, c6, c7, c8]]).flatten := by simp
    rw [← e]
    exact own_keepF hown fun g e _ => oth g (by obtain ⟨_, _, h2⟩ := own_cellsF hown e; omega)
  · refine own_keepF x0.mst fun g e hgl => ?_
    obtain ⟨cur, h1, h2⟩ := own_cellsF x0.mst e
    rw [oth g (by omega), old g hgl (fun e2 => by
      obtain ⟨cur2, h3, _⟩ := own_cellsF x0.fds e2.symm
      rw [h1] at h3; simp at h3)]
  · rw [List.length_append, x0.len]; rfl
  · by_cases hjk : j < fs.length
    · obtain ⟨d0, d1, d2, d3, d4, d5, d6, d7, d8, lo', hi', e1, e2, e3, p1, p2, p3⟩ := x0.tys j hjk h2
      exact ⟨d0, d1, d2, d3, d4, d5, d6, d7, d8, lo', hi', by rw [List.getElem_append_left hjk]; exact e1, e2, tk _ _ _ _ e2 e3 p2, p1, oi _ _ e3.1 p2, p3⟩
    · have hjb : j = fs.length := by rw [List.length_append] at hj; simp at hj; omega
      subst hjb
      have eT : ts[fs.length] = T := by have := hT; rw [← x0.len, List.getElem?_eq_getElem h2] at this; exact Option.some.inj this
      exact ⟨c0, c1, c2, c3, c4, c5, c6, c7, c8, lo, hi, by simp, hlo, by rw [eT]; exact tk _ _ _ _ hlo hI o2, o1, oi _ _ hI.1 o2, o3⟩
theorem FdI.up3 {w W0 W w4 : World} {h : Nat} {vs : Array Value} {ns : List Value} {ts : List TT} {a b c : Nat} {nv fv mv mv' : Value} {fs : List (List Value)} {o : Obj} (x0 : FdI w W0 h vs ns ts a b c nv fv mv fs W) (hg : (W.alloc o).grownBy w4 mv.ownBlock) (hown : w4.ownsRow W0.heap.size 4 1 mv' (c + 1) (List.replicate c (.bool true) ++ [.bool true])) (hat : mv'.ownBlock = mv.ownBlock ∨ mv'.ownBlock = some (W.alloc o).heap.size) :
    FdI w W0 h vs ns ts (a) (b) (c + 1) nv fv mv' fs (w4.setCell ⟨w.heap.size + 2, 2, none⟩ mv') ∧ w4.heap[w.heap.size + 2]? = some (.cells #[nv, fv, mv, .bool false, .bool false, .bool false, .bool false, .slice none 0 0, .bool false, .slice none 0 0, .slice none 0 0, .slice none 0 0] 55 (0, 0)) := by
  have hl := x0.lo
  have hle := x0.le
  have hbz := x0.below.size
  have nk : ∀ b, b < W0.heap.size → some b ≠ mv.ownBlock := fun b hb e => by
    obtain ⟨_, _, h2⟩ := own_cellsF x0.mst e.symm; omega
  have old : ∀ b, b < W.heap.size → some b ≠ mv.ownBlock → w4.heap[b]? = W.heap[b]? := fun b hb hne => (hg.block b (by simp; omega) hne).trans (Below.heap_alloc _ _ b hb)
  have o4 := (old (w.heap.size + 2) (by omega) (nk _ (by omega))).trans x0.out
  have oth : ∀ b, b ≠ w.heap.size + 2 → (w4.setCell ⟨w.heap.size + 2, 2, none⟩ mv').heap[b]? = w4.heap[b]? := fun b hb => Below.heap_setCell _ _ _ _ hb
  have hsz : W.heap.size ≤ w4.heap.size := by have := hg.size; simp at this; omega
  have hsA : (W.alloc o).heap.size = W.heap.size + 1 := by simp
  have oi : ∀ lo hi, hi ≤ W.heap.size → outI lo hi mv → outI lo hi mv' := fun lo hi hh h1 g hgv => by
    rcases hat with e | e
    · exact h1 g (e.symm.trans hgv)
    · rw [e] at hgv; simp only [Option.some.injEq] at hgv; right; omega
  have tk : ∀ lo hi T v, W0.heap.size ≤ lo → FrI lo hi W (h + 2) T v → outI lo hi mv → FrI lo hi (w4.setCell ⟨w.heap.size + 2, 2, none⟩ mv') (h + 2) T v := fun lo hi T v h1 f h2 => f.move (by simp; omega) (fun b g1 g2 => by
    rw [oth b (by omega)]
    exact old b (Nat.lt_of_lt_of_le g2 f.1) (fun e => by rcases h2 b e.symm with h | h <;> omega))
  refine ⟨⟨?_, hl, by simp; omega, ?_, ?_, ?_, ?_, ?_, ?_, ?_, fun j hj h2 => ?_⟩, o4⟩
  · exact ((x0.below.alloc hbz o).grown hg (by simp; omega) (fun r e => by obtain ⟨_, _, h2⟩ := own_cellsF x0.mst e; omega)).setCell (p := ⟨w.heap.size + 2, 2, none⟩) (by show _ ≤ w.heap.size + 2; omega) _
  · rw [oth _ (by omega), old _ (by omega) (nk _ (by omega))]; exact x0.box
  · rw [oth _ (by omega), old _ (by omega) (nk _ (by omega))]; exact x0.res
  · exact rset9 (i := 2) (c := #[nv, fv, mv, .bool false, .bool false, .bool false, .bool false, .slice none 0 0, .bool false, .slice none 0 0, .slice none 0 0, .slice none 0 0]) _ o4
  · refine own_keepF x0.nms fun g e hgl => ?_
    obtain ⟨cur, h1, h2⟩ := own_cellsF x0.nms e
    rw [oth g (by omega), old g hgl (fun e2 => by
      obtain ⟨cur2, h3, _⟩ := own_cellsF x0.mst e2.symm
      rw [h1] at h3; simp at h3)]
  · refine own_keepF x0.fds fun g e hgl => ?_
    obtain ⟨cur, h1, h2⟩ := own_cellsF x0.fds e
    rw [oth g (by omega), old g hgl (fun e2 => by
      obtain ⟨cur2, h3, _⟩ := own_cellsF x0.mst e2.symm
      rw [h1] at h3; simp at h3)]
  · rw [List.replicate_succ']
    exact own_keepF hown fun g e _ => oth g (by obtain ⟨_, _, h2⟩ := own_cellsF hown e; omega)
  · exact x0.len
  · obtain ⟨c0, c1, c2, c3, c4, c5, c6, c7, c8, lo, hi, e1, e2, e3, p1, p2, p3⟩ := x0.tys j hj h2
    exact ⟨c0, c1, c2, c3, c4, c5, c6, c7, c8, lo, hi, e1, e2, tk _ _ _ _ e2 e3 p3, p1, p2, oi _ _ e3.1 p3⟩
end Go.Proofs.Ytdjoelhiahpmlaa
namespace Go.Proofs.Ytdjoelhiahpmlaa
open Go.RowKit Go.Shelf Go.Sort Go.Maps Go.WideMaps
set_option linter.unusedVariables false
set_option linter.unusedSimpArgs false

theorem flat9 : ∀ (fs : List (List Value)), (∀ f ∈ fs, f.length = 9) → ∀ (j r : Nat) (hj : j < fs.length) (hr : r < 9), fs.flatten[j * 9 + r]? = fs[j][r]?
  | [], _, j, r, hj, _ => absurd hj (Nat.not_lt_zero _)
  | f :: fs, h, 0, r, hj, hr => by
    have h9 := h f (List.mem_cons_self ..)
    rw [List.flatten_cons, List.getElem?_append_left (by omega)]
    simp
  | f :: fs, h, j + 1, r, hj, hr => by
    have h9 := h f (List.mem_cons_self ..)
    have hj' : j < fs.length := by simpa using hj
    rw [List.flatten_cons, List.getElem?_append_right (by omega), show (j + 1) * 9 + r - f.length = j * 9 + r from by omega, flat9 fs (fun g hg => h g (List.mem_cons_of_mem _ hg)) j r hj' hr]
    simp
/-- the cells of a row that is owned -/
theorem own_row {W : World} {B : Nat} {e : TypeId} {size : Nat} {so : Option Addr} {n cap : Nat} {xs : List Value} (h : W.ownsRow B e size (.slice so n cap) n xs) : n ≤ cap ∧ (0 < n → ∃ g cur, so = some ⟨g, 0, none⟩ ∧ B ≤ g ∧ W.heap[g]? = some (.cells cur e (0, 0)) ∧ ∀ j u, j < n * size → xs[j]? = some u → cur[j]? = some u) := by
  rcases h.2 with ⟨e1, e2⟩ | ⟨g, cap', cur, e1, e2, e3, e4, e5, e6, e7⟩
  · cases e1
    exact ⟨Nat.le_refl _, fun h0 => absurd h0 (Nat.lt_irrefl 0)⟩
  · cases e1
    refine ⟨e4, fun _ => ⟨g, cur, rfl, e2, e3, fun j u hj hu => ?_⟩⟩
    rw [← e7, List.getElem?_take_of_lt hj] at hu
    rw [← Array.getElem?_toList]
    exact hu
theorem cell_at {W : World} {b j : Nat} {cur : Array Value} {t : TypeId} {u : Value} (h : W.heap[b]? = some (.cells cur t (0, 0))) (hu : cur[j]? = some u) : W.cell? ⟨b, j, none⟩ = some u := (cell_of_row W b j cur t (0, 0) h).trans hu

/-- behind the last round: the object's type is whole -/
theorem fd_end {w W0 W : World} {h N : Nat} {vs : Array Value} {ks : List ByteArray} {ts : List TT} {no : Option Addr} {nc : Nat} {fo : Option Addr} {fc : Nat} {mo : Option Addr} {mc : Nat} {fs : List (List Value)} (F : FdI w W0 h vs (ks.map .string) ts N N N (.slice no N nc) (.slice fo N fc) (.slice mo N mc) fs W) (hk : ks.length = N) (ht : ts.length = N) (hN : N ≤ 140737488355328) (hs : ∀ k ∈ ks, k.size ≤ 140737488355328) :
    FrO W0.heap.size W (h + 2) (.mk ks ts (ks.map fun _ => true) ttNe) (.agg #[.slice no N nc, .slice fo N fc, .slice mo N mc, .bool false, .bool false, .bool false, .bool false, .slice none 0 0, .bool false, .slice none 0 0, .slice none 0 0, .slice none 0 0]) := by
  obtain ⟨cn, rn⟩ := own_row F.nms
  obtain ⟨cf, rf⟩ := own_row F.fds
  obtain ⟨cm, rm⟩ := own_row F.mst
  have hm : (ks.map fun _ => true).length = N := by rw [List.length_map, hk]
  refine ⟨no, nc, fo, fc, mo, mc, _, _, _, _, _, _, _, _, _, ?_, fun x hxs hx => ⟨⟨?_, ?_, ?_⟩, ⟨?_, ?_, ?_, hs⟩, ⟨fun h0 => ?_⟩, ⟨fun h0 => ?_⟩, fun h0 => ?_, inT_nev x (h + 1)⟩⟩
  · show Value.agg _ = Value.agg #[.slice no ks.length nc, .slice fo ts.length fc, .slice mo (ks.map fun _ => true).length mc, _, _, _, _, _, _, _, _, _]
    rw [hk, ht, hm]
  · show ks.length ≤ nc; omega
  · show ts.length ≤ fc; omega
  · show (ks.map fun _ => true).length ≤ mc; omega
  · show ks.length ≤ _; omega
  · show ts.length ≤ _; omega
  · show (ks.map fun _ => true).length ≤ _; omega
  · have h0' : 0 < ks.length := h0
    obtain ⟨g, cur, e1, e2, e3, e4⟩ := rn (by omega)
    have hl := lt_of_row e3
    have hr := (hx g e2 hl).trans e3
    refine ⟨g, 0, e1, by omega, fun i hi => ?_⟩
    have hi' : i < ks.length := hi
    rw [Nat.zero_add]
    refine cell_at hr (e4 i _ (by omega) ?_)
    rw [List.take_of_length_le (by rw [List.length_map]; omega), List.getElem?_map, List.getElem?_eq_getElem hi', List.getD_eq_getElem?_getD, List.getElem?_eq_getElem (l := (OB.mk ks ts (ks.map fun _ => true) ttNe).names) hi]
    rfl
  · have h0' : 0 < (ks.map fun _ => true).length := h0
    obtain ⟨g, cur, e1, e2, e3, e4⟩ := rm (by omega)
    have hl := lt_of_row e3
    have hr := (hx g e2 hl).trans e3
    refine ⟨g, 0, e1, by omega, fun i hi => ?_⟩
    have hi' : i < (ks.map fun _ => true).length := hi
    rw [Nat.zero_add]
    refine cell_at hr (e4 i _ (by omega) ?_)
    have e5 : (OB.mk ks ts (ks.map fun _ => true) ttNe).must[i]'hi = true := by
      show (ks.map fun _ => true)[i] = true
      simp
    rw [e5, List.getElem?_replicate, if_pos (by omega)]
  · have h0' : 0 < ts.length := h0
    obtain ⟨g, cur, e1, e2, e3, e4⟩ := rf (by omega)
    have hl := lt_of_row e3
    have hr := (hx g e2 hl).trans e3
    have h9 : ∀ f ∈ fs, f.length = 9 := fun f hf => by
      obtain ⟨j, hj, rfl⟩ := List.getElem_of_mem hf
      obtain ⟨c0, c1, c2, c3, c4, c5, c6, c7, c8, lo, hi, q1, _⟩ := F.tys j hj (by have := F.len; omega)
      rw [q1]; rfl
    refine ⟨g, 0, e1, by omega, fun j hj => ?_⟩
    have hj2 : j < ts.length := hj
    have hjf : j < fs.length := by have := F.len; omega
    obtain ⟨c0, c1, c2, c3, c4, c5, c6, c7, c8, lo, hi, q1, q2, q3, _⟩ := F.tys j hjf hj2
    have hc : ∀ r u, (hr9 : r < 9) → [c0, c1, c2, c3, c4, c5, c6, c7, c8][r]? = some u → x.cell? ⟨g, 0 + j * 9 + r, none⟩ = some u := fun r u hr9 hu => by
      rw [Nat.zero_add]
      refine cell_at hr (e4 _ _ (by omega) ?_)
      rw [flat9 fs h9 j r hjf hr9, q1]
      exact hu
    refine ⟨c0, c1, c2, c3, c4, c5, c6, c7, c8, ⟨hc 0 _ (by omega) rfl, hc 1 _ (by omega) rfl, hc 2 _ (by omega) rfl, hc 3 _ (by omega) rfl, hc 4 _ (by omega) rfl, hc 5 _ (by omega) rfl, hc 6 _ (by omega) rfl, hc 7 _ (by omega) rfl, hc 8 _ (by omega) rfl⟩, ?_⟩
    exact q3.2 x (Nat.le_trans q3.1 hxs) (fun b g1 g2 => hx b (Nat.le_trans q2 g1) (Nat.lt_of_lt_of_le g2 q3.1))
end Go.Proofs.Ytdjoelhiahpmlaa
namespace Go.Proofs.Ytdjoelhiahpmlaa
open Go.RowKit Go.Shelf Go.Sort Go.Maps Go.WideMaps
set_option linter.unusedVariables false
set_option linter.unusedSimpArgs false
attribute [local go_sem] Oper.semAt_some

theorem FrO.mono {L L' : Nat} {W : World} {h : Nat} {o : OB} {v : Value} (f : FrO L W h o v) (hl : L' ≤ L) : FrO L' W h o v := by
  obtain ⟨ko, kc, fo, fc, mo, mc, c0, c1, c2, c3, c4, c5, c6, c7, c8, e, hI⟩ := f
  exact ⟨ko, kc, fo, fc, mo, mc, c0, c1, c2, c3, c4, c5, c6, c7, c8, e, fun x hs hx => hI x hs (fun b h1 h2 => hx b (Nat.le_trans hl h1) h2)⟩
theorem FrO.set {L : Nat} {W W' : World} {h : Nat} {o : OB} {v : Value} (f : FrO L W h o v) (hs : W'.heap.size = W.heap.size) (hb : ∀ b, L ≤ b → W'.heap[b]? = W.heap[b]?) : FrO L W' h o v := by
  obtain ⟨ko, kc, fo, fc, mo, mc, c0, c1, c2, c3, c4, c5, c6, c7, c8, e, hI⟩ := f
  exact ⟨ko, kc, fo, fc, mo, mc, c0, c1, c2, c3, c4, c5, c6, c7, c8, e, fun x h1 hx => hI x (by omega) (fun b h2 h3 => (hx b h2 (by omega)).trans (hb b h2))⟩
theorem Try.infoStrN : (Try.prog.info? 9).map (fun i => (i.zero, i.size, i.bytes)) = some (some (.string ⟨#[]⟩), 1, 16) := by kernel_rfl
theorem Try.infoTyN : (Try.prog.info? 33).map (fun i => (i.zero, i.size, i.bytes)) = some (some (.agg #[.bool false, .bool false, .bool false, .bool false, .slice none 0 0, .bool false, .slice none 0 0, .slice none 0 0, .slice none 0 0]), 9, 112) := by kernel_rfl
theorem Try.infoBoN : (Try.prog.info? 4).map (fun i => (i.zero, i.size, i.bytes)) = some (some (.bool false), 1, 1) := by kernel_rfl

set_option maxRecDepth 100000 in
set_option maxHeartbeats 12800000 in
theorem fields_few (h : Nat) (ih : NrC h) (hv : Nat) (its : List VT) (ks : List ByteArray) (nm tx : ByteArray) (io : Option Addr) (icap : Nat) (ko : Option Addr) (NK kcap : Nat) (H : Int) (w : World) (hi : IIn w hv io its) (hk : KIn w ko ks) (hN : its.length = NK) (hK : ks.length = NK) (hcap : NK ≤ icap) (kcap' : NK ≤ kcap) (h12 : NK ≤ 12) (hf : ∀ x ∈ its, formN hv x = true) (hs : ∀ k ∈ ks, k.size ≤ 140737488355328) (hw1 : IntKind.wrap .i64 (H - 1) = (h : Int)) :
    Calls Try.prog 49 #[.agg #[.int .i64 6, .string nm, .string tx, .slice io NK icap, .slice ko NK kcap], .int .i64 H] w fun e w' => (∃ v, e = .returned v ∧ Hid (FrO w.heap.size w' (h + 2) (.mk ks (its.map (nrN h)) (ks.map fun _ => true) ttNe) v)) ∧ Below w.heap.size w w' := by
  obtain ⟨j0, hj0, hy0, hy1, hy2⟩ := info_parts Try.infoStrN
  obtain ⟨i0, hi0, hz0, hz1, hz2⟩ := info_parts Try.infoTyN
  obtain ⟨l0, hl0, hx0, hx1, hx2⟩ := info_parts Try.infoBoN
  have HI := Hid.mk hi
  have HKI := Hid.mk hk
  have HNN := Hid.mk hN
  have HKK := Hid.mk hK
  have HFm := Hid.mk hf
  have HSz := Hid.mk hs
  have HIh := Hid.mk ih
  clear hi hk hN hK hf hs ih
  have hx12 : ¬ (12 : Int) < (NK : Int) := by omega
  obtain ⟨W0, hW0⟩ : ∃ W0, ((w.alloc (.cells #[.int .i64 6, .string nm, .string tx, .slice io NK icap, .slice ko NK kcap] 25)).alloc (.cells #[.slice none 0 0, .slice none 0 0, .slice none 0 0, .bool false, .bool false, .bool false, .bool false, .slice none 0 0, .bool false, .slice none 0 0, .slice none 0 0, .slice none 0 0] 55)).alloc (.cells #[.slice none 0 0, .slice none 0 0, .slice none 0 0, .bool false, .bool false, .bool false, .bool false, .slice none 0 0, .bool false, .slice none 0 0, .slice none 0 0, .slice none 0 0] 55) = W0 := ⟨_, rfl⟩
  have hs0 : W0.heap.size = w.heap.size + 3 := by rw [← hW0]; simp
  have hb0 : Below w.heap.size w W0 := by rw [← hW0]; exact (((Below.refl _ w).alloc (Nat.le_refl _) _).alloc (by simp) _).alloc (by simp; omega) _
  have hbx0 : W0.heap[w.heap.size]? = some (.cells #[.int .i64 6, .string nm, .string tx, .slice io NK icap, .slice ko NK kcap] 25 (0, 0)) := by
    rw [← hW0]
    exact (Below.heap_alloc _ _ _ (by simp; omega)).trans ((Below.heap_alloc _ _ _ (by simp)).trans (World.alloc_heap_new w _))
  have hrs0 : W0.heap[w.heap.size + 1]? = some (.cells #[.slice none 0 0, .slice none 0 0, .slice none 0 0, .bool false, .bool false, .bool false, .bool false, .slice none 0 0, .bool false, .slice none 0 0, .slice none 0 0, .slice none 0 0] 55 (0, 0)) := by
    rw [← hW0]
    have e := World.alloc_heap_new (w.alloc (.cells #[.int .i64 6, .string nm, .string tx, .slice io NK icap, .slice ko NK kcap] 25)) (.cells #[.slice none 0 0, .slice none 0 0, .slice none 0 0, .bool false, .bool false, .bool false, .bool false, .slice none 0 0, .bool false, .slice none 0 0, .slice none 0 0, .slice none 0 0] 55)
    rw [World.size_alloc] at e
    exact (Below.heap_alloc _ _ _ (by simp)).trans e
  have hot0 : W0.heap[w.heap.size + 2]? = some (.cells #[.slice none 0 0, .slice none 0 0, .slice none 0 0, .bool false, .bool false, .bool false, .bool false, .slice none 0 0, .bool false, .slice none 0 0, .slice none 0 0, .slice none 0 0] 55 (0, 0)) := by
    rw [← hW0]
    have e := World.alloc_heap_new ((w.alloc (.cells #[.int .i64 6, .string nm, .string tx, .slice io NK icap, .slice ko NK kcap] 25)).alloc (.cells #[.slice none 0 0, .slice none 0 0, .slice none 0 0, .bool false, .bool false, .bool false, .bool false, .slice none 0 0, .bool false, .slice none 0 0, .slice none 0 0, .slice none 0 0] 55)) (.cells #[.slice none 0 0, .slice none 0 0, .slice none 0 0, .bool false, .bool false, .bool false, .bool false, .slice none 0 0, .bool false, .slice none 0 0, .slice none 0 0, .slice none 0 0] 55)
    rw [World.size_alloc, World.size_alloc] at e
    exact e
  have HG0 : Hid (FdI w W0 h #[.int .i64 6, .string nm, .string tx, .slice io NK icap, .slice ko NK kcap] (ks.map .string) (its.map (nrN h)) 0 0 0 (.slice none 0 0) (.slice none 0 0) (.slice none 0 0) [] W0) := ⟨hb0, hs0, Nat.le_refl _, hbx0, hrs0, hot0, World.ownsRow_nil _ _ _ _, World.ownsRow_nil _ _ _ _, World.ownsRow_nil _ _ _ _, rfl, fun j hj _ => absurd hj (Nat.not_lt_zero _)⟩
  have HS0 := Hid.mk hs0
  have HWq := Hid.mk hW0
  have a0c := cell_of_row _ _ 3 _ _ _ hbx0
  clear hs0 hb0 hbx0 hrs0 hot0 hW0 a0c
  go_enter Try.func49, Try.ntmps49
  go_wp2_with fail
  try rw [HWq.out]
  clear HWq
  go_loopw [20] (fun i wr => ∃ k : Nat, k ≤ NK ∧ i = .int .i64 (k : Int) ∧ Hid (∃ no nc fo fc mo mc fs, FdI w W0 h #[.int .i64 6, .string nm, .string tx, .slice io NK icap, .slice ko NK kcap] (ks.map .string) (its.map (nrN h)) k k k (.slice no k nc) (.slice fo k fc) (.slice mo k mc) fs wr)) (fun i _ => NK - (intOf i).toNat)
  case atStart => exact ⟨0, Nat.zero_le _, rfl, ⟨none, 0, none, 0, none, 0, [], HG0.out⟩⟩
  case round =>
    clear HG0
    obtain ⟨k, hk, rfl, HQ⟩ := hrel
    obtain ⟨no, nc, fo, fc, mo, mc, fs, hG⟩ := HQ.out
    have HG := Hid.mk hG
    clear HQ
    have hlew : W0.heap.size ≤ wr.heap.size := hG.le
    by_cases hlt : k < NK
    · have hl1 : (k : Int) < (NK : Int) := by omega
      have hkl : k < ks.length := by rw [HKK.out]; exact hlt
      have hil : k < its.length := by rw [HNN.out]; exact hlt
      obtain ⟨kb, koff, hko, hkbl, hkr⟩ := (HKI.out.keep hG.below).row (by omega)
      subst hko
      obtain ⟨ib, ioff, hio, hibl, hir⟩ := (HI.out.keep hG.below).row (by omega)
      subst hio
      have ck := hkr k hkl
      obtain ⟨Y, hY⟩ : ∃ Y, ks.getD k .empty = Y := ⟨_, rfl⟩
      have hYk : (ks.map Value.string)[k]? = some (.string Y) := by rw [← hY, List.getD_eq_getElem?_getD, List.getElem?_map, List.getElem?_eq_getElem hkl]; rfl
      rw [hY] at ck
      have b0 : wr.cell? ⟨w.heap.size + 1 + 1, 0, none⟩ = some (.slice no k nc) := cell_of_row _ _ 0 _ _ _ hG.out
      have bk : wr.cell? ⟨w.heap.size, 4, none⟩ = _ := cell_of_row _ _ 4 _ _ _ hG.box
      have hGn := hG.nms
      have HYk := Hid.mk hYk
      clear hkr hY hYk hG hir
      go_wp2_with (at_builtin; refine wpList_append_own_at _ (by rfl) _ _ 23 (by rfl) W0.heap.size 9 j0 (.string ⟨#[]⟩) 1 16 Try.underlying23 hj0 hy0 hy1 hy2 rfl (by decide) _ _ _ (by rfl) (hGn.alloc _) ⟨wr.heap.size, 0, none⟩ 1 1 [.string Y] (by rfl) (by rfl) (World.news_of_block (cs := #[.string Y]) (fr := (0, 0)) (heap_alloc_new wr _)) (by simp [Value.oneCell']) (by unfold maxLen; omega) (by omega) (by simp; omega) ?_)
      intro v' w4 hown4 hgrow4 hnil4 hat4
      obtain ⟨g1, nc1, rfl⟩ := own_succF hown4
      obtain ⟨hG5, ho4⟩ := FdI.up1 HYk.out HG.out hgrow4 hown4 (by simpa using hat4)
      have b44 : w4.cell? ⟨w.heap.size + 1 + 1, 0, none⟩ = some (.slice no k nc) := cell_of_row _ _ 0 _ _ _ ho4
      have f44 : w4.frozen? ⟨w.heap.size + 1 + 1, 0, none⟩ = false := frozen_row9 (j := 0) ho4
      obtain ⟨W5, hW5⟩ : ∃ W5, w4.setCell ⟨w.heap.size + 1 + 1, 0, none⟩ (.slice (some ⟨g1, 0, none⟩) (k + 1) nc1) = W5 := ⟨_, rfl⟩
      have HG5 : Hid (FdI w W0 h #[.int .i64 6, .string nm, .string tx, .slice (some ⟨ib, ioff, none⟩) NK icap, .slice (some ⟨kb, koff, none⟩) NK kcap] (ks.map .string) (its.map (nrN h)) (k + 1) k k (.slice (some ⟨g1, 0, none⟩) (k + 1) nc1) (.slice fo k fc) (.slice mo k mc) fs W5) := by show FdI _ _ _ _ _ _ _ _ _ _ _ _ _ _; rw [← hW5]; exact hG5
      have HWq := Hid.mk hW5
      clear hG5 ho4 hown4 hgrow4 hnil4 hat4 b0 bk ck hW5 HG HYk hGn
      go_wp2_with fail
      try rw [HWq.out]
      clear HWq b44 f44
      obtain ⟨ib2, ioff2, hio2, hibl2, hir⟩ := HI.out.row (by omega)
      simp only [Option.some.injEq, Addr.mk.injEq, and_true] at hio2
      obtain ⟨rfl, rfl⟩ := hio2
      obtain ⟨v0, v1, v2, v3, v4, ⟨c0, c1, c2, c3, c4⟩, ht⟩ := hir k hil
      obtain ⟨ik, inm, itx, iio, iN, iicap, iko, iK, ikcap, rfl, rfl, rfl, rfl, rfl⟩ := ht.shape
      have HSS : Hid (∀ u, Below w.heap.size w u → u.heap[w.heap.size]? = some (.cells #[.int .i64 6, .string nm, .string tx, .slice (some ⟨ib, ioff, none⟩) NK icap, .slice (some ⟨kb, koff, none⟩) NK kcap] 25 (0, 0)) → u.cell? ⟨w.heap.size, 3, none⟩ = some (.slice (some ⟨ib, ioff, none⟩) NK icap) ∧ u.cell? ⟨ib, ioff + k * 5, none⟩ = some (.int .i64 ik) ∧ u.cell? ⟨ib, ioff + k * 5 + 1, none⟩ = some (.string inm) ∧ u.cell? ⟨ib, ioff + k * 5 + 2, none⟩ = some (.string itx) ∧ u.cell? ⟨ib, ioff + k * 5 + 3, none⟩ = some (.slice iio iN iicap) ∧ u.cell? ⟨ib, ioff + k * 5 + 4, none⟩ = some (.slice iko iK ikcap)) := fun u hu hb => ⟨cell_of_row _ _ 3 _ _ _ hb, (hu.cell (p := ⟨_, _, _⟩) hibl2).trans c0, (hu.cell (p := ⟨_, _, _⟩) hibl2).trans c1, (hu.cell (p := ⟨_, _, _⟩) hibl2).trans c2, (hu.cell (p := ⟨_, _, _⟩) hibl2).trans c3, (hu.cell (p := ⟨_, _, _⟩) hibl2).trans c4⟩
      have HN5 := Hid.mk (fun u (hu : Below w.heap.size w u) => HIh.out hv its[k] _ u (ht.keep hu) (HFm.out its[k] (List.getElem_mem _)))
      have HTk : Hid ((its.map (nrN h))[k]? = some (nrN h its[k])) := by show _ = _; rw [List.getElem?_map, List.getElem?_eq_getElem hil]; rfl
      clear hir ht c0 c1 c2 c3 c4 hibl2
      have HD := Hid.mk ((Below.refl W5.heap.size W5).drew)
      have HGd := Hid.mk (HG5.out.keep HD.out)
      refine wp_region_held_drew (S := fun u => u.cell? ⟨w.heap.size, 3, none⟩ = some (.slice (some ⟨ib, ioff, none⟩) NK icap) ∧ u.cell? ⟨ib, ioff + k * 5, none⟩ = some (.int .i64 ik) ∧ u.cell? ⟨ib, ioff + k * 5 + 1, none⟩ = some (.string inm) ∧ u.cell? ⟨ib, ioff + k * 5 + 2, none⟩ = some (.string itx) ∧ u.cell? ⟨ib, ioff + k * 5 + 3, none⟩ = some (.slice iio iN iicap) ∧ u.cell? ⟨ib, ioff + k * 5 + 4, none⟩ = some (.slice iko iK ikcap)) (by kernel_rfl) (HSS.out _ HGd.out.below HGd.out.box) (fun hHeld => ?_)
      refine wpAnyH_take (i := 0) (oi := _) (v := .pointer (some ⟨w.heap.size + 1 + 1, 1, none⟩)) rfl (by kernel_rfl) (by kernel_rfl) (by kernel_rfl) (fun _ _ _ h => h) (Or.inl ⟨by rfl, ?_⟩) (by assumption) ?_
      · intro w hSw
        go_simp
      try simp only [Act.put, List.getElem_toArray, List.getElem_cons_succ, List.getElem_cons_zero, List.setIfInBounds_toArray, List.set_cons_zero, List.set_cons_succ]
      refine wpAnyH_take (i := 2) (oi := _) (v := .pointer (some ⟨w.heap.size, 3, none⟩)) rfl (by kernel_rfl) (by kernel_rfl) (by kernel_rfl) (fun _ _ _ h => h) (Or.inl ⟨by rfl, ?_⟩) (by assumption) ?_
      · intro w hSw
        go_simp
      try simp only [Act.put, List.getElem_toArray, List.getElem_cons_succ, List.getElem_cons_zero, List.setIfInBounds_toArray, List.set_cons_zero, List.set_cons_succ]
      refine wpAnyH_take (i := 3) (oi := _) (v := .slice (some ⟨ib, ioff, none⟩) NK icap) rfl (by kernel_rfl) (by kernel_rfl) (by kernel_rfl) (fun _ _ _ h => h) (Or.inl ⟨by rfl, ?_⟩) (by assumption) ?_
      · intro w hSw
        go_simp
      try simp only [Act.put, List.getElem_toArray, List.getElem_cons_succ, List.getElem_cons_zero, List.setIfInBounds_toArray, List.set_cons_zero, List.set_cons_succ]
      refine wpAnyH_take (i := 4) (oi := _) (v := .int .i64 (k : Int)) rfl (by kernel_rfl) (by kernel_rfl) (by kernel_rfl) (fun _ _ _ h => h) (Or.inl ⟨by rfl, ?_⟩) (by assumption) ?_
      · intro w hSw
        go_simp
      try simp only [Act.put, List.getElem_toArray, List.getElem_cons_succ, List.getElem_cons_zero, List.setIfInBounds_toArray, List.set_cons_zero, List.set_cons_succ]
      refine wpAnyH_take (i := 5) (oi := _) (v := .pointer (some ⟨ib, ioff + k * 5, none⟩)) rfl (by kernel_rfl) (by kernel_rfl) (by kernel_rfl) (fun _ _ _ h => h) (Or.inl ⟨by rfl, ?_⟩) (by assumption) ?_
      · intro w hSw
        go_simp
      try simp only [Act.put, List.getElem_toArray, List.getElem_cons_succ, List.getElem_cons_zero, List.setIfInBounds_toArray, List.set_cons_zero, List.set_cons_succ]
      refine wpAnyH_take (i := 6) (oi := _) (v := .agg #[.int .i64 ik, .string inm, .string itx, .slice iio iN iicap, .slice iko iK ikcap]) rfl (by kernel_rfl) (by kernel_rfl) (by kernel_rfl) (fun _ _ _ h => h) (Or.inl ⟨by rfl, ?_⟩) (by assumption) ?_
      · intro w hSw
        go_simp
      try simp only [Act.put, List.getElem_toArray, List.getElem_cons_succ, List.getElem_cons_zero, List.setIfInBounds_toArray, List.set_cons_zero, List.set_cons_succ]
      refine wpAnyH_take (i := 7) (oi := _) (v := .int .i64 H) rfl (by kernel_rfl) (by kernel_rfl) (by kernel_rfl) (fun _ _ _ h => h) (Or.inl ⟨by rfl, ?_⟩) (by assumption) ?_
      · intro w hSw
        go_simp
      try simp only [Act.put, List.getElem_toArray, List.getElem_cons_succ, List.getElem_cons_zero, List.setIfInBounds_toArray, List.set_cons_zero, List.set_cons_succ]
      refine wpAnyH_take (i := 8) (oi := _) (v := .int .i64 (h : Int)) rfl (by kernel_rfl) (by kernel_rfl) (by kernel_rfl) (fun _ _ _ h => h) (Or.inl ⟨by rfl, ?_⟩) (by assumption) ?_
      · intro w hSw
        go_simp
      try simp only [Act.put, List.getElem_toArray, List.getElem_cons_succ, List.getElem_cons_zero, List.setIfInBounds_toArray, List.set_cons_zero, List.set_cons_succ]
      refine wpAnyH_ready (rs := [1, 9]) (by kernel_rfl) (by simp) ?_
      have HO1 : Hid (∀ u : World, u.heap[w.heap.size + 2]? = some (.cells #[.slice (some ⟨g1, 0, none⟩) (k + 1) nc1, .slice fo k fc, .slice mo k mc, .bool false, .bool false, .bool false, .bool false, .slice none 0 0, .bool false, .slice none 0 0, .slice none 0 0, .slice none 0 0] 55 (0, 0)) → u.cell? ⟨w.heap.size + 1 + 1, 1, none⟩ = some (.slice fo k fc)) := fun u hb => cell_of_row _ _ 1 _ _ _ hb
      refine AllReadyH.cons (o := _) rfl (fun K hK => ?_) ?_
      · have e1 := HO1.out _ HGd.out.out
        go_simp
        clear e1
        refine hK.out _ _ (HSS.out _ HGd.out.below HGd.out.box) (fun hHeld => ?_)
        clear hK K
        try simp only [Act.put, List.getElem_toArray, List.getElem_cons_succ, List.getElem_cons_zero, List.setIfInBounds_toArray, List.set_cons_zero, List.set_cons_succ]
        refine wpAnyH_ready (rs := [9]) (by kernel_rfl) (by simp) ?_
        refine AllReadyH.cons (o := _) rfl (fun K hK => ?_) AllReadyH.nil
        go_simp
        go_at_call 21
        refine (HN5.out _ HGd.out.below).mono ?_
        rintro e w6 ⟨⟨v6, rfl, hF6⟩, hq⟩
        have HG6 := Hid.mk (HGd.out.keep hq)
        have HF6 := Hid.mk ((hF6.out.mono HD.out.size).int)
        have hF2 := hF6.out.here
        obtain ⟨ta, tb, tc, td, ⟨teo, ten, tec⟩, tf, ⟨tgo, tgn, tgc⟩, ⟨tio, tinn, tic⟩, ⟨tjo, tjn, tjc⟩, esht⟩ := inT_shape hF2
        simp only [Value.agg.injEq, Array.mk.injEq, List.cons.injEq, and_true] at esht
        obtain ⟨rfl, rfl, rfl, rfl, rfl, rfl, rfl, rfl, rfl⟩ := esht
        clear hF2 hF6 hq
        go_wp2_with fail
        refine hK.out _ _ (HSS.out _ HG6.out.below HG6.out.box) (fun hHeld => ?_)
        clear hK K
        try simp only [Act.put, List.getElem_toArray, List.getElem_cons_succ, List.getElem_cons_zero, List.setIfInBounds_toArray, List.set_cons_zero, List.set_cons_succ]
        refine wpAnyH_ready (rs := [10]) (by kernel_rfl) (by simp) ?_
        refine AllReadyH.cons (o := _) rfl (fun K hK => ?_) AllReadyH.nil
        have HG7 := Hid.mk (HG6.out.keep (below1 w6 (.cells #[.bool ta, .bool tb, .bool tc, .bool td, .slice teo ten tec, .bool tf, .slice tgo tgn tgc, .slice tio tinn tic, .slice tjo tjn tjc] 33)))
        go_simp
        refine hK.out _ _ (HSS.out _ HG7.out.below HG7.out.box) (fun hHeld => ?_)
        clear hK K
        try simp only [Act.put, List.getElem_toArray, List.getElem_cons_succ, List.getElem_cons_zero, List.setIfInBounds_toArray, List.set_cons_zero, List.set_cons_succ]
        refine wpAnyH_ready (rs := [11]) (by kernel_rfl) (by simp) ?_
        refine AllReadyH.cons (o := _) rfl (fun K hK => ?_) AllReadyH.nil
        refine step_append_lies _ (by rfl) _ _ _ (by rfl) W0.heap.size 33 i0 (.agg #[.bool false, .bool false, .bool false, .bool false, .slice none 0 0, .bool false, .slice none 0 0, .slice none 0 0, .slice none 0 0]) 9 112 Try.underlying52 hi0 hz0 hz1 hz2 rfl (by omega) (.slice fo k fc) k _ (by rfl) (HG6.out.fds.alloc _) ⟨w6.heap.size, 0, none⟩ 1 1 [.bool ta, .bool tb, .bool tc, .bool td, .slice teo ten tec, .bool tf, .slice tgo tgn tgc, .slice tio tinn tic, .slice tjo tjn tjc] (by rfl) (by rfl) (World.news_of_block (cs := #[.bool ta, .bool tb, .bool tc, .bool td, .slice teo ten tec, .bool tf, .slice tgo tgn tgc, .slice tio tinn tic, .slice tjo tjn tjc]) (t := 33) (fr := (0, 0)) (heap_alloc_new w6 _)) (by simp [Value.oneCell']) (by omega) (by unfold maxLen; omega) (by omega) (by have := HG6.out.le; simp; omega) (w6.heap.size + 1) (by simp) ?_
        intro g2 fc2 w7 hown7 hgrow7 hat7 hlt7
        obtain ⟨hG8, ho7⟩ := FdI.up2 HTk.out HG5.out.le HF6.out (fun g e => .inl (by obtain ⟨_, q, _⟩ := own_cellsF HG5.out.nms e; exact lt_of_row q)) (fun g e => .inl (by obtain ⟨_, q, _⟩ := own_cellsF HG5.out.fds e; exact lt_of_row q)) (fun g e => .inl (by obtain ⟨_, q, _⟩ := own_cellsF HG5.out.mst e; exact lt_of_row q)) HG6.out hgrow7 hown7 (hat7.imp (fun e => e.symm) (fun e => by simp [Value.ownBlock, e]))
        have hb7 : Below w.heap.size w w7 := (HG6.out.below.alloc HG6.out.below.size _).grown hgrow7 (by have := HG6.out.below.size; simp; omega) (fun r e => by obtain ⟨_, _, h2⟩ := own_cellsF HG6.out.fds e; have := HG6.out.lo; omega)
        have bx7 : w7.heap[w.heap.size]? = some (.cells #[.int .i64 6, .string nm, .string tx, .slice (some ⟨ib, ioff, none⟩) NK icap, .slice (some ⟨kb, koff, none⟩) NK kcap] 25 (0, 0)) := (Below.heap_setCell _ _ _ _ (by show w.heap.size ≠ w.heap.size + 2; omega)).symm.trans hG8.box
        have b77 : w7.cell? ⟨w.heap.size + 1 + 1, 1, none⟩ = some (.slice fo k fc) := cell_of_row _ _ 1 _ _ _ ho7
        have f77 : w7.frozen? ⟨w.heap.size + 1 + 1, 1, none⟩ = false := frozen_row9 (j := 1) ho7
        obtain ⟨W8, hW8⟩ : ∃ W8, w7.setCell ⟨w.heap.size + 1 + 1, 1, none⟩ (.slice (some ⟨g2, 0, none⟩) (k + 1) fc2) = W8 := ⟨_, rfl⟩
        have HG8 : Hid (FdI w W0 h #[.int .i64 6, .string nm, .string tx, .slice (some ⟨ib, ioff, none⟩) NK icap, .slice (some ⟨kb, koff, none⟩) NK kcap] (ks.map .string) (its.map (nrN h)) (k + 1) (k + 1) k (.slice (some ⟨g1, 0, none⟩) (k + 1) nc1) (.slice (some ⟨g2, 0, none⟩) (k + 1) fc2) (.slice mo k mc) (fs ++ [[.bool ta, .bool tb, .bool tc, .bool td, .slice teo ten tec, .bool tf, .slice tgo tgn tgc, .slice tio tinn tic, .slice tjo tjn tjc]]) W8) := by show FdI _ _ _ _ _ _ _ _ _ _ _ _ _ _; rw [← hW8]; exact hG8
        have HWq := Hid.mk hW8
        refine hK.out _ _ (HSS.out _ hb7 bx7) (fun hHeld => ?_)
        clear hK K hG8 ho7 hown7 hgrow7 hat7 hlt7 hW8 hb7 bx7
        try simp only [Act.put, List.getElem_toArray, List.getElem_cons_succ, List.getElem_cons_zero, List.setIfInBounds_toArray, List.set_cons_zero, List.set_cons_succ]
        refine wpAnyH_take (i := 12) (oi := _) (v := .pointer (some ⟨w.heap.size + 1 + 1, 1, none⟩)) rfl (by kernel_rfl) (by kernel_rfl) (by kernel_rfl) (fun _ _ _ h => h) (Or.inl ⟨by rfl, ?_⟩) (by assumption) ?_
        · intro w hSw
          go_simp
        try simp only [Act.put, List.getElem_toArray, List.getElem_cons_succ, List.getElem_cons_zero, List.setIfInBounds_toArray, List.set_cons_zero, List.set_cons_succ]
        refine wpAnyH_ready (rs := [13]) (by kernel_rfl) (by simp) ?_
        refine AllReadyH.cons (o := _) rfl (fun K hK => ?_) AllReadyH.nil
        go_simp
        try rw [HWq.out]
        clear HWq b77 f77
        refine hK.out _ _ (HSS.out _ HG8.out.below HG8.out.box) (fun hHeld => ?_)
        clear hK K
        try simp only [Act.put, List.getElem_toArray, List.getElem_cons_succ, List.getElem_cons_zero, List.setIfInBounds_toArray, List.set_cons_zero, List.set_cons_succ]
        refine wpAnyH_done (by kernel_rfl) ?_ _
        try simp only [Act.put, List.getElem_toArray, List.getElem_cons_succ, List.getElem_cons_zero, List.setIfInBounds_toArray, List.set_cons_zero, List.set_cons_succ]
        clear hHeld HSS HN5 HTk HG5 HD HGd HG6 HF6
        have hG8 := HG8.out
        have b2 : W8.cell? ⟨w.heap.size + 1 + 1, 2, none⟩ = some (.slice mo k mc) := cell_of_row _ _ 2 _ _ _ hG8.out
        have hGm := hG8.mst
        have hle8 : W0.heap.size ≤ W8.heap.size := hG8.le
        clear hG8
        go_wp2_with (at_builtin; refine wpList_append_own_at _ (by rfl) _ _ 53 (by rfl) W0.heap.size 4 l0 (.bool false) 1 1 Try.underlying53 hl0 hx0 hx1 hx2 rfl (by decide) _ _ _ (by rfl) (hGm.alloc _) ⟨W8.heap.size, 0, none⟩ 1 1 [.bool true] (by rfl) (by rfl) (World.news_of_block (cs := #[.bool true]) (fr := (0, 0)) (heap_alloc_new W8 _)) (by simp [Value.oneCell']) (by unfold maxLen; omega) (by omega) (by simp; omega) ?_)
        intro v' w9 hown9 hgrow9 hnil9 hat9
        obtain ⟨g3, mc3, rfl⟩ := own_succF hown9
        obtain ⟨hGa, ho9⟩ := FdI.up3 HG8.out hgrow9 hown9 (by simpa using hat9)
        have b99 : w9.cell? ⟨w.heap.size + 1 + 1, 2, none⟩ = some (.slice mo k mc) := cell_of_row _ _ 2 _ _ _ ho9
        have f99 : w9.frozen? ⟨w.heap.size + 1 + 1, 2, none⟩ = false := frozen_row9 (j := 2) ho9
        have HGa := Hid.mk hGa
        clear hGa ho9 hown9 hgrow9 hnil9 hat9 b2 hGm HG8
        go_wp2_with fail
        go_roundw
        case rel => exact ⟨k + 1, hlt, by go_num, ⟨_, _, _, _, _, _, _, HGa.out⟩⟩
        case measure => simp [intOf]; omega
      refine AllReadyH.cons (o := _) rfl (fun K hK => ?_) AllReadyH.nil
      go_simp
      go_at_call 21
      refine (HN5.out _ HGd.out.below).mono ?_
      rintro e w6 ⟨⟨v6, rfl, hF6⟩, hq⟩
      have HG6 := Hid.mk (HGd.out.keep hq)
      have HF6 := Hid.mk ((hF6.out.mono HD.out.size).int)
      have hF2 := hF6.out.here
      obtain ⟨ta, tb, tc, td, ⟨teo, ten, tec⟩, tf, ⟨tgo, tgn, tgc⟩, ⟨tio, tinn, tic⟩, ⟨tjo, tjn, tjc⟩, esht⟩ := inT_shape hF2
      simp only [Value.agg.injEq, Array.mk.injEq, List.cons.injEq, and_true] at esht
      obtain ⟨rfl, rfl, rfl, rfl, rfl, rfl, rfl, rfl, rfl⟩ := esht
      clear hF2 hF6 hq
      go_wp2_with fail
      refine hK.out _ _ (HSS.out _ HG6.out.below HG6.out.box) (fun hHeld => ?_)
      clear hK K
      try simp only [Act.put, List.getElem_toArray, List.getElem_cons_succ, List.getElem_cons_zero, List.setIfInBounds_toArray, List.set_cons_zero, List.set_cons_succ]
      refine wpAnyH_ready (rs := [1, 10]) (by kernel_rfl) (by simp) ?_
      refine AllReadyH.cons (o := _) rfl (fun K hK => ?_) ?_
      · have e1 := HO1.out _ HG6.out.out
        go_simp
        clear e1
        refine hK.out _ _ (HSS.out _ HG6.out.below HG6.out.box) (fun hHeld => ?_)
        clear hK K
        try simp only [Act.put, List.getElem_toArray, List.getElem_cons_succ, List.getElem_cons_zero, List.setIfInBounds_toArray, List.set_cons_zero, List.set_cons_succ]
        refine wpAnyH_ready (rs := [10]) (by kernel_rfl) (by simp) ?_
        refine AllReadyH.cons (o := _) rfl (fun K hK => ?_) AllReadyH.nil
        have HG7 := Hid.mk (HG6.out.keep (below1 w6 (.cells #[.bool ta, .bool tb, .bool tc, .bool td, .slice teo ten tec, .bool tf, .slice tgo tgn tgc, .slice tio tinn tic, .slice tjo tjn tjc] 33)))
        go_simp
        refine hK.out _ _ (HSS.out _ HG7.out.below HG7.out.box) (fun hHeld => ?_)
        clear hK K
        try simp only [Act.put, List.getElem_toArray, List.getElem_cons_succ, List.getElem_cons_zero, List.setIfInBounds_toArray, List.set_cons_zero, List.set_cons_succ]
        refine wpAnyH_ready (rs := [11]) (by kernel_rfl) (by simp) ?_
        refine AllReadyH.cons (o := _) rfl (fun K hK => ?_) AllReadyH.nil
        refine step_append_lies _ (by rfl) _ _ _ (by rfl) W0.heap.size 33 i0 (.agg #[.bool false, .bool false, .bool false, .bool false, .slice none 0 0, .bool false, .slice none 0 0, .slice none 0 0, .slice none 0 0]) 9 112 Try.underlying52 hi0 hz0 hz1 hz2 rfl (by omega) (.slice fo k fc) k _ (by rfl) (HG6.out.fds.alloc _) ⟨w6.heap.size, 0, none⟩ 1 1 [.bool ta, .bool tb, .bool tc, .bool td, .slice teo ten tec, .bool tf, .slice tgo tgn tgc, .slice tio tinn tic, .slice tjo tjn tjc] (by rfl) (by rfl) (World.news_of_block (cs := #[.bool ta, .bool tb, .bool tc, .bool td, .slice teo ten tec, .bool tf, .slice tgo tgn tgc, .slice tio tinn tic, .slice tjo tjn tjc]) (t := 33) (fr := (0, 0)) (heap_alloc_new w6 _)) (by simp [Value.oneCell']) (by omega) (by unfold maxLen; omega) (by omega) (by have := HG6.out.le; simp; omega) (w6.heap.size + 1) (by simp) ?_
        intro g2 fc2 w7 hown7 hgrow7 hat7 hlt7
        obtain ⟨hG8, ho7⟩ := FdI.up2 HTk.out HG5.out.le HF6.out (fun g e => .inl (by obtain ⟨_, q, _⟩ := own_cellsF HG5.out.nms e; exact lt_of_row q)) (fun g e => .inl (by obtain ⟨_, q, _⟩ := own_cellsF HG5.out.fds e; exact lt_of_row q)) (fun g e => .inl (by obtain ⟨_, q, _⟩ := own_cellsF HG5.out.mst e; exact lt_of_row q)) HG6.out hgrow7 hown7 (hat7.imp (fun e => e.symm) (fun e => by simp [Value.ownBlock, e]))
        have hb7 : Below w.heap.size w w7 := (HG6.out.below.alloc HG6.out.below.size _).grown hgrow7 (by have := HG6.out.below.size; simp; omega) (fun r e => by obtain ⟨_, _, h2⟩ := own_cellsF HG6.out.fds e; have := HG6.out.lo; omega)
        have bx7 : w7.heap[w.heap.size]? = some (.cells #[.int .i64 6, .string nm, .string tx, .slice (some ⟨ib, ioff, none⟩) NK icap, .slice (some ⟨kb, koff, none⟩) NK kcap] 25 (0, 0)) := (Below.heap_setCell _ _ _ _ (by show w.heap.size ≠ w.heap.size + 2; omega)).symm.trans hG8.box
        have b77 : w7.cell? ⟨w.heap.size + 1 + 1, 1, none⟩ = some (.slice fo k fc) := cell_of_row _ _ 1 _ _ _ ho7
        have f77 : w7.frozen? ⟨w.heap.size + 1 + 1, 1, none⟩ = false := frozen_row9 (j := 1) ho7
        obtain ⟨W8, hW8⟩ : ∃ W8, w7.setCell ⟨w.heap.size + 1 + 1, 1, none⟩ (.slice (some ⟨g2, 0, none⟩) (k + 1) fc2) = W8 := ⟨_, rfl⟩
        have HG8 : Hid (FdI w W0 h #[.int .i64 6, .string nm, .string tx, .slice (some ⟨ib, ioff, none⟩) NK icap, .slice (some ⟨kb, koff, none⟩) NK kcap] (ks.map .string) (its.map (nrN h)) (k + 1) (k + 1) k (.slice (some ⟨g1, 0, none⟩) (k + 1) nc1) (.slice (some ⟨g2, 0, none⟩) (k + 1) fc2) (.slice mo k mc) (fs ++ [[.bool ta, .bool tb, .bool tc, .bool td, .slice teo ten tec, .bool tf, .slice tgo tgn tgc, .slice tio tinn tic, .slice tjo tjn tjc]]) W8) := by show FdI _ _ _ _ _ _ _ _ _ _ _ _ _ _; rw [← hW8]; exact hG8
        have HWq := Hid.mk hW8
        refine hK.out _ _ (HSS.out _ hb7 bx7) (fun hHeld => ?_)
        clear hK K hG8 ho7 hown7 hgrow7 hat7 hlt7 hW8 hb7 bx7
        try simp only [Act.put, List.getElem_toArray, List.getElem_cons_succ, List.getElem_cons_zero, List.setIfInBounds_toArray, List.set_cons_zero, List.set_cons_succ]
        refine wpAnyH_take (i := 12) (oi := _) (v := .pointer (some ⟨w.heap.size + 1 + 1, 1, none⟩)) rfl (by kernel_rfl) (by kernel_rfl) (by kernel_rfl) (fun _ _ _ h => h) (Or.inl ⟨by rfl, ?_⟩) (by assumption) ?_
        · intro w hSw
          go_simp
        try simp only [Act.put, List.getElem_toArray, List.getElem_cons_succ, List.getElem_cons_zero, List.setIfInBounds_toArray, List.set_cons_zero, List.set_cons_succ]
        refine wpAnyH_ready (rs := [13]) (by kernel_rfl) (by simp) ?_
        refine AllReadyH.cons (o := _) rfl (fun K hK => ?_) AllReadyH.nil
        go_simp
        try rw [HWq.out]
        clear HWq b77 f77
        refine hK.out _ _ (HSS.out _ HG8.out.below HG8.out.box) (fun hHeld => ?_)
        clear hK K
        try simp only [Act.put, List.getElem_toArray, List.getElem_cons_succ, List.getElem_cons_zero, List.setIfInBounds_toArray, List.set_cons_zero, List.set_cons_succ]
        refine wpAnyH_done (by kernel_rfl) ?_ _
        try simp only [Act.put, List.getElem_toArray, List.getElem_cons_succ, List.getElem_cons_zero, List.setIfInBounds_toArray, List.set_cons_zero, List.set_cons_succ]
        clear hHeld HSS HN5 HTk HG5 HD HGd HG6 HF6
        have hG8 := HG8.out
        have b2 : W8.cell? ⟨w.heap.size + 1 + 1, 2, none⟩ = some (.slice mo k mc) := cell_of_row _ _ 2 _ _ _ hG8.out
        have hGm := hG8.mst
        have hle8 : W0.heap.size ≤ W8.heap.size := hG8.le
        clear hG8
        go_wp2_with (at_builtin; refine wpList_append_own_at _ (by rfl) _ _ 53 (by rfl) W0.heap.size 4 l0 (.bool false) 1 1 Try.underlying53 hl0 hx0 hx1 hx2 rfl (by decide) _ _ _ (by rfl) (hGm.alloc _) ⟨W8.heap.size, 0, none⟩ 1 1 [.bool true] (by rfl) (by rfl) (World.news_of_block (cs := #[.bool true]) (fr := (0, 0)) (heap_alloc_new W8 _)) (by simp [Value.oneCell']) (by unfold maxLen; omega) (by omega) (by simp; omega) ?_)
        intro v' w9 hown9 hgrow9 hnil9 hat9
        obtain ⟨g3, mc3, rfl⟩ := own_succF hown9
        obtain ⟨hGa, ho9⟩ := FdI.up3 HG8.out hgrow9 hown9 (by simpa using hat9)
        have b99 : w9.cell? ⟨w.heap.size + 1 + 1, 2, none⟩ = some (.slice mo k mc) := cell_of_row _ _ 2 _ _ _ ho9
        have f99 : w9.frozen? ⟨w.heap.size + 1 + 1, 2, none⟩ = false := frozen_row9 (j := 2) ho9
        have HGa := Hid.mk hGa
        clear hGa ho9 hown9 hgrow9 hnil9 hat9 b2 hGm HG8
        go_wp2_with fail
        go_roundw
        case rel => exact ⟨k + 1, hlt, by go_num, ⟨_, _, _, _, _, _, _, HGa.out⟩⟩
        case measure => simp [intOf]; omega
      refine AllReadyH.cons (o := _) rfl (fun K hK => ?_) AllReadyH.nil
      have HG7 := Hid.mk (HG6.out.keep (below1 w6 (.cells #[.bool ta, .bool tb, .bool tc, .bool td, .slice teo ten tec, .bool tf, .slice tgo tgn tgc, .slice tio tinn tic, .slice tjo tjn tjc] 33)))
      go_simp
      refine hK.out _ _ (HSS.out _ HG7.out.below HG7.out.box) (fun hHeld => ?_)
      clear hK K
      try simp only [Act.put, List.getElem_toArray, List.getElem_cons_succ, List.getElem_cons_zero, List.setIfInBounds_toArray, List.set_cons_zero, List.set_cons_succ]
      refine wpAnyH_ready (rs := [1]) (by kernel_rfl) (by simp) ?_
      refine AllReadyH.cons (o := _) rfl (fun K hK => ?_) AllReadyH.nil
      have e1 := HO1.out _ HG7.out.out
      go_simp
      clear e1
      refine hK.out _ _ (HSS.out _ HG7.out.below HG7.out.box) (fun hHeld => ?_)
      clear hK K
      try simp only [Act.put, List.getElem_toArray, List.getElem_cons_succ, List.getElem_cons_zero, List.setIfInBounds_toArray, List.set_cons_zero, List.set_cons_succ]
      refine wpAnyH_ready (rs := [11]) (by kernel_rfl) (by simp) ?_
      refine AllReadyH.cons (o := _) rfl (fun K hK => ?_) AllReadyH.nil
      refine step_append_lies _ (by rfl) _ _ _ (by rfl) W0.heap.size 33 i0 (.agg #[.bool false, .bool false, .bool false, .bool false, .slice none 0 0, .bool false, .slice none 0 0, .slice none 0 0, .slice none 0 0]) 9 112 Try.underlying52 hi0 hz0 hz1 hz2 rfl (by omega) (.slice fo k fc) k _ (by rfl) (HG6.out.fds.alloc _) ⟨w6.heap.size, 0, none⟩ 1 1 [.bool ta, .bool tb, .bool tc, .bool td, .slice teo ten tec, .bool tf, .slice tgo tgn tgc, .slice tio tinn tic, .slice tjo tjn tjc] (by rfl) (by rfl) (World.news_of_block (cs := #[.bool ta, .bool tb, .bool tc, .bool td, .slice teo ten tec, .bool tf, .slice tgo tgn tgc, .slice tio tinn tic, .slice tjo tjn tjc]) (t := 33) (fr := (0, 0)) (heap_alloc_new w6 _)) (by simp [Value.oneCell']) (by omega) (by unfold maxLen; omega) (by omega) (by have := HG6.out.le; simp; omega) (w6.heap.size + 1) (by simp) ?_
      intro g2 fc2 w7 hown7 hgrow7 hat7 hlt7
      obtain ⟨hG8, ho7⟩ := FdI.up2 HTk.out HG5.out.le HF6.out (fun g e => .inl (by obtain ⟨_, q, _⟩ := own_cellsF HG5.out.nms e; exact lt_of_row q)) (fun g e => .inl (by obtain ⟨_, q, _⟩ := own_cellsF HG5.out.fds e; exact lt_of_row q)) (fun g e => .inl (by obtain ⟨_, q, _⟩ := own_cellsF HG5.out.mst e; exact lt_of_row q)) HG6.out hgrow7 hown7 (hat7.imp (fun e => e.symm) (fun e => by simp [Value.ownBlock, e]))
      have hb7 : Below w.heap.size w w7 := (HG6.out.below.alloc HG6.out.below.size _).grown hgrow7 (by have := HG6.out.below.size; simp; omega) (fun r e => by obtain ⟨_, _, h2⟩ := own_cellsF HG6.out.fds e; have := HG6.out.lo; omega)
      have bx7 : w7.heap[w.heap.size]? = some (.cells #[.int .i64 6, .string nm, .string tx, .slice (some ⟨ib, ioff, none⟩) NK icap, .slice (some ⟨kb, koff, none⟩) NK kcap] 25 (0, 0)) := (Below.heap_setCell _ _ _ _ (by show w.heap.size ≠ w.heap.size + 2; omega)).symm.trans hG8.box
      have b77 : w7.cell? ⟨w.heap.size + 1 + 1, 1, none⟩ = some (.slice fo k fc) := cell_of_row _ _ 1 _ _ _ ho7
      have f77 : w7.frozen? ⟨w.heap.size + 1 + 1, 1, none⟩ = false := frozen_row9 (j := 1) ho7
      obtain ⟨W8, hW8⟩ : ∃ W8, w7.setCell ⟨w.heap.size + 1 + 1, 1, none⟩ (.slice (some ⟨g2, 0, none⟩) (k + 1) fc2) = W8 := ⟨_, rfl⟩
      have HG8 : Hid (FdI w W0 h #[.int .i64 6, .string nm, .string tx, .slice (some ⟨ib, ioff, none⟩) NK icap, .slice (some ⟨kb, koff, none⟩) NK kcap] (ks.map .string) (its.map (nrN h)) (k + 1) (k + 1) k (.slice (some ⟨g1, 0, none⟩) (k + 1) nc1) (.slice (some ⟨g2, 0, none⟩) (k + 1) fc2) (.slice mo k mc) (fs ++ [[.bool ta, .bool tb, .bool tc, .bool td, .slice teo ten tec, .bool tf, .slice tgo tgn tgc, .slice tio tinn tic, .slice tjo tjn tjc]]) W8) := by show FdI _ _ _ _ _ _ _ _ _ _ _ _ _ _; rw [← hW8]; exact hG8
      have HWq := Hid.mk hW8
      refine hK.out _ _ (HSS.out _ hb7 bx7) (fun hHeld => ?_)
      clear hK K hG8 ho7 hown7 hgrow7 hat7 hlt7 hW8 hb7 bx7
      try simp only [Act.put, List.getElem_toArray, List.getElem_cons_succ, List.getElem_cons_zero, List.setIfInBounds_toArray, List.set_cons_zero, List.set_cons_succ]
      refine wpAnyH_take (i := 12) (oi := _) (v := .pointer (some ⟨w.heap.size + 1 + 1, 1, none⟩)) rfl (by kernel_rfl) (by kernel_rfl) (by kernel_rfl) (fun _ _ _ h => h) (Or.inl ⟨by rfl, ?_⟩) (by assumption) ?_
      · intro w hSw
        go_simp
      try simp only [Act.put, List.getElem_toArray, List.getElem_cons_succ, List.getElem_cons_zero, List.setIfInBounds_toArray, List.set_cons_zero, List.set_cons_succ]
      refine wpAnyH_ready (rs := [13]) (by kernel_rfl) (by simp) ?_
      refine AllReadyH.cons (o := _) rfl (fun K hK => ?_) AllReadyH.nil
      go_simp
      try rw [HWq.out]
      clear HWq b77 f77
      refine hK.out _ _ (HSS.out _ HG8.out.below HG8.out.box) (fun hHeld => ?_)
      clear hK K
      try simp only [Act.put, List.getElem_toArray, List.getElem_cons_succ, List.getElem_cons_zero, List.setIfInBounds_toArray, List.set_cons_zero, List.set_cons_succ]
      refine wpAnyH_done (by kernel_rfl) ?_ _
      try simp only [Act.put, List.getElem_toArray, List.getElem_cons_succ, List.getElem_cons_zero, List.setIfInBounds_toArray, List.set_cons_zero, List.set_cons_succ]
      clear hHeld HSS HN5 HTk HG5 HD HGd HG6 HF6
      have hG8 := HG8.out
      have b2 : W8.cell? ⟨w.heap.size + 1 + 1, 2, none⟩ = some (.slice mo k mc) := cell_of_row _ _ 2 _ _ _ hG8.out
      have hGm := hG8.mst
      have hle8 : W0.heap.size ≤ W8.heap.size := hG8.le
      clear hG8
      go_wp2_with (at_builtin; refine wpList_append_own_at _ (by rfl) _ _ 53 (by rfl) W0.heap.size 4 l0 (.bool false) 1 1 Try.underlying53 hl0 hx0 hx1 hx2 rfl (by decide) _ _ _ (by rfl) (hGm.alloc _) ⟨W8.heap.size, 0, none⟩ 1 1 [.bool true] (by rfl) (by rfl) (World.news_of_block (cs := #[.bool true]) (fr := (0, 0)) (heap_alloc_new W8 _)) (by simp [Value.oneCell']) (by unfold maxLen; omega) (by omega) (by simp; omega) ?_)
      intro v' w9 hown9 hgrow9 hnil9 hat9
      obtain ⟨g3, mc3, rfl⟩ := own_succF hown9
      obtain ⟨hGa, ho9⟩ := FdI.up3 HG8.out hgrow9 hown9 (by simpa using hat9)
      have b99 : w9.cell? ⟨w.heap.size + 1 + 1, 2, none⟩ = some (.slice mo k mc) := cell_of_row _ _ 2 _ _ _ ho9
      have f99 : w9.frozen? ⟨w.heap.size + 1 + 1, 2, none⟩ = false := frozen_row9 (j := 2) ho9
      have HGa := Hid.mk hGa
      clear hGa ho9 hown9 hgrow9 hnil9 hat9 b2 hGm HG8
      go_wp2_with fail
      go_roundw
      case rel => exact ⟨k + 1, hlt, by go_num, ⟨_, _, _, _, _, _, _, HGa.out⟩⟩
      case measure => simp [intOf]; omega
    · obtain rfl : k = NK := by omega
      have hl1 : ¬ (k : Int) < (k : Int) := by omega
      have HE := Hid.mk (fd_end HG.out HKK.out (by rw [List.length_map, HNN.out]) (by omega) HSz.out)
      have HR9 := Hid.mk hG.res
      have HB9 := Hid.mk hG.below
      have hou := hG.out
      have z0 : wr.cell? ⟨w.heap.size + 1 + 1, 0, none⟩ = _ := cell_of_row _ _ 0 _ _ _ hou
      have z1 : wr.cell? ⟨w.heap.size + 1 + 1, 1, none⟩ = _ := cell_of_row _ _ 1 _ _ _ hou
      have z2 : wr.cell? ⟨w.heap.size + 1 + 1, 2, none⟩ = _ := cell_of_row _ _ 2 _ _ _ hou
      have z3 : wr.cell? ⟨w.heap.size + 1 + 1, 3, none⟩ = _ := cell_of_row _ _ 3 _ _ _ hou
      have z4 : wr.cell? ⟨w.heap.size + 1 + 1, 4, none⟩ = _ := cell_of_row _ _ 4 _ _ _ hou
      have z5 : wr.cell? ⟨w.heap.size + 1 + 1, 5, none⟩ = _ := cell_of_row _ _ 5 _ _ _ hou
      have z6 : wr.cell? ⟨w.heap.size + 1 + 1, 6, none⟩ = _ := cell_of_row _ _ 6 _ _ _ hou
      have z7 : wr.cell? ⟨w.heap.size + 1 + 1, 7, none⟩ = _ := cell_of_row _ _ 7 _ _ _ hou
      have z8 : wr.cell? ⟨w.heap.size + 1 + 1, 8, none⟩ = _ := cell_of_row _ _ 8 _ _ _ hou
      have z9 : wr.cell? ⟨w.heap.size + 1 + 1, 9, none⟩ = _ := cell_of_row _ _ 9 _ _ _ hou
      have z10 : wr.cell? ⟨w.heap.size + 1 + 1, 10, none⟩ = _ := cell_of_row _ _ 10 _ _ _ hou
      have z11 : wr.cell? ⟨w.heap.size + 1 + 1, 11, none⟩ = _ := cell_of_row _ _ 11 _ _ _ hou
      clear hou hG
      have g0 := cell_of_row _ _ 0 _ _ _ HR9.out
      have f0 := frozen_row9 (j := 0) HR9.out
      have g1 := cell_of_row _ _ 1 _ _ _ HR9.out
      have f1 := frozen_row9 (j := 1) HR9.out
      have g2 := cell_of_row _ _ 2 _ _ _ HR9.out
      have f2 := frozen_row9 (j := 2) HR9.out
      have g3 := cell_of_row _ _ 3 _ _ _ HR9.out
      have f3 := frozen_row9 (j := 3) HR9.out
      have g4 := cell_of_row _ _ 4 _ _ _ HR9.out
      have f4 := frozen_row9 (j := 4) HR9.out
      have g5 := cell_of_row _ _ 5 _ _ _ HR9.out
      have f5 := frozen_row9 (j := 5) HR9.out
      have g6 := cell_of_row _ _ 6 _ _ _ HR9.out
      have f6 := frozen_row9 (j := 6) HR9.out
      have g7 := cell_of_row _ _ 7 _ _ _ HR9.out
      have f7 := frozen_row9 (j := 7) HR9.out
      have g8 := cell_of_row _ _ 8 _ _ _ HR9.out
      have f8 := frozen_row9 (j := 8) HR9.out
      have g9 := cell_of_row _ _ 9 _ _ _ HR9.out
      have f9 := frozen_row9 (j := 9) HR9.out
      have g10 := cell_of_row _ _ 10 _ _ _ HR9.out
      have f10 := frozen_row9 (j := 10) HR9.out
      have g11 := cell_of_row _ _ 11 _ _ _ HR9.out
      have f11 := frozen_row9 (j := 11) HR9.out
      go_wp2_with fail
      (try simp only [Exit.inBlock, Exit.then])
      generalize hz9 : (((((((((((wr.setCell ⟨w.heap.size + 1, 0, none⟩ (.slice no k nc)).setCell ⟨w.heap.size + 1, 1, none⟩ (.slice fo k fc)).setCell ⟨w.heap.size + 1, 2, none⟩ (.slice mo k mc)).setCell ⟨w.heap.size + 1, 3, none⟩ (.bool false)).setCell ⟨w.heap.size + 1, 4, none⟩ (.bool false)).setCell ⟨w.heap.size + 1, 5, none⟩ (.bool false)).setCell ⟨w.heap.size + 1, 6, none⟩ (.bool false)).setCell ⟨w.heap.size + 1, 7, none⟩ (.slice none 0 0)).setCell ⟨w.heap.size + 1, 8, none⟩ (.bool false)).setCell ⟨w.heap.size + 1, 9, none⟩ (.slice none 0 0)).setCell ⟨w.heap.size + 1, 10, none⟩ (.slice none 0 0)).setCell ⟨w.heap.size + 1, 11, none⟩ (.slice none 0 0) = wz
      obtain ⟨e7, k7, s7⟩ := rbox_set12 wr _ _ _ _ _ _ _ _ _ _ _ _ _ _ _ _ _ _ _ _ _ _ _ _ _ _ (HR9.out) wz hz9.symm
      have d0 := cell_of_row _ _ 0 _ _ _ e7
      have d1 := cell_of_row _ _ 1 _ _ _ e7
      have d2 := cell_of_row _ _ 2 _ _ _ e7
      have d3 := cell_of_row _ _ 3 _ _ _ e7
      have d4 := cell_of_row _ _ 4 _ _ _ e7
      have d5 := cell_of_row _ _ 5 _ _ _ e7
      have d6 := cell_of_row _ _ 6 _ _ _ e7
      have d7 := cell_of_row _ _ 7 _ _ _ e7
      have d8 := cell_of_row _ _ 8 _ _ _ e7
      have d9 := cell_of_row _ _ 9 _ _ _ e7
      have d10 := cell_of_row _ _ 10 _ _ _ e7
      have d11 := cell_of_row _ _ 11 _ _ _ e7
      have hbz : Below w.heap.size w wz := by rw [← hz9]; exact ((((((((((((HB9.out.setCell (p := ⟨w.heap.size + 1, 0, none⟩) (by show w.heap.size ≤ w.heap.size + 1; omega) _).setCell (p := ⟨w.heap.size + 1, 1, none⟩) (by show w.heap.size ≤ w.heap.size + 1; omega) _).setCell (p := ⟨w.heap.size + 1, 2, none⟩) (by show w.heap.size ≤ w.heap.size + 1; omega) _).setCell (p := ⟨w.heap.size + 1, 3, none⟩) (by show w.heap.size ≤ w.heap.size + 1; omega) _).setCell (p := ⟨w.heap.size + 1, 4, none⟩) (by show w.heap.size ≤ w.heap.size + 1; omega) _).setCell (p := ⟨w.heap.size + 1, 5, none⟩) (by show w.heap.size ≤ w.heap.size + 1; omega) _).setCell (p := ⟨w.heap.size + 1, 6, none⟩) (by show w.heap.size ≤ w.heap.size + 1; omega) _).setCell (p := ⟨w.heap.size + 1, 7, none⟩) (by show w.heap.size ≤ w.heap.size + 1; omega) _).setCell (p := ⟨w.heap.size + 1, 8, none⟩) (by show w.heap.size ≤ w.heap.size + 1; omega) _).setCell (p := ⟨w.heap.size + 1, 9, none⟩) (by show w.heap.size ≤ w.heap.size + 1; omega) _).setCell (p := ⟨w.heap.size + 1, 10, none⟩) (by show w.heap.size ≤ w.heap.size + 1; omega) _).setCell (p := ⟨w.heap.size + 1, 11, none⟩) (by show w.heap.size ≤ w.heap.size + 1; omega) _)
      refine bodyPost_ret (v := .agg #[.slice no k nc, .slice fo k fc, .slice mo k mc, .bool false, .bool false, .bool false, .bool false, .slice none 0 0, .bool false, .slice none 0 0, .slice none 0 0, .slice none 0 0]) (by simp [results, Try.results49, go_sem, d0, d1, d2, d3, d4, d5, d6, d7, d8, d9, d10, d11]) rfl ?_
      exact ⟨⟨_, rfl, Hid.mk ((HE.out.set s7 (fun b hb => k7 b (by have := HS0.out; omega))).mono (by have := HS0.out; omega))⟩, hbz⟩
end Go.Proofs.Ytdjoelhiahpmlaa
