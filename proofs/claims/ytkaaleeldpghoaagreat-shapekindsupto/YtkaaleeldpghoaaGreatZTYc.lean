import Derived.Test.YtkaaleeldpghoaaGreatM29
import Derived.Test.YtkaaleeldpghoaaGreatM18
import Derived.RangeFuncNested
import Derived.RangeFuncBound
import Derived.RangeFuncCalls
import Derived.RangeFuncLeaves
import Derived.RangeFuncBox
import Derived.Shelf.Abstract
import Derived.Shelf.RegionOpen
import Derived.OwnWalkIn
import Derived.TacticsInMore
import Derived.LoopNIn
import Derived.LoopIn
namespace Go.Proofs.YtkaaleeldpghoaaGreat
open Go.RowKit Go.Shelf
set_option linter.unusedVariables false
set_option linter.unusedSimpArgs false
attribute [local go_sem] Oper.semAt_some

/-- what a round keeps: all that lay below n₀, the box B, and all boxes from M on -/
structure KpT (n₀ B M : Nat) (W W' : World) : Prop where
  below : Below n₀ W W'
  box : ∀ b j v, (b = B ∨ M ≤ b) → W.cell? ⟨b, j, none⟩ = some v → W'.cell? ⟨b, j, none⟩ = some v
theorem KpT.trans {n₀ B M : Nat} {X Y Z : World} (h : KpT n₀ B M X Y) (k : KpT n₀ B M Y Z) : KpT n₀ B M X Z := ⟨h.below.trans k.below, fun b j v hb hv => k.box b j v hb (h.box b j v hb hv)⟩
theorem KpT.put {n₀ B M : Nat} {w : World} (hm : n₀ ≤ w.heap.size) (W : World) (l : Nat) (o o' : Obj) (hl : w.heap.size ≤ l) (h : W.heap[l]? = some o) (hc : o.isCells = false) (hw : o.isWalk = false) : KpT n₀ B M W (W.putObj l o') := by
  refine ⟨belowK_b (w := w) hm W l o o' hl h hc hw, fun b j v _ hv => ?_⟩
  have hne : b ≠ l := by
    rintro rfl
    unfold World.cell? at hv
    simp only [h] at hv
    cases o <;> simp_all [Obj.isCells]
  unfold World.cell? at hv ⊢
  rw [show (W.putObj l o').heap[b]? = W.heap[b]? from by simp [World.putObj, Array.getElem?_setIfInBounds, Ne.symm hne]]
  exact hv
theorem KpT.of_below {n₀ B M : Nat} {W W' : World} (hn : n₀ ≤ W.heap.size) (hb : Below W.heap.size W W') : KpT n₀ B M W W' :=
  ⟨hb.mono hn, fun b j v _ hv => (hb.cell (p := ⟨b, j, none⟩) (World.block_lt_of_cell? W _ hv)).trans hv⟩
theorem KpT.setO {n₀ B M : Nat} {W : World} {C : Nat} (hn : n₀ ≤ C) (h1 : B ≠ C) (h2 : C < M) (v : Value) : KpT n₀ B M W (W.setCell ⟨C, 0, none⟩ v) :=
  ⟨(Below.refl _ W).setCell (p := ⟨C, 0, none⟩) hn _, fun b j u hb hu => (World.cell?_setCell_other (w := W) (v := v) (a := ⟨C, 0, none⟩) (b := ⟨b, j, none⟩) (fun e => by cases e; omega)).trans hu⟩

/-- a type's value, cell by cell -/
def NineAt (W : World) (b o : Nat) (v : Value) : Prop := ∃ c0 c1 c2 c3 c4 c5 c6 c7 c8 : Value, v = .agg #[c0, c1, c2, c3, c4, c5, c6, c7, c8] ∧ C9 W b o c0 c1 c2 c3 c4 c5 c6 c7 c8
theorem NineAt.keep {W W' : World} {n b o : Nat} {v : Value} (h : NineAt W b o v) (hb : Below n W W') (hl : b < n) : NineAt W' b o v := by
  obtain ⟨c0, c1, c2, c3, c4, c5, c6, c7, c8, e, x⟩ := h
  exact ⟨c0, c1, c2, c3, c4, c5, c6, c7, c8, e, (hb.cell (p := ⟨_, _, _⟩) hl).trans x.c0, (hb.cell (p := ⟨_, _, _⟩) hl).trans x.c1, (hb.cell (p := ⟨_, _, _⟩) hl).trans x.c2, (hb.cell (p := ⟨_, _, _⟩) hl).trans x.c3, (hb.cell (p := ⟨_, _, _⟩) hl).trans x.c4, (hb.cell (p := ⟨_, _, _⟩) hl).trans x.c5, (hb.cell (p := ⟨_, _, _⟩) hl).trans x.c6, (hb.cell (p := ⟨_, _, _⟩) hl).trans x.c7, (hb.cell (p := ⟨_, _, _⟩) hl).trans x.c8⟩
/-- a type's value: one cell each -/
def ShT (v : Value) : Prop := ∃ (a b c d : Bool) (eo : Option Addr) (en ec : Nat) (f : Bool) (go : Option Addr) (gn gc : Nat) (io : Option Addr) (inn ic : Nat) (jo : Option Addr) (jn jc : Nat), v = .agg #[.bool a, .bool b, .bool c, .bool d, .slice eo en ec, .bool f, .slice go gn gc, .slice io inn ic, .slice jo jn jc]
theorem sh_of {W : World} {h : Nat} {T : TT} {v : Value} (hI : InT W h T v) : ShT v := by
  obtain ⟨a, b, c, d, ⟨eo, en, ec⟩, f, ⟨go, gn, gc⟩, ⟨io, inn, ic⟩, ⟨jo, jn, jc⟩, e⟩ := inT_shape hI
  exact ⟨a, b, c, d, eo, en, ec, f, go, gn, gc, io, inn, ic, jo, jn, jc, e⟩
/-- all the types that lie in one, in their order -/
def partsT (az : List (TT × Value)) (os : List (List (TT × Value) × (TT × Value))) : List (TT × Value) := az ++ os.flatMap fun o => o.1 ++ [o.2]
theorem parts_a {az : List (TT × Value)} {os : List (List (TT × Value) × (TT × Value))} {k : Nat} (h : k < az.length) : az[k] ∈ partsT az os := List.mem_append.2 (.inl (List.getElem_mem h))
theorem parts_f {az : List (TT × Value)} {os : List (List (TT × Value) × (TT × Value))} {k j : Nat} (h : k < os.length) (hj : j < os[k].1.length) : os[k].1[j] ∈ partsT az os :=
  List.mem_append.2 (.inr (List.mem_flatMap.2 ⟨os[k], List.getElem_mem h, List.mem_append.2 (.inl (List.getElem_mem hj))⟩))
theorem parts_r {az : List (TT × Value)} {os : List (List (TT × Value) × (TT × Value))} {k : Nat} (h : k < os.length) : os[k].2 ∈ partsT az os :=
  List.mem_append.2 (.inr (List.mem_flatMap.2 ⟨os[k], List.getElem_mem h, List.mem_append.2 (.inr (by simp))⟩))
theorem parts_la {az : List (TT × Value)} {os : List (List (TT × Value) × (TT × Value))} : az.length ≤ (partsT az os).length := by unfold partsT; rw [List.length_append]; omega
theorem parts_split {az : List (TT × Value)} {os : List (List (TT × Value) × (TT × Value))} {k : Nat} (h : k < os.length) (j : Nat) : partsT az os = (az ++ (os.take k).flatMap (fun o => o.1 ++ [o.2]) ++ os[k].1.take j) ++ (os[k].1.drop j ++ ([os[k].2] ++ (os.drop (k + 1)).flatMap (fun o => o.1 ++ [o.2]))) := by
  unfold partsT
  conv => lhs; rw [← List.take_append_drop k os, List.drop_eq_getElem_cons h, List.flatMap_append, List.flatMap_cons]
  simp only [List.append_assoc]
  rw [← List.append_assoc (os[k].1.take j), List.take_append_drop]
theorem parts_up {az : List (TT × Value)} {os : List (List (TT × Value) × (TT × Value))} {k : Nat} (h : k < os.length) : az ++ (os.take (k + 1)).flatMap (fun o => o.1 ++ [o.2]) = (az ++ (os.take k).flatMap (fun o => o.1 ++ [o.2]) ++ os[k].1) ++ [os[k].2] := by
  rw [List.take_succ_eq_append_getElem h, List.flatMap_append]; simp
/-- what the iterator reads -/
structure InTS (W : World) (n₀ B : Nat) (ao : Option Addr) (ac : Nat) (oo : Option Addr) (oc : Nat) (az : List (TT × Value)) (os : List (List (TT × Value) × (TT × Value))) : Prop where
  c7 : W.cell? ⟨B, 7, none⟩ = some (.slice ao az.length ac)
  c8 : W.cell? ⟨B, 8, none⟩ = some (.slice oo os.length oc)
  arrs : ∀ i, (hi : i < az.length) → ∃ b off mn mx, ao = some ⟨b, off, none⟩ ∧ b < n₀ ∧ NineAt W b (off + i * 11) az[i].2 ∧ W.cell? ⟨b, off + i * 11 + 9, none⟩ = some (.int .i64 mn) ∧ W.cell? ⟨b, off + i * 11 + 10, none⟩ = some (.int .i64 mx)
  objs : ∀ k, (hk : k < os.length) → ∃ b off ko nK kc fo fc mo nM mc, oo = some ⟨b, off, none⟩ ∧ b < n₀ ∧ (W.cell? ⟨b, off + k * 12, none⟩ = some (.slice ko nK kc) ∧ W.cell? ⟨b, off + k * 12 + 1, none⟩ = some (.slice fo os[k].1.length fc) ∧ W.cell? ⟨b, off + k * 12 + 2, none⟩ = some (.slice mo nM mc)) ∧ NineAt W b (off + k * 12 + 3) os[k].2.2 ∧ os[k].1.length ≤ fc ∧ os[k].1.length ≤ 140737488355328 ∧
    ∀ j, (hj : j < os[k].1.length) → ∃ b2 off2, fo = some ⟨b2, off2, none⟩ ∧ b2 < n₀ ∧ NineAt W b2 (off2 + j * 9) os[k].1[j].2
theorem InTS.keep {W W' : World} {n₀ B M : Nat} {ao : Option Addr} {ac : Nat} {oo : Option Addr} {oc : Nat} {az : List (TT × Value)} {os : List (List (TT × Value) × (TT × Value))} (h : InTS W n₀ B ao ac oo oc az os) (hk : KpT n₀ B M W W') : InTS W' n₀ B ao ac oo oc az os := by
  refine ⟨hk.box _ _ _ (.inl rfl) h.c7, hk.box _ _ _ (.inl rfl) h.c8, fun i hi => ?_, fun k hk2 => ?_⟩
  · obtain ⟨b, off, mn, mx, e, hb, x, y, z⟩ := h.arrs i hi
    exact ⟨b, off, mn, mx, e, hb, x.keep hk.below hb, (hk.below.cell (p := ⟨_, _, _⟩) hb).trans y, (hk.below.cell (p := ⟨_, _, _⟩) hb).trans z⟩
  · obtain ⟨b, off, ko, nK, kc, fo, fc, mo, nM, mc, e, hb, ⟨x, y, z⟩, r, l1, l2, hf⟩ := h.objs k hk2
    refine ⟨b, off, ko, nK, kc, fo, fc, mo, nM, mc, e, hb, ⟨(hk.below.cell (p := ⟨_, _, _⟩) hb).trans x, (hk.below.cell (p := ⟨_, _, _⟩) hb).trans y, (hk.below.cell (p := ⟨_, _, _⟩) hb).trans z⟩, r.keep hk.below hb, l1, l2, fun j hj => ?_⟩
    obtain ⟨b2, off2, e2, hb2, x2⟩ := hf j hj
    exact ⟨b2, off2, e2, hb2, x2.keep hk.below hb2⟩
end Go.Proofs.YtkaaleeldpghoaaGreat
