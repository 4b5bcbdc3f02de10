import Derived.Test.YtdjoelhiahpmlaaM18
import Derived.Test.YtdjoelhiahpmlaaM23
import Derived.Test.YtdjoelhiahpmlaaM16
import Derived.RangeFuncNested
import Derived.RangeFuncBound
import Derived.RangeFuncCalls
import Derived.RangeFuncLeaves
import Derived.RangeFuncBox
import Derived.Shelf.Abstract
import Derived.Shelf.RegionOpen
import Derived.OwnWalkIn
import Derived.TacticsInMore
import Derived.LoopNIn
import Derived.LoopIn
import Derived.Deep.Slices
namespace Go.Proofs.Ytdjoelhiahpmlaa
open Go.RowKit Go.Shelf Go.Sort
set_option linter.unusedVariables false
set_option linter.unusedSimpArgs false
attribute [local go_sem] Oper.semAt_some

/-- a span is as it must be -/
def spOk (p : ByteArray × ByteArray) : Bool := bndB p.1 && (bndB p.2 && (p.1.size == 0 || (p.2.size == 0 || decide (numC p.1 p.2 ≤ 0))))
/-- spans are as they must be -/
def spB : List (ByteArray × ByteArray) → Bool
  | [] => true
  | [p] => spOk p
  | _ => false
theorem list_none {s : ByteArray} (h : s.size = 0) : s.toList = [] := by
  rw [Lib.toList_data]
  exact List.eq_nil_of_length_eq_zero (by rw [Array.length_toList]; exact h)
theorem list_some {s : ByteArray} (h : ¬ s.size = 0) : ¬ s.toList = [] := fun h0 => h (by
  rw [Lib.toList_data] at h0
  have h2 := congrArg List.length h0
  rw [Array.length_toList] at h2
  exact h2)
end Go.Proofs.Ytdjoelhiahpmlaa
namespace Go.Proofs.Ytdjoelhiahpmlaa
open Go.RowKit Go.Shelf Go.Sort
set_option linter.unusedVariables false
set_option linter.unusedSimpArgs false
attribute [local go_sem] Oper.semAt_some

/-- an array's type is as it must be -/
def arOk (f : TT → Bool) (a : AR) : Bool := !(decide (a.min < 0) || decide (a.max < -1) || (decide (0 ≤ a.max) && decide (a.max < a.min))) && (f a.item && (a.item.never == decide (a.max = 0)))
/-- arrays' types are as they must be -/
def arB (f : TT → Bool) : List AR → Bool
  | [] => true
  | [a] => arOk f a
  | _ => false
/-- a field and whether it must be there are as they must be -/
def fdOk (f : TT → Bool) (t : TT) (m : Bool) : Bool := f t && !(m && t.never)
/-- an alternative is as it must be -/
def obOk (f : TT → Bool) (o : OB) : Bool := decide (o.names.length = o.fields.length) && (decide (o.names.length = o.must.length) && ((rK o.names o.names.length && oK o.names o.names.length) && (f o.rest && (o.fields.zip o.must).all fun p => fdOk f p.1 p.2)))
/-- a type is well shaped -/
def fmN : Nat → TT → Bool
  | 0, _ => false
  | h + 1, T => !(T.all && !T.bare) && ((rK T.texts T.texts.length && oK T.texts T.texts.length) && (!(T.any && decide (0 < T.texts.length)) && (spB T.nums && (arB (fmN h) T.arrs && T.objs.all (obOk (fmN h))))))

/-- a row of arrays' types, as it lies -/
structure ArIn (W : World) (h : Nat) (ao : Option Addr) (rs : List AR) : Prop where
  row : 0 < rs.length → ∃ b off, ao = some ⟨b, off, none⟩ ∧ b < W.heap.size ∧ ∀ i, (hi : i < rs.length) → ∃ c0 c1 c2 c3 c4 c5 c6 c7 c8 : Value,
        C9 W b (off + i * 11) c0 c1 c2 c3 c4 c5 c6 c7 c8 ∧ W.cell? ⟨b, off + i * 11 + 9, none⟩ = some (.int .i64 rs[i].min) ∧ W.cell? ⟨b, off + i * 11 + 10, none⟩ = some (.int .i64 rs[i].max) ∧
        InT W h rs[i].item (.agg #[c0, c1, c2, c3, c4, c5, c6, c7, c8])
theorem ArIn.keep {W W' : World} {h : Nat} {ao : Option Addr} {rs : List AR} (x : ArIn W h ao rs) (hb : Below W.heap.size W W') : ArIn W' h ao rs := by
  refine ⟨fun h0 => ?_⟩
  obtain ⟨b, off, e2, hl, hc⟩ := x.row h0
  refine ⟨b, off, e2, Nat.lt_of_lt_of_le hl hb.size, fun i hi => ?_⟩
  obtain ⟨c0, c1, c2, c3, c4, c5, c6, c7, c8, h1, h2, h3, h4⟩ := hc i hi
  exact ⟨c0, c1, c2, c3, c4, c5, c6, c7, c8, h1.keep hb hl, (hb.cell (p := ⟨_, _, _⟩) hl).trans h2, (hb.cell (p := ⟨_, _, _⟩) hl).trans h3, h4.keep hb⟩
end Go.Proofs.Ytdjoelhiahpmlaa
namespace Go.Proofs.Ytdjoelhiahpmlaa
open Go.RowKit Go.Shelf Go.Sort
set_option linter.unusedVariables false
set_option linter.unusedSimpArgs false
attribute [local go_sem] Oper.semAt_some


/-- an alternative's box -/
structure OBx (w u : World) (a0 a1 a2 a3 a4 a5 a6 a7 a8 a9 a10 a11 : Value) : Prop where
  below : Below w.heap.size w u
  c0 : u.cell? ⟨w.heap.size, 0, none⟩ = some a0
  c1 : u.cell? ⟨w.heap.size, 1, none⟩ = some a1
  c2 : u.cell? ⟨w.heap.size, 2, none⟩ = some a2
  c3 : u.cell? ⟨w.heap.size, 3, none⟩ = some a3
  c4 : u.cell? ⟨w.heap.size, 4, none⟩ = some a4
  c5 : u.cell? ⟨w.heap.size, 5, none⟩ = some a5
  c6 : u.cell? ⟨w.heap.size, 6, none⟩ = some a6
  c7 : u.cell? ⟨w.heap.size, 7, none⟩ = some a7
  c8 : u.cell? ⟨w.heap.size, 8, none⟩ = some a8
  c9 : u.cell? ⟨w.heap.size, 9, none⟩ = some a9
  c10 : u.cell? ⟨w.heap.size, 10, none⟩ = some a10
  c11 : u.cell? ⟨w.heap.size, 11, none⟩ = some a11
  lt : w.heap.size < u.heap.size
theorem OBx.keep {w u u' : World} {a0 a1 a2 a3 a4 a5 a6 a7 a8 a9 a10 a11 : Value} (x : OBx w u a0 a1 a2 a3 a4 a5 a6 a7 a8 a9 a10 a11) (hb : Below u.heap.size u u') : OBx w u' a0 a1 a2 a3 a4 a5 a6 a7 a8 a9 a10 a11 :=
  ⟨x.below.trans (hb.mono x.below.size), (hb.cell (p := ⟨_, _, _⟩) x.lt).trans x.c0, (hb.cell (p := ⟨_, _, _⟩) x.lt).trans x.c1, (hb.cell (p := ⟨_, _, _⟩) x.lt).trans x.c2, (hb.cell (p := ⟨_, _, _⟩) x.lt).trans x.c3, (hb.cell (p := ⟨_, _, _⟩) x.lt).trans x.c4, (hb.cell (p := ⟨_, _, _⟩) x.lt).trans x.c5, (hb.cell (p := ⟨_, _, _⟩) x.lt).trans x.c6, (hb.cell (p := ⟨_, _, _⟩) x.lt).trans x.c7, (hb.cell (p := ⟨_, _, _⟩) x.lt).trans x.c8, (hb.cell (p := ⟨_, _, _⟩) x.lt).trans x.c9, (hb.cell (p := ⟨_, _, _⟩) x.lt).trans x.c10, (hb.cell (p := ⟨_, _, _⟩) x.lt).trans x.c11, Nat.lt_of_lt_of_le x.lt hb.size⟩
theorem obx_new (w : World) (a0 a1 a2 a3 a4 a5 a6 a7 a8 a9 a10 a11 : Value) : OBx w (w.alloc (.cells #[a0, a1, a2, a3, a4, a5, a6, a7, a8, a9, a10, a11] 55)) a0 a1 a2 a3 a4 a5 a6 a7 a8 a9 a10 a11 :=
  ⟨(Below.refl _ _).alloc (Nat.le_refl _) _, by simp [go_sem], by simp [go_sem], by simp [go_sem], by simp [go_sem], by simp [go_sem], by simp [go_sem], by simp [go_sem], by simp [go_sem], by simp [go_sem], by simp [go_sem], by simp [go_sem], by simp [go_sem], by simp⟩
/-- an alternative, as a value -/
structure InO (W : World) (h : Nat) (o : OB) (ko : Option Addr) (kc : Nat) (fo : Option Addr) (fc : Nat) (mo : Option Addr) (mc : Nat) (c0 c1 c2 c3 c4 c5 c6 c7 c8 : Value) : Prop where
  caps : o.names.length ≤ kc ∧ o.fields.length ≤ fc ∧ o.must.length ≤ mc
  lens : o.names.length ≤ 140737488355328 ∧ o.fields.length ≤ 140737488355328 ∧ o.must.length ≤ 140737488355328 ∧ ∀ k ∈ o.names, k.size ≤ 140737488355328
  nm : KIn W ko o.names
  ms : BoIn W mo o.must
  fd : 0 < o.fields.length → ∃ b2 off2, fo = some ⟨b2, off2, none⟩ ∧ b2 < W.heap.size ∧ ∀ j, (hj : j < o.fields.length) → ∃ d0 d1 d2 d3 d4 d5 d6 d7 d8 : Value,
    C9 W b2 (off2 + j * 9) d0 d1 d2 d3 d4 d5 d6 d7 d8 ∧ InT W h o.fields[j] (.agg #[d0, d1, d2, d3, d4, d5, d6, d7, d8])
  rest : InT W h o.rest (.agg #[c0, c1, c2, c3, c4, c5, c6, c7, c8])
theorem InO.keep {W W' : World} {h : Nat} {o : OB} {ko : Option Addr} {kc : Nat} {fo : Option Addr} {fc : Nat} {mo : Option Addr} {mc : Nat} {c0 c1 c2 c3 c4 c5 c6 c7 c8 : Value} (x : InO W h o ko kc fo fc mo mc c0 c1 c2 c3 c4 c5 c6 c7 c8) (hb : Below W.heap.size W W') : InO W' h o ko kc fo fc mo mc c0 c1 c2 c3 c4 c5 c6 c7 c8 := by
  refine ⟨x.caps, x.lens, x.nm.keep hb, x.ms.keep hb, fun hf => ?_, x.rest.keep hb⟩
  obtain ⟨b2, off2, e3, hl2, hd⟩ := x.fd hf
  refine ⟨b2, off2, e3, Nat.lt_of_lt_of_le hl2 hb.size, fun j hj => ?_⟩
  obtain ⟨d0, d1, d2, d3, d4, d5, d6, d7, d8, k1, k2⟩ := hd j hj
  exact ⟨d0, d1, d2, d3, d4, d5, d6, d7, d8, k1.keep hb hl2, k2.keep hb⟩
theorem zall_up {α : Type} {l : List α} {f : α → Bool} {k : Nat} (hk : k < l.length) : (l.take (k + 1)).all f = ((l.take k).all f && f l[k]) := by
  rw [List.take_add_one, List.getElem?_eq_getElem hk, List.all_append]; simp only [Option.toList_some, List.all_cons, List.all_nil, Bool.and_true]
theorem zall_no {α : Type} {l : List α} {f : α → Bool} {k : Nat} (hk : k < l.length) (h : f l[k] = false) : l.all f = false := by
  rw [← Bool.not_eq_true]; intro h2
  have := List.all_eq_true.1 h2 _ (List.getElem_mem hk)
  rw [h] at this; cases this
end Go.Proofs.Ytdjoelhiahpmlaa
namespace Go.Proofs.Ytdjoelhiahpmlaa
open Go.RowKit Go.Shelf Go.Sort
set_option linter.unusedVariables false
set_option linter.unusedSimpArgs false
attribute [local go_sem] Oper.semAt_some

/-- a row of alternatives, as it lies -/
structure ObIn (W : World) (h : Nat) (oo : Option Addr) (os : List OB) : Prop where
  row : 0 < os.length → ∃ b off, oo = some ⟨b, off, none⟩ ∧ b < W.heap.size ∧ ∀ i, (hi : i < os.length) → ∃ (ko : Option Addr) (kc : Nat) (fo : Option Addr) (fc : Nat) (mo : Option Addr) (mc : Nat) (c0 c1 c2 c3 c4 c5 c6 c7 c8 : Value),
    (W.cell? ⟨b, off + i * 12, none⟩ = some (.slice ko os[i].names.length kc) ∧ W.cell? ⟨b, off + i * 12 + 1, none⟩ = some (.slice fo os[i].fields.length fc) ∧ W.cell? ⟨b, off + i * 12 + 2, none⟩ = some (.slice mo os[i].must.length mc)) ∧
    C9 W b (off + i * 12 + 3) c0 c1 c2 c3 c4 c5 c6 c7 c8 ∧ InO W h os[i] ko kc fo fc mo mc c0 c1 c2 c3 c4 c5 c6 c7 c8
theorem ObIn.keep {W W' : World} {h : Nat} {oo : Option Addr} {os : List OB} (x : ObIn W h oo os) (hb : Below W.heap.size W W') : ObIn W' h oo os := by
  refine ⟨fun h0 => ?_⟩
  obtain ⟨b, off, e2, hl, hc⟩ := x.row h0
  refine ⟨b, off, e2, Nat.lt_of_lt_of_le hl hb.size, fun i hi => ?_⟩
  obtain ⟨ko, kc, fo, fc, mo, mc, c0, c1, c2, c3, c4, c5, c6, c7, c8, ⟨g1, g2, g3⟩, h1, h2⟩ := hc i hi
  exact ⟨ko, kc, fo, fc, mo, mc, c0, c1, c2, c3, c4, c5, c6, c7, c8, ⟨(hb.cell (p := ⟨_, _, _⟩) hl).trans g1, (hb.cell (p := ⟨_, _, _⟩) hl).trans g2, (hb.cell (p := ⟨_, _, _⟩) hl).trans g3⟩, h1.keep hb hl, h2.keep hb⟩

end Go.Proofs.Ytdjoelhiahpmlaa
namespace Go.Proofs.Ytdjoelhiahpmlaa
open Go.RowKit Go.Shelf
set_option linter.unusedVariables false
set_option linter.unusedSimpArgs false
attribute [local go_sem] Oper.semAt_some

/-- what a round keeps: all that lay below n₀, the box B, and all boxes from M on -/
structure KpT (n₀ B M : Nat) (W W' : World) : Prop where
  below : Below n₀ W W'
  box : ∀ b j v, (b = B ∨ M ≤ b) → W.cell? ⟨b, j, none⟩ = some v → W'.cell? ⟨b, j, none⟩ = some v
theorem KpT.trans {n₀ B M : Nat} {X Y Z : World} (h : KpT n₀ B M X Y) (k : KpT n₀ B M Y Z) : KpT n₀ B M X Z := ⟨h.below.trans k.below, fun b j v hb hv => k.box b j v hb (h.box b j v hb hv)⟩
theorem KpT.put {n₀ B M : Nat} {w : World} (hm : n₀ ≤ w.heap.size) (W : World) (l : Nat) (o o' : Obj) (hl : w.heap.size ≤ l) (h : W.heap[l]? = some o) (hc : o.isCells = false) (hw : o.isWalk = false) : KpT n₀ B M W (W.putObj l o') := by
  refine ⟨belowK_b (w := w) hm W l o o' hl h hc hw, fun b j v _ hv => ?_⟩
  have hne : b ≠ l := by
    rintro rfl
    unfold World.cell? at hv
    simp only [h] at hv
    cases o <;> simp_all [Obj.isCells]
  unfold World.cell? at hv ⊢
  rw [show (W.putObj l o').heap[b]? = W.heap[b]? from by simp [World.putObj, Array.getElem?_setIfInBounds, Ne.symm hne]]
  exact hv
theorem KpT.of_below {n₀ B M : Nat} {W W' : World} (hn : n₀ ≤ W.heap.size) (hb : Below W.heap.size W W') : KpT n₀ B M W W' :=
  ⟨hb.mono hn, fun b j v _ hv => (hb.cell (p := ⟨b, j, none⟩) (World.block_lt_of_cell? W _ hv)).trans hv⟩
theorem KpT.setO {n₀ B M : Nat} {W : World} {C : Nat} (hn : n₀ ≤ C) (h1 : B ≠ C) (h2 : C < M) (v : Value) : KpT n₀ B M W (W.setCell ⟨C, 0, none⟩ v) :=
  ⟨(Below.refl _ W).setCell (p := ⟨C, 0, none⟩) hn _, fun b j u hb hu => (World.cell?_setCell_other (w := W) (v := v) (a := ⟨C, 0, none⟩) (b := ⟨b, j, none⟩) (fun e => by cases e; omega)).trans hu⟩

/-- a type's value, cell by cell -/
def NineAt (W : World) (b o : Nat) (v : Value) : Prop := ∃ c0 c1 c2 c3 c4 c5 c6 c7 c8 : Value, v = .agg #[c0, c1, c2, c3, c4, c5, c6, c7, c8] ∧ C9 W b o c0 c1 c2 c3 c4 c5 c6 c7 c8
theorem NineAt.keep {W W' : World} {n b o : Nat} {v : Value} (h : NineAt W b o v) (hb : Below n W W') (hl : b < n) : NineAt W' b o v := by
  obtain ⟨c0, c1, c2, c3, c4, c5, c6, c7, c8, e, x⟩ := h
  exact ⟨c0, c1, c2, c3, c4, c5, c6, c7, c8, e, (hb.cell (p := ⟨_, _, _⟩) hl).trans x.c0, (hb.cell (p := ⟨_, _, _⟩) hl).trans x.c1, (hb.cell (p := ⟨_, _, _⟩) hl).trans x.c2, (hb.cell (p := ⟨_, _, _⟩) hl).trans x.c3, (hb.cell (p := ⟨_, _, _⟩) hl).trans x.c4, (hb.cell (p := ⟨_, _, _⟩) hl).trans x.c5, (hb.cell (p := ⟨_, _, _⟩) hl).trans x.c6, (hb.cell (p := ⟨_, _, _⟩) hl).trans x.c7, (hb.cell (p := ⟨_, _, _⟩) hl).trans x.c8⟩
/-- a type's value: one cell each -/
def ShT (v : Value) : Prop := ∃ (a b c d : Bool) (eo : Option Addr) (en ec : Nat) (f : Bool) (go : Option Addr) (gn gc : Nat) (io : Option Addr) (inn ic : Nat) (jo : Option Addr) (jn jc : Nat), v = .agg #[.bool a, .bool b, .bool c, .bool d, .slice eo en ec, .bool f, .slice go gn gc, .slice io inn ic, .slice jo jn jc]
theorem sh_of {W : World} {h : Nat} {T : TT} {v : Value} (hI : InT W h T v) : ShT v := by
  obtain ⟨a, b, c, d, ⟨eo, en, ec⟩, f, ⟨go, gn, gc⟩, ⟨io, inn, ic⟩, ⟨jo, jn, jc⟩, e⟩ := inT_shape hI
  exact ⟨a, b, c, d, eo, en, ec, f, go, gn, gc, io, inn, ic, jo, jn, jc, e⟩
/-- all the types that lie in one, in their order -/
def partsT (az : List (TT × Value)) (os : List (List (TT × Value) × (TT × Value))) : List (TT × Value) := az ++ os.flatMap fun o => o.1 ++ [o.2]
theorem parts_a {az : List (TT × Value)} {os : List (List (TT × Value) × (TT × Value))} {k : Nat} (h : k < az.length) : az[k] ∈ partsT az os := List.mem_append.2 (.inl (List.getElem_mem h))
theorem parts_f {az : List (TT × Value)} {os : List (List (TT × Value) × (TT × Value))} {k j : Nat} (h : k < os.length) (hj : j < os[k].1.length) : os[k].1[j] ∈ partsT az os :=
  List.mem_append.2 (.inr (List.mem_flatMap.2 ⟨os[k], List.getElem_mem h, List.mem_append.2 (.inl (List.getElem_mem hj))⟩))
theorem parts_r {az : List (TT × Value)} {os : List (List (TT × Value) × (TT × Value))} {k : Nat} (h : k < os.length) : os[k].2 ∈ partsT az os :=
  List.mem_append.2 (.inr (List.mem_flatMap.2 ⟨os[k], List.getElem_mem h, List.mem_append.2 (.inr (by simp))⟩))
theorem parts_la {az : List (TT × Value)} {os : List (List (TT × Value) × (TT × Value))} : az.length ≤ (partsT az os).length := by unfold partsT; rw [List.length_append]; omega
theorem parts_split {az : List (TT × Value)} {os : List (List (TT × Value) × (TT × Value))} {k : Nat} (h : k < os.length) (j : Nat) : partsT az os = (az ++ (os.take k).flatMap (fun o => o.1 ++ [o.2]) ++ os[k].1.take j) ++ (os[k].1.drop j ++ ([os[k].2] ++ (os.drop (k + 1)).flatMap (fun o => o.1 ++ [o.2]))) := by
  unfold partsT
  conv => lhs; rw [← List.take_append_drop k os, List.drop_eq_getElem_cons h, List.flatMap_append, List.flatMap_cons]
  simp only [List.append_assoc]
  rw [← List.append_assoc (os[k].1.take j), List.take_append_drop]
theorem parts_up {az : List (TT × Value)} {os : List (List (TT × Value) × (TT × Value))} {k : Nat} (h : k < os.length) : az ++ (os.take (k + 1)).flatMap (fun o => o.1 ++ [o.2]) = (az ++ (os.take k).flatMap (fun o => o.1 ++ [o.2]) ++ os[k].1) ++ [os[k].2] := by
  rw [List.take_succ_eq_append_getElem h, List.flatMap_append]; simp
/-- what the iterator reads -/
structure InTS (W : World) (n₀ B : Nat) (ao : Option Addr) (ac : Nat) (oo : Option Addr) (oc : Nat) (az : List (TT × Value)) (os : List (List (TT × Value) × (TT × Value))) : Prop where
  c7 : W.cell? ⟨B, 7, none⟩ = some (.slice ao az.length ac)
  c8 : W.cell? ⟨B, 8, none⟩ = some (.slice oo os.length oc)
  arrs : ∀ i, (hi : i < az.length) → ∃ b off mn mx, ao = some ⟨b, off, none⟩ ∧ b < n₀ ∧ NineAt W b (off + i * 11) az[i].2 ∧ W.cell? ⟨b, off + i * 11 + 9, none⟩ = some (.int .i64 mn) ∧ W.cell? ⟨b, off + i * 11 + 10, none⟩ = some (.int .i64 mx)
  objs : ∀ k, (hk : k < os.length) → ∃ b off ko nK kc fo fc mo nM mc, oo = some ⟨b, off, none⟩ ∧ b < n₀ ∧ (W.cell? ⟨b, off + k * 12, none⟩ = some (.slice ko nK kc) ∧ W.cell? ⟨b, off + k * 12 + 1, none⟩ = some (.slice fo os[k].1.length fc) ∧ W.cell? ⟨b, off + k * 12 + 2, none⟩ = some (.slice mo nM mc)) ∧ NineAt W b (off + k * 12 + 3) os[k].2.2 ∧ os[k].1.length ≤ fc ∧ os[k].1.length ≤ 140737488355328 ∧
    ∀ j, (hj : j < os[k].1.length) → ∃ b2 off2, fo = some ⟨b2, off2, none⟩ ∧ b2 < n₀ ∧ NineAt W b2 (off2 + j * 9) os[k].1[j].2
theorem InTS.keep {W W' : World} {n₀ B M : Nat} {ao : Option Addr} {ac : Nat} {oo : Option Addr} {oc : Nat} {az : List (TT × Value)} {os : List (List (TT × Value) × (TT × Value))} (h : InTS W n₀ B ao ac oo oc az os) (hk : KpT n₀ B M W W') : InTS W' n₀ B ao ac oo oc az os := by
  refine ⟨hk.box _ _ _ (.inl rfl) h.c7, hk.box _ _ _ (.inl rfl) h.c8, fun i hi => ?_, fun k hk2 => ?_⟩
  · obtain ⟨b, off, mn, mx, e, hb, x, y, z⟩ := h.arrs i hi
    exact ⟨b, off, mn, mx, e, hb, x.keep hk.below hb, (hk.below.cell (p := ⟨_, _, _⟩) hb).trans y, (hk.below.cell (p := ⟨_, _, _⟩) hb).trans z⟩
  · obtain ⟨b, off, ko, nK, kc, fo, fc, mo, nM, mc, e, hb, ⟨x, y, z⟩, r, l1, l2, hf⟩ := h.objs k hk2
    refine ⟨b, off, ko, nK, kc, fo, fc, mo, nM, mc, e, hb, ⟨(hk.below.cell (p := ⟨_, _, _⟩) hb).trans x, (hk.below.cell (p := ⟨_, _, _⟩) hb).trans y, (hk.below.cell (p := ⟨_, _, _⟩) hb).trans z⟩, r.keep hk.below hb, l1, l2, fun j hj => ?_⟩
    obtain ⟨b2, off2, e2, hb2, x2⟩ := hf j hj
    exact ⟨b2, off2, e2, hb2, x2.keep hk.below hb2⟩
end Go.Proofs.Ytdjoelhiahpmlaa
namespace Go.Proofs.Ytdjoelhiahpmlaa
open Go.RowKit Go.Shelf
set_option linter.unusedVariables false
set_option linter.unusedSimpArgs false
attribute [local go_sem] Oper.semAt_some

/-- the types that lie in one -/
def insT (T : TT) : List TT := T.arrs.map AR.item ++ T.objs.flatMap fun o => o.fields ++ [o.rest]
theorem parts_open {w : World} {h : Nat} {T : TT} {no : Option Addr} {nn nc : Nat} {xo : Option Addr} {nx xc : Nat} {ao : Option Addr} {NA ac : Nat} {oo : Option Addr} {NO oc : Nat} {b0 b1 b2 b3 b5 : Bool}
    (hI : InT w (h + 1) T (.agg #[.bool b0, .bool b1, .bool b2, .bool b3, .slice no nn nc, .bool b5, .slice xo nx xc, .slice ao NA ac, .slice oo NO oc])) :
    ∃ (az : List (TT × Value)) (os : List (List (TT × Value) × (TT × Value))), az.length = NA ∧ os.length = NO ∧ NA ≤ ac ∧ NO ≤ oc ∧ NA ≤ 140737488355328 ∧ NO ≤ 140737488355328 ∧ (partsT az os).map (·.1) = insT T ∧ (∀ x ∈ partsT az os, InT w h x.1 x.2) ∧
      ∀ (W : World) (B : Nat), Below w.heap.size w W → W.cell? ⟨B, 7, none⟩ = some (.slice ao NA ac) → W.cell? ⟨B, 8, none⟩ = some (.slice oo NO oc) → InTS W w.heap.size B ao ac oo oc az os := by
  obtain ⟨no', nc', xo', xc', ao', ac', oo', oc', e, ⟨_, _, a3, a4⟩, ⟨_, _, a7, a8⟩, _, _, _, _, ha, ho⟩ := hI
  simp only [Value.agg.injEq, Array.mk.injEq, List.cons.injEq, Value.bool.injEq, Value.slice.injEq, and_true] at e
  obtain ⟨rfl, rfl, rfl, rfl, _, rfl, _, ⟨rfl, rfl, rfl⟩, rfl, rfl, rfl⟩ := e
  have keyA : ∀ i, i < T.arrs.length → ∃ v : Value, ∃ hi : i < T.arrs.length, InT w h T.arrs[i].item v ∧ ∃ b off mn mx, ao = some ⟨b, off, none⟩ ∧ b < w.heap.size ∧ NineAt w b (off + i * 11) v ∧ w.cell? ⟨b, off + i * 11 + 9, none⟩ = some (.int .i64 mn) ∧ w.cell? ⟨b, off + i * 11 + 10, none⟩ = some (.int .i64 mx) := by
    intro i hi
    obtain ⟨b, off, e2, hl, hc⟩ := ha (by omega)
    obtain ⟨c0, c1, c2, c3, c4, c5, c6, c7, c8, h1, h2, h3, h4⟩ := hc i hi
    exact ⟨_, hi, h4, b, off, _, _, e2, hl, ⟨c0, c1, c2, c3, c4, c5, c6, c7, c8, rfl, h1⟩, h2, h3⟩
  have keyO : ∀ k, k < T.objs.length → ∃ p : Value × (Nat → Value), ∃ hk : k < T.objs.length, InT w h T.objs[k].rest p.1 ∧ (∀ j, (hj : j < T.objs[k].fields.length) → InT w h T.objs[k].fields[j] (p.2 j)) ∧
      ∃ b off ko nK kc fo fc mo nM mc, oo = some ⟨b, off, none⟩ ∧ b < w.heap.size ∧ (w.cell? ⟨b, off + k * 12, none⟩ = some (.slice ko nK kc) ∧ w.cell? ⟨b, off + k * 12 + 1, none⟩ = some (.slice fo T.objs[k].fields.length fc) ∧ w.cell? ⟨b, off + k * 12 + 2, none⟩ = some (.slice mo nM mc)) ∧ NineAt w b (off + k * 12 + 3) p.1 ∧ T.objs[k].fields.length ≤ fc ∧ T.objs[k].fields.length ≤ 140737488355328 ∧
        ∀ j, j < T.objs[k].fields.length → ∃ b2 off2, fo = some ⟨b2, off2, none⟩ ∧ b2 < w.heap.size ∧ NineAt w b2 (off2 + j * 9) (p.2 j) := by
    intro k hk
    obtain ⟨b, off, e2, hl, hc⟩ := ho (by omega)
    obtain ⟨ko, kc, fo, fc, mo, mc, c0, c1, c2, c3, c4, c5, c6, c7, c8, g, h1, ⟨_, h2, _⟩, ⟨_, h3, _, _⟩, h4, h5, h6, h7⟩ := hc k hk
    have keyF : ∀ j, j < T.objs[k].fields.length → ∃ v : Value, ∃ hj : j < T.objs[k].fields.length, InT w h T.objs[k].fields[j] v ∧ ∃ b2 off2, fo = some ⟨b2, off2, none⟩ ∧ b2 < w.heap.size ∧ NineAt w b2 (off2 + j * 9) v := by
      intro j hj
      obtain ⟨b2, off2, e3, hl2, hd⟩ := h6 (by omega)
      obtain ⟨d0, d1, d2, d3, d4, d5, d6, d7, d8, k1, k2⟩ := hd j hj
      exact ⟨_, hj, k2, b2, off2, e3, hl2, d0, d1, d2, d3, d4, d5, d6, d7, d8, rfl, k1⟩
    haveI : Inhabited Value := ⟨undef⟩
    obtain ⟨F, hF⟩ := Go.Deep.choose_lt keyF
    exact ⟨(_, F), hk, h7, fun j hj => (hF j hj).2.1, b, off, ko, _, kc, fo, fc, mo, _, mc, e2, hl, g, ⟨c0, c1, c2, c3, c4, c5, c6, c7, c8, rfl, h1⟩, h2, h3, fun j hj => (hF j hj).2.2⟩
  haveI : Inhabited Value := ⟨undef⟩
  obtain ⟨cA, hcA⟩ := Go.Deep.choose_lt keyA
  haveI : Inhabited (Value × (Nat → Value)) := ⟨(undef, fun _ => undef)⟩
  obtain ⟨cO, hcO⟩ := Go.Deep.choose_lt keyO
  obtain ⟨az, haz⟩ : ∃ az : List (TT × Value), az = List.ofFn fun i : Fin T.arrs.length => (T.arrs[i].item, cA i) := ⟨_, rfl⟩
  obtain ⟨os, hos⟩ : ∃ os : List (List (TT × Value) × (TT × Value)), os = List.ofFn fun k : Fin T.objs.length => (List.ofFn (fun j : Fin T.objs[k].fields.length => (T.objs[k].fields[j], (cO k).2 j)), (T.objs[k].rest, (cO k).1)) := ⟨_, rfl⟩
  have lA : az.length = T.arrs.length := by rw [haz, List.length_ofFn]
  have lO : os.length = T.objs.length := by rw [hos, List.length_ofFn]
  have gA : ∀ i, (hi : i < az.length) → (hi2 : i < T.arrs.length) → az[i] = (T.arrs[i].item, cA i) := fun i hi hi2 => by subst haz; simp
  have gO : ∀ k, (hk : k < os.length) → (hk2 : k < T.objs.length) → os[k] = (List.ofFn (fun j : Fin T.objs[k].fields.length => (T.objs[k].fields[j], (cO k).2 j)), (T.objs[k].rest, (cO k).1)) := fun k hk hk2 => by subst hos; simp
  refine ⟨az, os, lA, lO, a3, a4, a7, a8, ?_, ?_, ?_⟩
  · unfold partsT insT
    rw [List.map_append, List.map_flatMap]
    congr 1
    · apply List.ext_getElem
      · rw [List.length_map, List.length_map, lA]
      · intro i h1 h2
        rw [List.length_map] at h1 h2
        rw [List.getElem_map, List.getElem_map, gA i h1 h2]
    · have key : os.map (fun o => (o.1 ++ [o.2]).map (·.1)) = T.objs.map fun o => o.fields ++ [o.rest] := by
        apply List.ext_getElem
        · rw [List.length_map, List.length_map, lO]
        · intro k h1 h2
          rw [List.length_map] at h1 h2
          rw [List.getElem_map, List.getElem_map, gO k h1 h2, List.map_append]
          congr 1
          apply List.ext_getElem
          · simp
          · intro j h3 h4
            simp
      rw [List.flatMap_def, List.flatMap_def, key]
  · intro x hx
    rcases List.mem_append.1 hx with hx | hx
    · obtain ⟨i, hi, rfl⟩ := List.getElem_of_mem hx
      rw [gA i hi (by omega)]
      exact (hcA i (by omega)).2.1
    · obtain ⟨p, hp, hx⟩ := List.mem_flatMap.1 hx
      obtain ⟨k, hk, rfl⟩ := List.getElem_of_mem hp
      rw [gO k hk (by omega)] at hx
      rcases List.mem_append.1 hx with hx | hx
      · obtain ⟨j, rfl⟩ := List.mem_ofFn.1 hx
        exact (hcO k (by omega)).2.2.1 j.1 j.2
      · obtain rfl := List.mem_singleton.1 hx
        exact (hcO k (by omega)).2.1
  · intro W B hb c7 c8
    refine ⟨by rw [lA]; exact c7, by rw [lO]; exact c8, fun i hi => ?_, fun k hk => ?_⟩
    · rw [gA i hi (by omega)]
      obtain ⟨b, off, mn, mx, e2, hl, x, y, z⟩ := (hcA i (by omega)).2.2
      exact ⟨b, off, mn, mx, e2, hl, x.keep hb hl, (hb.cell (p := ⟨_, _, _⟩) hl).trans y, (hb.cell (p := ⟨_, _, _⟩) hl).trans z⟩
    · obtain ⟨b, off, ko, nK, kc, fo, fc, mo, nM, mc, e2, hl, ⟨x, y, z⟩, r, l1, l2, hf⟩ := (hcO k (by omega)).2.2.2
      have hlen : os[k].1.length = T.objs[k].fields.length := by rw [gO k hk (by omega), List.length_ofFn]
      refine ⟨b, off, ko, nK, kc, fo, fc, mo, nM, mc, e2, hl, ⟨(hb.cell (p := ⟨_, _, _⟩) hl).trans x, by rw [hlen]; exact (hb.cell (p := ⟨_, _, _⟩) hl).trans y, (hb.cell (p := ⟨_, _, _⟩) hl).trans z⟩, ?_, by rw [hlen]; exact l1, by rw [hlen]; exact l2, fun j hj => ?_⟩
      · rw [gO k hk (by omega)]; exact r.keep hb hl
      · obtain ⟨b2, off2, e3, hl2, x2⟩ := hf j (by omega)
        have he : os[k].1[j].2 = (cO k).2 j := by
          have := gO k hk (by omega)
          simp only [this, List.getElem_ofFn]
        exact ⟨b2, off2, e3, hl2, by rw [he]; exact x2.keep hb hl2⟩

/-- a part's own box -/
structure IB9 (W : World) (Bx : Nat) (v : Value) : Prop where
  row : ∃ a, v = .agg a ∧ W.heap[Bx]? = some (.cells a 33 (0, 0))
theorem ib9_own (m : Nat) (Bx : Nat) (v : Value) : OwnFrom m (fun (_ : Unit) W => IB9 W Bx v) := by
  intro _ A B row h hg hr
  obtain ⟨a, e, hrow⟩ := h.row
  refine ⟨a, e, ?_⟩
  rw [hg.block Bx (Array.getElem?_eq_some_iff.1 hrow).1 ?_]
  · exact hrow
  · intro e
    obtain ⟨_, o, ho, hc⟩ := hr Bx e.symm
    rw [hrow] at ho
    cases ho
    simp [Obj.isCells] at hc
theorem tkeepsFrom {m : Nat} {W W' : World} (h : Below W.heap.size W W') : KeepsFrom m W W' := ⟨h.size, fun k o _ hk _ => (h.block k (Array.getElem?_eq_some_iff.1 hk).1).trans hk⟩
theorem tboxed_low {W W' : World} {B : Nat} {t : TypeId} {v : Value} (h : Boxed W B t v) (hb : Below W.heap.size W W') : Boxed W' B t v := (hb.block B h.lt).trans h
end Go.Proofs.Ytdjoelhiahpmlaa
