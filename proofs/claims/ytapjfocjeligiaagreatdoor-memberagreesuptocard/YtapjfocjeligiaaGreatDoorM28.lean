import Derived.Test.YtapjfocjeligiaaGreatDoorM25
import Derived.Test.YtapjfocjeligiaaGreatDoorM27
import Derived.Laws.Rows
import Derived.Test.YtapjfocjeligiaaGreatDoorM26
import Derived.Test.YtapjfocjeligiaaGreatDoorM16
namespace Go.Proofs.YtapjfocjeligiaaGreatDoor
open Go.RowKit Go.Shelf Go.Sort
set_option linter.unusedVariables false
set_option linter.unusedSimpArgs false
attribute [local go_sem] Oper.semAt_some

/-- two boxes -/
structure Bx2 (w u : World) (xs ys : Array Value) : Prop where
  below : Below w.heap.size w u
  one : ∀ j, u.cell? ⟨w.heap.size, j, none⟩ = xs[j]?
  two : ∀ j, u.cell? ⟨w.heap.size + 1, j, none⟩ = ys[j]?
  lt : w.heap.size + 1 < u.heap.size
theorem Bx2.keep {w u u' : World} {xs ys : Array Value} (x : Bx2 w u xs ys) (hb : Below u.heap.size u u') : Bx2 w u' xs ys :=
  ⟨x.below.trans (hb.mono x.below.size), fun j => (hb.cell (p := ⟨_, _, _⟩) (by have := x.lt; show w.heap.size < _; omega)).trans (x.one j), fun j => (hb.cell (p := ⟨_, _, _⟩) x.lt).trans (x.two j), Nat.lt_of_lt_of_le x.lt hb.size⟩
theorem bx2_new (w : World) (xs ys : Array Value) (t : TypeId) : Bx2 w ((w.alloc (.cells xs t)).alloc (.cells ys t)) xs ys := by
  refine ⟨((Below.refl _ _).alloc (Nat.le_refl _) _).alloc (by simp) _, fun j => ?_, fun j => ?_, by simp⟩
  · exact cell_of_row _ _ j xs t (0, 0) ((Below.heap_alloc _ _ _ (by simp)).trans (World.alloc_heap_new w _))
  · have h := World.alloc_heap_new (w.alloc (.cells xs t)) (.cells ys t)
    rw [World.size_alloc] at h
    exact cell_of_row _ _ j ys t (0, 0) h
/-- a row of types, as it lies -/
structure TyIn (W : World) (h : Nat) (fo : Option Addr) (fs : List TT) : Prop where
  row : 0 < fs.length → ∃ b2 off2, fo = some ⟨b2, off2, none⟩ ∧ b2 < W.heap.size ∧ ∀ j, (hj : j < fs.length) → ∃ d0 d1 d2 d3 d4 d5 d6 d7 d8 : Value,
    C9 W b2 (off2 + j * 9) d0 d1 d2 d3 d4 d5 d6 d7 d8 ∧ InT W h fs[j] (.agg #[d0, d1, d2, d3, d4, d5, d6, d7, d8])
theorem TyIn.keep {W W' : World} {h : Nat} {fo : Option Addr} {fs : List TT} (x : TyIn W h fo fs) (hb : Below W.heap.size W W') : TyIn W' h fo fs := by
  refine ⟨fun hf => ?_⟩
  obtain ⟨b2, off2, e3, hl2, hd⟩ := x.row hf
  refine ⟨b2, off2, e3, Nat.lt_of_lt_of_le hl2 hb.size, fun j hj => ?_⟩
  obtain ⟨d0, d1, d2, d3, d4, d5, d6, d7, d8, k1, k2⟩ := hd j hj
  exact ⟨d0, d1, d2, d3, d4, d5, d6, d7, d8, k1.keep hb hl2, k2.keep hb⟩

end Go.Proofs.YtapjfocjeligiaaGreatDoor
namespace Go.Proofs.YtapjfocjeligiaaGreatDoor
open Go.RowKit Go.Shelf Go.Sort
set_option linter.unusedVariables false
set_option linter.unusedSimpArgs false

/-- is a text among these? -/
def hasK (ks : List ByteArray) (s : ByteArray) : Bool := ks.any fun k => eqS k s
/-- what stands under a name -/
def getL : List ByteArray → List VT → ByteArray → Option VT
  | [], _, _ => none
  | k :: ks, its, s => if eqS k s then its.head? else getL ks its.tail s
def getV (V : VT) (s : ByteArray) : Option VT := if V.kind = 6 then getL V.keys V.items s else none
/-- a number is a span's -/
def hasP (n : ByteArray) (p : ByteArray × ByteArray) : Bool := !(!p.1.toList.isEmpty && decide (numC n p.1 < 0)) && (p.2.toList.isEmpty || decide (numC n p.2 ≤ 0))
def inNum (n : ByteArray) : List (ByteArray × ByteArray) → Bool
  | [] => false
  | p :: _ => hasP n p
def inAr (f : VT → TT → Bool) (its : List VT) (a : AR) : Bool := !(decide ((its.length : Int) < a.min) || (decide (0 ≤ a.max) && decide (a.max < (its.length : Int)))) && its.all fun x => f x a.item
def inArs (f : VT → TT → Bool) (its : List VT) : List AR → Bool
  | [] => false
  | a :: _ => inAr f its a
def inF (f : VT → TT → Bool) (V : VT) (x : ByteArray × TT × Bool) : Bool := match getV V x.1 with
  | some y => f y x.2.1
  | none => !x.2.2
def inOb (f : VT → TT → Bool) (V : VT) (o : OB) : Bool := (o.names.zip (o.fields.zip o.must)).all (inF f V) && (V.keys.zip V.items).all fun p => hasK o.names p.1 || f p.2 o.rest
/-- a value is of a type -/
def inN : Nat → VT → TT → Bool
  | 0, _, _ => false
  | h + 1, V, T => T.all || (if V.kind = 0 then T.nul else if V.kind = 1 then T.fls else if V.kind = 2 then T.tru else if V.kind = 3 then inNum V.num T.nums else if V.kind = 4 then (T.any || hasK T.texts V.text) else if V.kind = 5 then inArs (inN h) V.items T.arrs else T.objs.any (inOb (inN h) V))
theorem any_up {α : Type} {l : List α} {f : α → Bool} {k : Nat} (hk : k < l.length) : (l.take (k + 1)).any f = ((l.take k).any f || f l[k]) := by
  rw [List.take_succ_eq_append_getElem hk, List.any_append]; simp
theorem any_yes {α : Type} {l : List α} {f : α → Bool} {k : Nat} (hk : k < l.length) (h : f l[k] = true) : l.any f = true := List.any_eq_true.2 ⟨_, List.getElem_mem hk, h⟩
theorem getL_drop : ∀ (ks : List ByteArray) (its : List VT) (s : ByteArray) (k : Nat), (∀ j, (hj : j < ks.length) → j < k → eqS ks[j] s = false) → getL ks its s = getL (ks.drop k) (its.drop k) s
  | [], its, s, k, _ => by simp [getL]
  | c :: ks, its, s, 0, _ => by simp
  | c :: ks, its, s, k + 1, h => by
    have h0 := h 0 (by simp) (by omega)
    have ih := getL_drop ks its.tail s k (fun j hj hk => h (j + 1) (by simpa using hj) (by omega))
    rw [getL, if_neg (by rw [show eqS c s = false from h0]; simp), ih, List.drop_succ_cons]
    cases its <;> simp
theorem getL_at {ks : List ByteArray} {its : List VT} {s : ByteArray} {k : Nat} (hk : k < ks.length) (h : eqS ks[k] s = true) (hb : ∀ j, (hj : j < ks.length) → j < k → eqS ks[j] s = false) : getL ks its s = its[k]? := by
  rw [getL_drop ks its s k hb, List.drop_eq_getElem_cons hk, getL, if_pos h, List.head?_drop]
theorem getL_none {ks : List ByteArray} {its : List VT} {s : ByteArray} (hb : ∀ j, (hj : j < ks.length) → eqS ks[j] s = false) : getL ks its s = none := by
  rw [getL_drop ks its s ks.length (fun j hj _ => hb j hj), List.drop_length]; rfl
theorem getL_mem : ∀ {ks : List ByteArray} {its : List VT} {s : ByteArray} {x : VT}, getL ks its s = some x → x ∈ its
  | [], _, _, _, h => by cases h
  | c :: ks, its, s, x, h => by
    unfold getL at h
    split at h
    · cases its with
      | nil => cases h
      | cons y ys => simp at h; rw [h]; exact List.mem_cons_self ..
    · have := getL_mem h
      cases its with
      | nil => exact this
      | cons y ys => exact List.mem_cons_of_mem _ this
/-- two boxes of two types -/
theorem bx2_two (w : World) (xs ys : Array Value) (t t2 : TypeId) : Bx2 w ((w.alloc (.cells xs t)).alloc (.cells ys t2)) xs ys := by
  refine ⟨((Below.refl _ _).alloc (Nat.le_refl _) _).alloc (by simp) _, fun j => ?_, fun j => ?_, by simp⟩
  · exact cell_of_row _ _ j xs t (0, 0) ((Below.heap_alloc _ _ _ (by simp)).trans (World.alloc_heap_new w _))
  · have h := World.alloc_heap_new (w.alloc (.cells xs t)) (.cells ys t2)
    rw [World.size_alloc] at h
    exact cell_of_row _ _ j ys t2 (0, 0) h
end Go.Proofs.YtapjfocjeligiaaGreatDoor
