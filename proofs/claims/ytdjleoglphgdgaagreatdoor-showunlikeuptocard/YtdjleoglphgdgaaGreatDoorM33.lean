import Derived.Test.YtdjleoglphgdgaaGreatDoorM31
namespace Go.Proofs.YtdjleoglphgdgaaGreatDoor
open Go.RowKit Go.Shelf
set_option linter.unusedVariables false
set_option linter.unusedSimpArgs false
attribute [local go_sem] Oper.semAt_some

end Go.Proofs.YtdjleoglphgdgaaGreatDoor
namespace Go.Proofs.YtdjleoglphgdgaaGreatDoor
open Go.RowKit Go.Shelf
set_option linter.unusedVariables false
set_option linter.unusedSimpArgs false

theorem rsetN {u : World} {B i : Nat} {c : Array Value} {t : TypeId} (v : Value) (h : u.heap[B]? = some (.cells c t (0, 0))) : (u.setCell ⟨B, i, none⟩ v).heap[B]? = some (.cells (c.setIfInBounds i v) t (0, 0)) := heap_setCell_same u B i c t v h
/-- how a world lies behind stores into one box -/
structure Put (B : Nat) (o : Obj) (w w' : World) : Prop where
  new : w'.heap[B]? = some o
  rest : ∀ b, b ≠ B → w'.heap[b]? = w.heap[b]?
  size : w'.heap.size = w.heap.size
  os : w'.os = w.os
  tape : w'.tape = w.tape
  output : w'.output = w.output
theorem Put.below {B n : Nat} {o : Obj} {w w' : World} (h : Put B o w w') (hn : n ≤ B) : Below n w w' := ⟨h.os, h.tape, h.output, by rw [h.size]; exact Nat.le_refl _, fun k hk => h.rest k (by omega)⟩
theorem Put.bt {B I : Nat} {o : Obj} {w a w' : World} (h : Put B o a w') (hb : Bt I w a) (hn : w.heap.size ≤ B) : Bt I w w' := hb.step hn (h.below (Nat.le_refl _))
theorem nd_cells {w : World} {B : Nat} {t : TypeId} {y0 y1 y2 y3 y4 y5 y6 y7 y8 y9 : Value} (h : w.heap[B]? = some (.cells #[y0, y1, y2, y3, y4, y5, y6, y7, y8, y9] t (0, 0))) :
    w.cell? ⟨B, 0, none⟩ = some y0 ∧ w.cell? ⟨B, 1, none⟩ = some y1 ∧ w.cell? ⟨B, 2, none⟩ = some y2 ∧ w.cell? ⟨B, 3, none⟩ = some y3 ∧ w.cell? ⟨B, 4, none⟩ = some y4 ∧ w.cell? ⟨B, 5, none⟩ = some y5 ∧ w.cell? ⟨B, 6, none⟩ = some y6 ∧ w.cell? ⟨B, 7, none⟩ = some y7 ∧ w.cell? ⟨B, 8, none⟩ = some y8 ∧ w.cell? ⟨B, 9, none⟩ = some y9 := by
  refine ⟨?_, ?_, ?_, ?_, ?_, ?_, ?_, ?_, ?_, ?_⟩ <;> rw [cell_of_row _ _ _ _ _ _ h] <;> rfl
theorem nd_frozen {w : World} {B : Nat} {t : TypeId} {cs : Array Value} (h : w.heap[B]? = some (.cells cs t (0, 0))) :
    w.frozen? ⟨B, 0, none⟩ = false ∧ w.frozen? ⟨B, 1, none⟩ = false ∧ w.frozen? ⟨B, 2, none⟩ = false ∧ w.frozen? ⟨B, 3, none⟩ = false ∧ w.frozen? ⟨B, 4, none⟩ = false ∧ w.frozen? ⟨B, 5, none⟩ = false ∧ w.frozen? ⟨B, 6, none⟩ = false ∧ w.frozen? ⟨B, 7, none⟩ = false ∧ w.frozen? ⟨B, 8, none⟩ = false ∧ w.frozen? ⟨B, 9, none⟩ = false := ⟨frozen_rowT h, frozen_rowT h, frozen_rowT h, frozen_rowT h, frozen_rowT h, frozen_rowT h, frozen_rowT h, frozen_rowT h, frozen_rowT h, frozen_rowT h⟩
end Go.Proofs.YtdjleoglphgdgaaGreatDoor
namespace Go.Proofs.YtdjleoglphgdgaaGreatDoor
open Go.RowKit Go.Shelf
set_option linter.unusedVariables false
set_option linter.unusedSimpArgs false
attribute [local go_sem] Oper.semAt_some

end Go.Proofs.YtdjleoglphgdgaaGreatDoor
namespace Go.Proofs.YtdjleoglphgdgaaGreatDoor
open Go.RowKit Go.Shelf
set_option linter.unusedVariables false
set_option linter.unusedSimpArgs false
attribute [local go_sem] Oper.semAt_some

theorem PAt.stepT {W W' : World} {B : Nat} {so : Option Addr} {sc : Nat} {ws : List Tok} {nb t o : Nat} (h : PAt W B so sc ws nb t o) (t' o' : Nat) (hb : Bt B W W') (ht : t' ≤ ws.length) (ho : o' ≤ 64)
    (hx : W'.heap[B]? = some (.cells #[.slice so ws.length sc, .int .i64 (t' : Int), .int .i64 (nb : Int), .int .i64 (o' : Int)] 66 (0, 0))) : PAt W' B so sc ws nb t' o' :=
  ⟨hx, h.row.bt h.apart hb, h.cap, h.apart, h.few, ht, ho⟩

end Go.Proofs.YtdjleoglphgdgaaGreatDoor
namespace Go.Proofs.YtdjleoglphgdgaaGreatDoor
open Go.RowKit Go.Shelf
set_option linter.unusedVariables false
set_option linter.unusedSimpArgs false
attribute [local go_sem] Oper.semAt_some

/-- a filter's part as a value: its cells -/
structure ND where
  op : Int
  at_ : Int
  vk : Int
  tx : ByteArray
  nu : ByteArray
  vt : ByteArray
  io : Option Addr
  yo : Option Addr
  no : Option Addr
  ko : Option Addr
  iN : Nat
  ic : Nat
  yN : Nat
  yc : Nat
  nN : Nat
  nc : Nat
  kN : Nat
  kc : Nat
/-- a call's world on its way: all but the parser as it lay, the parser where it stands, the answer's box still empty -/
structure St (w : World) (B : Nat) (so : Option Addr) (sc : Nat) (ws : List Tok) (nb t o : Nat) (W : World) : Prop where
  bt : Bt B w W
  pat : PAt W B so sc ws nb t o
  lt : w.heap.size < W.heap.size
  res : W.heap[w.heap.size]? = some (.cells #[.int .i64 0, .int .i64 0, .string ⟨#[]⟩, .int .i64 0, .string ⟨#[]⟩, .string ⟨#[]⟩, .slice none 0 0, .slice none 0 0, .slice none 0 0, .slice none 0 0] 28 (0, 0))
theorem St.new {w : World} {B : Nat} {so : Option Addr} {sc : Nat} {ws : List Tok} {nb t o : Nat} (h : PAt w B so sc ws nb t o) : St w B so sc ws nb t o (w.alloc (.cells #[.int .i64 0, .int .i64 0, .string ⟨#[]⟩, .int .i64 0, .string ⟨#[]⟩, .string ⟨#[]⟩, .slice none 0 0, .slice none 0 0, .slice none 0 0, .slice none 0 0] 28)) := ⟨(Bt.refl B w).alloc _, h.alloc _, by simp, heap_alloc_new w _⟩
theorem St.keep {w W W' : World} {B : Nat} {so : Option Addr} {sc : Nat} {ws : List Tok} {nb t o : Nat} (h : St w B so sc ws nb t o W) (hb : Below W.heap.size W W') : St w B so sc ws nb t o W' := ⟨h.bt.trans (Bt.of hb), h.pat.keep hb, Nat.lt_of_lt_of_le h.lt hb.size, (hb.block _ h.lt).trans h.res⟩
theorem St.step {w W W' : World} {B : Nat} {so : Option Addr} {sc : Nat} {ws : List Tok} {nb t o : Nat} {t' o' : Nat} (h : St w B so sc ws nb t o W) (hB : B < w.heap.size) (hb : Bt B W W') (hp : PAt W' B so sc ws nb t' o') : St w B so sc ws nb t' o' W' := ⟨h.bt.trans hb, hp, Nat.lt_of_lt_of_le h.lt hb.size, (hb.block _ h.lt (by omega)).trans h.res⟩
theorem St.alloc {w W : World} {B : Nat} {so : Option Addr} {sc : Nat} {ws : List Tok} {nb t o : Nat} (h : St w B so sc ws nb t o W) (x : Obj) : St w B so sc ws nb t o (W.alloc x) := h.keep ((Below.refl _ _).alloc (Nat.le_refl _) x)
theorem St.drew {w W : World} {B : Nat} {so : Option Addr} {sc : Nat} {ws : List Tok} {nb t o : Nat} (h : St w B so sc ws nb t o W) : St w B so sc ws nb t o W.drew := h.keep (Below.refl _ _).drew
theorem St.put {w W W' : World} {B : Nat} {so : Option Addr} {sc : Nat} {ws : List Tok} {nb t o : Nat} {t0 o0 : Nat} {x : Obj} (h : St w B so sc ws nb t o W) (h0 : PAt w B so sc ws nb t0 o0) (hp : Put w.heap.size x W W') : Bt B w W' ∧ PAt W' B so sc ws nb t o := by
  have hB := h0.lt
  have hb : Bt B w W' := hp.bt h.bt (Nat.le_refl _)
  exact ⟨hb, h0.stepT t o hb h.pat.le h.pat.open_ ((hp.rest B (by omega)).trans h.pat.box)⟩

end Go.Proofs.YtdjleoglphgdgaaGreatDoor
