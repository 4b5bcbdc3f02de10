import Derived.Test.YtdjleoglphgdgaaGreatDoorM30
import Derived.Test.YtdjleoglphgdgaaGreatDoorM24
import Derived.Test.YtdjleoglphgdgaaGreatDoorM14
namespace Go.Proofs.YtdjleoglphgdgaaGreatDoor
open Go.RowKit Go.Shelf
set_option linter.unusedVariables false
set_option linter.unusedSimpArgs false

/-- all that lay is as it lay, but one block -/
structure Bt (I : Nat) (w w' : World) : Prop where
  os : w'.os = w.os
  tape : w'.tape = w.tape
  output : w'.output = w.output
  size : w.heap.size ≤ w'.heap.size
  block : ∀ k, k < w.heap.size → k ≠ I → w'.heap[k]? = w.heap[k]?
theorem Bt.of {I : Nat} {w w' : World} (h : Below w.heap.size w w') : Bt I w w' := ⟨h.os, h.tape, h.output, h.size, fun k hk _ => h.block k hk⟩
theorem Bt.refl (I : Nat) (w : World) : Bt I w w := Bt.of (Below.refl _ _)
theorem Bt.trans {I : Nat} {a b c : World} (h : Bt I a b) (k : Bt I b c) : Bt I a c :=
  ⟨k.os.trans h.os, k.tape.trans h.tape, k.output.trans h.output, Nat.le_trans h.size k.size, fun i hi hn => (k.block i (Nat.lt_of_lt_of_le hi h.size) hn).trans (h.block i hi hn)⟩
theorem Bt.below {I n : Nat} {w w' : World} (h : Bt I w w') (hn : n ≤ w.heap.size) (hI : n ≤ I) : Below n w w' := ⟨h.os, h.tape, h.output, h.size, fun k hk => h.block k (by omega) (by omega)⟩
theorem Bt.step {I n : Nat} {w a b : World} (h : Bt I w a) (hn : w.heap.size ≤ n) (k : Below n a b) : Bt I w b :=
  ⟨k.os.trans h.os, k.tape.trans h.tape, k.output.trans h.output, Nat.le_trans h.size k.size, fun i hi hne => (k.block i (by omega)).trans (h.block i hi hne)⟩
theorem Bt.set {I : Nat} {w a : World} (h : Bt I w a) (j : Nat) (v : Value) : Bt I w (a.setCell ⟨I, j, none⟩ v) :=
  ⟨h.os, h.tape, h.output, by simp [World.setCell]; exact h.size, fun k hk hn => (Below.heap_setCell _ _ _ _ hn).trans (h.block k hk hn)⟩
theorem Bt.alloc {I : Nat} {w a : World} (h : Bt I w a) (o : Obj) : Bt I w (a.alloc o) := h.step (n := a.heap.size) h.size ((Below.refl _ _).alloc (Nat.le_refl _) o)

/-- a value's tree stands in memory, in such blocks -/
def InV (D : Nat → Prop) (W : World) : Nat → VT → Value → Prop
  | 0, _, _ => False
  | h + 1, T, v => ∃ (io : Option Addr) (icap : Nat) (ko : Option Addr) (kcap : Nat),
      v = .agg #[.int .i64 T.kind, .string T.num, .string T.text, .slice io T.items.length icap, .slice ko T.keys.length kcap] ∧
      T.num.size ≤ 140737488355328 ∧ T.text.size ≤ 140737488355328 ∧ T.items.length ≤ 140737488355328 ∧ T.keys.length ≤ 140737488355328 ∧ T.items.length ≤ icap ∧ T.keys.length ≤ kcap ∧
      (∀ k ∈ T.keys, k.size ≤ 140737488355328) ∧
      (0 < T.keys.length → ∃ b off, ko = some ⟨b, off, none⟩ ∧ D b ∧ b < W.heap.size ∧ ∀ i, i < T.keys.length → W.cell? ⟨b, off + i, none⟩ = some (.string (T.keys.getD i .empty))) ∧
      (0 < T.items.length → ∃ b off, io = some ⟨b, off, none⟩ ∧ D b ∧ b < W.heap.size ∧ ∀ i, (hi : i < T.items.length) → ∃ v0 v1 v2 v3 v4 : Value,
        (W.cell? ⟨b, off + i * 5, none⟩ = some v0 ∧ W.cell? ⟨b, off + i * 5 + 1, none⟩ = some v1 ∧ W.cell? ⟨b, off + i * 5 + 2, none⟩ = some v2 ∧ W.cell? ⟨b, off + i * 5 + 3, none⟩ = some v3 ∧ W.cell? ⟨b, off + i * 5 + 4, none⟩ = some v4) ∧ InV D W h T.items[i] (.agg #[v0, v1, v2, v3, v4]))
theorem InV.keep {D D' : Nat → Prop} {W W' : World} (hz : W.heap.size ≤ W'.heap.size) (hs : ∀ b, D b → b < W.heap.size → W'.heap[b]? = W.heap[b]?) (hlo : ∀ b, D b → b < W.heap.size → D' b) : ∀ {h : Nat} {T : VT} {v : Value}, InV D W h T v → InV D' W' h T v
  | 0, _, _, h => h
  | h + 1, T, v, hI => by
    obtain ⟨io, icap, ko, kcap, e, a1, a2, a3, a4, a5, a6, a7, hk, hi⟩ := hI
    have cc : ∀ b o u, D b → b < W.heap.size → W.cell? ⟨b, o, none⟩ = some u → W'.cell? ⟨b, o, none⟩ = some u := fun b o u h1 h2 h3 => (World.cell?_of_block (a := ⟨b, o, none⟩) (hs b h1 h2)).trans h3
    refine ⟨io, icap, ko, kcap, e, a1, a2, a3, a4, a5, a6, a7, fun h0 => ?_, fun h0 => ?_⟩
    · obtain ⟨b, off, e2, hb, hl, hc⟩ := hk h0
      exact ⟨b, off, e2, hlo b hb hl, Nat.lt_of_lt_of_le hl hz, fun i hi => cc _ _ _ hb hl (hc i hi)⟩
    · obtain ⟨b, off, e2, hb, hl, hc⟩ := hi h0
      refine ⟨b, off, e2, hlo b hb hl, Nat.lt_of_lt_of_le hl hz, fun i hil => ?_⟩
      obtain ⟨v0, v1, v2, v3, v4, ⟨c0, c1, c2, c3, c4⟩, ht⟩ := hc i hil
      exact ⟨v0, v1, v2, v3, v4, ⟨cc _ _ _ hb hl c0, cc _ _ _ hb hl c1, cc _ _ _ hb hl c2, cc _ _ _ hb hl c3, cc _ _ _ hb hl c4⟩, InV.keep hz hs hlo ht⟩
theorem InV.ofH {W : World} : ∀ {h : Nat} {T : VT} {v : Value}, InH W h T v → InV (fun _ => True) W h T v
  | 0, _, _, h => h
  | h + 1, T, v, hI => by
    obtain ⟨io, icap, ko, kcap, e, a1, a2, a3, a4, a5, a6, a7, ⟨hk⟩, hi⟩ := hI
    refine ⟨io, icap, ko, kcap, e, a1, a2, a3, a4, a5, a6, a7, fun h0 => ?_, fun h0 => ?_⟩
    · obtain ⟨b, off, e2, hl, hc⟩ := hk h0
      exact ⟨b, off, e2, trivial, hl, hc⟩
    · obtain ⟨b, off, e2, hl, hc⟩ := hi h0
      refine ⟨b, off, e2, trivial, hl, fun i hil => ?_⟩
      obtain ⟨v0, v1, v2, v3, v4, c, ht⟩ := hc i hil
      exact ⟨v0, v1, v2, v3, v4, c, InV.ofH ht⟩
theorem InV.toH {D : Nat → Prop} {W : World} : ∀ {h : Nat} {T : VT} {v : Value}, InV D W h T v → InH W h T v
  | 0, _, _, h => h
  | h + 1, T, v, hI => by
    obtain ⟨io, icap, ko, kcap, e, a1, a2, a3, a4, a5, a6, a7, hk, hi⟩ := hI
    refine ⟨io, icap, ko, kcap, e, a1, a2, a3, a4, a5, a6, a7, ⟨fun h0 => ?_⟩, fun h0 => ?_⟩
    · obtain ⟨b, off, e2, _, hl, hc⟩ := hk h0
      exact ⟨b, off, e2, hl, hc⟩
    · obtain ⟨b, off, e2, _, hl, hc⟩ := hi h0
      refine ⟨b, off, e2, hl, fun i hil => ?_⟩
      obtain ⟨v0, v1, v2, v3, v4, c, ht⟩ := hc i hil
      exact ⟨v0, v1, v2, v3, v4, c, InV.toH ht⟩

/-- a filter as a tree -/
inductive NT where
  | mk (op at_ : Int) (text : ByteArray) (value : VT) (names : List ByteArray) (kids : List NT)
def NT.op : NT → Int | .mk a _ _ _ _ _ => a
def NT.at_ : NT → Int | .mk _ a _ _ _ _ => a
def NT.text : NT → ByteArray | .mk _ _ a _ _ _ => a
def NT.value : NT → VT | .mk _ _ _ a _ _ => a
def NT.names : NT → List ByteArray | .mk _ _ _ _ a _ => a
def NT.kids : NT → List NT | .mk _ _ _ _ _ a => a
def ndV (c : Fin 10 → Value) : Value := .agg #[c 0, c 1, c 2, c 3, c 4, c 5, c 6, c 7, c 8, c 9]
/-- a filter's tree stands in memory, in such blocks, no higher than so -/
def InN (D : Nat → Prop) (W : World) : Nat → NT → Value → Prop
  | 0, _, _ => False
  | h + 1, T, v => ∃ (io : Option Addr) (icap : Nat) (yo : Option Addr) (ycap : Nat) (no : Option Addr) (nc : Nat) (ko : Option Addr) (kc : Nat),
      v = .agg #[.int .i64 T.op, .int .i64 T.at_, .string T.text, .int .i64 T.value.kind, .string T.value.num, .string T.value.text, .slice io T.value.items.length icap, .slice yo T.value.keys.length ycap, .slice no T.names.length nc, .slice ko T.kids.length kc] ∧
      T.text.size ≤ 140737488355328 ∧ InV D W (h + 1) T.value (.agg #[.int .i64 T.value.kind, .string T.value.num, .string T.value.text, .slice io T.value.items.length icap, .slice yo T.value.keys.length ycap]) ∧
      (T.names.length ≤ nc ∧ T.names.length ≤ 140737488355328 ∧ ∀ k ∈ T.names, k.size ≤ 140737488355328) ∧
      (T.kids.length ≤ kc ∧ T.kids.length ≤ 140737488355328) ∧
      (0 < T.names.length → ∃ b off, no = some ⟨b, off, none⟩ ∧ D b ∧ b < W.heap.size ∧ ∀ i, i < T.names.length → W.cell? ⟨b, off + i, none⟩ = some (.string (T.names.getD i .empty))) ∧
      (0 < T.kids.length → ∃ b off, ko = some ⟨b, off, none⟩ ∧ D b ∧ b < W.heap.size ∧ ∀ i, (hi : i < T.kids.length) → ∃ c : Fin 10 → Value,
        (∀ j : Fin 10, W.cell? ⟨b, off + i * 10 + j.1, none⟩ = some (c j)) ∧ InN D W h T.kids[i] (ndV c))
theorem InN.keep {D D' : Nat → Prop} {W W' : World} (hz : W.heap.size ≤ W'.heap.size) (hs : ∀ b, D b → b < W.heap.size → W'.heap[b]? = W.heap[b]?) (hlo : ∀ b, D b → b < W.heap.size → D' b) : ∀ {h : Nat} {T : NT} {v : Value}, InN D W h T v → InN D' W' h T v
  | 0, _, _, h => h
  | h + 1, T, v, hI => by
    obtain ⟨io, icap, yo, ycap, no, nc, ko, kc, e, a1, a2, a3, a4, hn, hk⟩ := hI
    have cc : ∀ b o u, D b → b < W.heap.size → W.cell? ⟨b, o, none⟩ = some u → W'.cell? ⟨b, o, none⟩ = some u := fun b o u h1 h2 h3 => (World.cell?_of_block (a := ⟨b, o, none⟩) (hs b h1 h2)).trans h3
    refine ⟨io, icap, yo, ycap, no, nc, ko, kc, e, a1, a2.keep hz hs hlo, a3, a4, fun h0 => ?_, fun h0 => ?_⟩
    · obtain ⟨b, off, e2, hb, hl, hc⟩ := hn h0
      exact ⟨b, off, e2, hlo b hb hl, Nat.lt_of_lt_of_le hl hz, fun i hi => cc _ _ _ hb hl (hc i hi)⟩
    · obtain ⟨b, off, e2, hb, hl, hc⟩ := hk h0
      refine ⟨b, off, e2, hlo b hb hl, Nat.lt_of_lt_of_le hl hz, fun i hil => ?_⟩
      obtain ⟨c, h1, ht⟩ := hc i hil
      exact ⟨c, fun j => cc _ _ _ hb hl (h1 j), InN.keep hz hs hlo ht⟩
theorem InV.up {D : Nat → Prop} {W : World} : ∀ {h : Nat} {T : VT} {v : Value}, InV D W h T v → InV D W (h + 1) T v
  | 0, _, _, h => h.elim
  | h + 1, T, v, hI => by
    obtain ⟨io, icap, ko, kcap, e, a1, a2, a3, a4, a5, a6, a7, hk, hi⟩ := hI
    refine ⟨io, icap, ko, kcap, e, a1, a2, a3, a4, a5, a6, a7, hk, fun h0 => ?_⟩
    obtain ⟨b, off, e2, hb, hl, hc⟩ := hi h0
    refine ⟨b, off, e2, hb, hl, fun i hil => ?_⟩
    obtain ⟨v0, v1, v2, v3, v4, c, ht⟩ := hc i hil
    exact ⟨v0, v1, v2, v3, v4, c, ht.up⟩
theorem InN.up {D : Nat → Prop} {W : World} : ∀ {h : Nat} {T : NT} {v : Value}, InN D W h T v → InN D W (h + 1) T v
  | 0, _, _, h => h.elim
  | h + 1, T, v, hI => by
    obtain ⟨io, icap, yo, ycap, no, nc, ko, kc, e, a1, a2, a3, a4, hn, hk⟩ := hI
    refine ⟨io, icap, yo, ycap, no, nc, ko, kc, e, a1, a2.up, a3, a4, hn, fun h0 => ?_⟩
    obtain ⟨b, off, e2, hb, hl, hc⟩ := hk h0
    refine ⟨b, off, e2, hb, hl, fun i hil => ?_⟩
    obtain ⟨c, h1, ht⟩ := hc i hil
    exact ⟨c, h1, ht.up⟩
theorem InN.le {D : Nat → Prop} {W : World} {h h' : Nat} {T : NT} {v : Value} (hI : InN D W h T v) (hle : h ≤ h') : InN D W h' T v := by
  obtain ⟨k, rfl⟩ := Nat.exists_eq_add_of_le hle
  clear hle
  induction k with
  | zero => exact hI
  | succ k ih => exact ih.up

/-- the parser as it lies -/
structure PAt (W : World) (B : Nat) (so : Option Addr) (sc : Nat) (ws : List Tok) (nb t o : Nat) : Prop where
  box : W.heap[B]? = some (.cells #[.slice so ws.length sc, .int .i64 (t : Int), .int .i64 (nb : Int), .int .i64 (o : Int)] 66 (0, 0))
  row : TRow W so ws
  cap : ws.length ≤ sc
  apart : ∀ g off, so = some ⟨g, off, none⟩ → g ≠ B
  few : ws.length ≤ 16777216
  le : t ≤ ws.length
  open_ : o ≤ 64
theorem PAt.lt {W : World} {B : Nat} {so : Option Addr} {sc : Nat} {ws : List Tok} {nb t o : Nat} (h : PAt W B so sc ws nb t o) : B < W.heap.size := (Array.getElem?_eq_some_iff.1 h.box).1
theorem TRow.bt {W W' : World} {B : Nat} {so : Option Addr} {ws : List Tok} (h : TRow W so ws) (ha : ∀ g off, so = some ⟨g, off, none⟩ → g ≠ B) (hb : Bt B W W') : TRow W' so ws := fun i hi => by
  obtain ⟨g, off, e, hl, c0, c1, c2, c3⟩ := h i hi
  have hg := hb.block g hl (ha g off e)
  have cc : ∀ o u, W.cell? ⟨g, o, none⟩ = some u → W'.cell? ⟨g, o, none⟩ = some u := fun o u h3 => (World.cell?_of_block (a := ⟨g, o, none⟩) hg).trans h3
  exact ⟨g, off, e, Nat.lt_of_lt_of_le hl hb.size, cc _ _ c0, cc _ _ c1, cc _ _ c2, cc _ _ c3⟩
theorem PAt.keep {W W' : World} {B : Nat} {so : Option Addr} {sc : Nat} {ws : List Tok} {nb t o : Nat} (h : PAt W B so sc ws nb t o) (hb : Below W.heap.size W W') : PAt W' B so sc ws nb t o :=
  ⟨(hb.block B h.lt).trans h.box, h.row.bt h.apart (Bt.of hb), h.cap, h.apart, h.few, h.le, h.open_⟩
theorem PAt.alloc {W : World} {B : Nat} {so : Option Addr} {sc : Nat} {ws : List Tok} {nb t o : Nat} (h : PAt W B so sc ws nb t o) (x : Obj) : PAt (W.alloc x) B so sc ws nb t o := h.keep ((Below.refl _ _).alloc (Nat.le_refl _) x)
end Go.Proofs.YtdjleoglphgdgaaGreatDoor
namespace Go.Proofs.YtdjleoglphgdgaaGreatDoor
open Go.RowKit Go.Shelf
set_option linter.unusedVariables false

/-- a reading of words: how many are taken and how many things are open go in -/
abbrev PM (α : Type) := Nat → Nat → Pr α
def Pr.bd {α β : Type} (x : Pr α) (f : α → PM β) : Pr β := match x with
  | .ok a t o => f a t o
  | .bad e q => .bad e q
def pOk {α : Type} (a : α) : PM α := fun t o => .ok a t o
def pThen {α β : Type} (x : PM α) (f : α → PM β) : PM β := fun t o => (x t o).bd f
/-- rounds: at most so many -/
def lpP {α β : Type} (body : α → PM (α ⊕ β)) : Nat → α → PM β
  | 0, _ => fun _ _ => .bad 0 0
  | f + 1, a => pThen (body a) fun r => match r with
    | .inl a' => lpP body f a'
    | .inr b => pOk b
def vtN : VT := .mk 0 .empty .empty [] []
def ndP (op : Int) (at_ : Nat) (kids : List NT) : NT := .mk op (at_ : Int) .empty vtN [] kids
def txP (op : Int) (at_ : Nat) (text : List UInt8) (kids : List NT) : NT := .mk op (at_ : Int) ⟨text.toArray⟩ vtN [] kids
def cnP (at_ : Nat) (v : VT) : NT := .mk 2 (at_ : Int) .empty v [] []
def saidP (x : Tok) : NT := cnP x.at_ (.mk 4 .empty ⟨x.text.toArray⟩ [] [])
def idxP (at_ : Nat) (of key : NT) : NT := ndP 7 at_ [of, key]
def selfP (at_ : Nat) : NT := ndP 1 at_ []
def fldP (x : Tok) : NT := idxP x.at_ (selfP x.at_) (saidP x)
def varP (x : Tok) : NT := txP 6 x.at_ x.text []
def addK (A k : NT) : NT := .mk A.op A.at_ A.text A.value A.names (A.kids ++ [k])
/-- the parts that wait, around a part -/
def withinP (ws : List NT) (p : NT) : NT := ws.foldr addK p

section
variable (ws : List Tok) (nb : Nat)
def pFt {α : Type} : PM α := fun t _ => .bad (ftE ws t) (ftQ ws nb t)
def pTake : PM Tok := fun t o => .ok (hrP ws t) (t + 1) o
def isP (k : Nat) (t : Nat) : Bool := (hrP ws t).kind == k
def pMust (s : List UInt8) : PM Tok := fun t o => if syP ws t s then pTake ws t o else pFt ws nb t o
def pBe (k : Nat) : PM Tok := fun t o => if isP ws k t then pTake ws t o else pFt ws nb t o
def pOpen : PM Tok := fun t o => if o = 64 then .bad 172 (hrP ws t).at_ else .ok (hrP ws t) (t + 1) (o + 1)
def pEnter (s : List UInt8) : PM Tok := fun t o => if syP ws t s then pOpen ws t o else pFt ws nb t o
def pLeave (s : List UInt8) : PM Unit := pThen (pMust ws nb s) fun _ t o => .ok () t (o - 1)
/-- the operations: text, op, how closely it binds, how it groups (0 from the left, 1 from the right, 2 not at all) -/
def opTz : List (List UInt8 × Nat × Nat × Nat) := [([44], 13, 1, 0), ([61], 36, 2, 2), ([124, 61], 37, 2, 2), ([43, 61], 38, 2, 2), ([45, 61], 39, 2, 2), ([42, 61], 40, 2, 2), ([47, 61], 41, 2, 2), ([37, 61], 42, 2, 2), ([47, 47, 61], 43, 2, 2), ([47, 47], 27, 3, 1), ([111, 114], 26, 4, 0), ([97, 110, 100], 25, 5, 0), ([61, 61], 19, 6, 2), ([33, 61], 20, 6, 2), ([60], 21, 6, 2), ([60, 61], 22, 6, 2), ([62], 23, 6, 2), ([62, 61], 24, 6, 2), ([43], 14, 7, 0), ([45], 15, 7, 0), ([42], 16, 8, 0), ([47], 17, 8, 0), ([37], 18, 8, 0)]
def opZ (t : Nat) : List UInt8 × Nat × Nat × Nat := let x := hrP ws t; if x.kind = 10 ∨ x.kind = 2 then (opTz.find? (fun r => r.1 == x.text)).getD ([], 0, 0, 0) else ([], 0, 0, 0)

section
variable (P : PM NT) (O : Nat → PM NT)
/-- P: the pipe; O: an operand that binds so closely at least -/
def groupP : PM NT := pThen (pEnter ws nb [40]) fun _ => pThen P fun n => pThen (pLeave ws nb [41]) fun _ => pOk n
def listP : PM NT := pThen (pEnter ws nb [91]) fun x => pThen (fun t o => if syP ws t [93] then .ok [] t o else pThen P (fun n => pOk [n]) t o) fun ks => pThen (pLeave ws nb [93]) fun _ => pOk (ndP 4 x.at_ ks)
def textP : PM NT := fun t o => if isP ws 6 t then pThen (pTake ws) (fun x => pOk (saidP x)) t o else if isP ws 7 t then
    pThen (pOpen ws) (fun x0 => pThen (lpP (fun (a : List NT × Tok) => pThen P fun n t o => if isP ws 8 t then .ok (.inl (a.1 ++ [saidP a.2, n], hrP ws t)) (t + 1) o else .ok (.inr (a.1 ++ [saidP a.2, n])) t o) (ws.length + 1) ([], x0)) fun ks =>
      pThen (pBe ws nb 9) fun x t o => .ok (ndP 3 x0.at_ (ks ++ [saidP x])) t (o - 1)) t o
  else pFt ws nb t o
def pipesP (ks : List NT) (least most : Nat) : PM (List NT) := pThen (pEnter ws nb [40]) fun _ => pThen P fun n => pThen (lpP (fun (a : Nat × List NT) t o => if a.1 < most then (if least ≤ a.1 ∧ syP ws t [59] = false then .ok (.inr a.2) t o else pThen (pMust ws nb [59]) (fun _ => pThen P fun k => pOk (.inl (a.1 + 1, a.2 ++ [k]))) t o) else .ok (.inr a.2) t o) (ws.length + 1) (1, ks ++ [n])) fun ks => pThen (pLeave ws nb [41]) fun _ => pOk ks
def branchP (at_ : Nat) : PM NT := pThen P fun c => pThen (pMust ws nb [116, 104, 101, 110]) fun _ => pThen P fun n => pOk (ndP 28 at_ [c, n])
def choiceP : PM NT := pThen (pEnter ws nb [105, 102]) fun x => pThen (branchP ws nb P x.at_) fun b => pThen (lpP (fun (a : List NT) t o => if syP ws t [101, 108, 105, 102] then pThen (pTake ws) (fun y => pThen (branchP ws nb P y.at_) fun b => pOk (.inl (a ++ [b]))) t o else .ok (.inr a) t o) (ws.length + 1) [b]) fun bs =>
  pThen (fun t o => if syP ws t [101, 108, 115, 101] then pThen (pTake ws) (fun _ => P) t o else .ok (selfP (hrP ws t).at_) t o) fun n => pThen (pLeave ws nb [101, 110, 100]) fun _ => pOk (withinP bs n)
def entryP (ks : List NT) : PM (List NT) := fun t o => let x := hrP ws t
  if x.kind = 1 ∨ x.kind = 2 ∨ x.kind = 6 ∨ x.kind = 3 then
    (if syP ws (t + 1) [58] then pThen (pMust ws nb [58]) (fun _ => pThen (O 3) fun n => pOk (ks ++ [saidP x, n])) (t + 1) o else .ok (ks ++ [saidP x, if x.kind = 3 then varP x else fldP x]) (t + 1) o)
  else pThen (if x.kind = 7 then textP ws nb P else groupP ws nb P) (fun k => pThen (pMust ws nb [58]) fun _ => pThen (O 3) fun n => pOk (ks ++ [k, n])) t o
def recordP : PM NT := pThen (pEnter ws nb [123]) fun x => pThen (fun t o => if syP ws t [125] then .ok [] t o else pThen (entryP ws nb P O []) (fun ks => lpP (fun (a : List NT) t o => if syP ws t [44] then pThen (pTake ws) (fun _ => pThen (entryP ws nb P O a) fun b => pOk (.inl b)) t o else .ok (.inr a) t o) (ws.length + 1) ks) t o) fun ks => pThen (pLeave ws nb [125]) fun _ => pOk (ndP 5 x.at_ ks)
def callP : PM NT := pThen (pTake ws) fun x t o => if syP ws t [40] then pThen (pipesP ws nb P [] 1 9223372036854775807) (fun ks => pOk (txP 33 x.at_ x.text ks)) t o else .ok (txP 33 x.at_ x.text []) t o
def termP : PM NT := fun t o => let x := hrP ws t
  if x.kind = 10 then
    (if x.text = [46] then pThen (pTake ws) (fun _ t o => if isP ws 6 t || isP ws 7 t then pThen (textP ws nb P) (fun k => pOk (idxP x.at_ (selfP x.at_) k)) t o else .ok (selfP x.at_) t o) t o
     else if x.text = [46, 46] then .ok (txP 33 x.at_ [114, 101, 99, 117, 114, 115, 101] []) (t + 1) o
     else if x.text = [40] then groupP ws nb P t o else if x.text = [91] then listP ws nb P t o else if x.text = [123] then recordP ws nb P O t o else pFt ws nb t o)
  else if x.kind = 2 then
    (if x.text = [110, 117, 108, 108] then .ok (cnP x.at_ vtN) (t + 1) o else if x.text = [116, 114, 117, 101] then .ok (cnP x.at_ (.mk 2 .empty .empty [] [])) (t + 1) o
     else if x.text = [102, 97, 108, 115, 101] then .ok (cnP x.at_ (.mk 1 .empty .empty [] [])) (t + 1) o else if x.text = [105, 102] then choiceP ws nb P t o
     else if x.text = [98, 114, 101, 97, 107] then pThen (pTake ws) (fun _ => pThen (pBe ws nb 3) fun y => pOk (txP 35 x.at_ y.text [])) t o else pFt ws nb t o)
  else if x.kind = 4 then .ok (fldP x) (t + 1) o
  else if x.kind = 5 then .ok (cnP x.at_ (.mk 3 ⟨x.text.toArray⟩ .empty [] [])) (t + 1) o
  else if x.kind = 6 ∨ x.kind = 7 then textP ws nb P t o
  else if x.kind = 3 then .ok (varP x) (t + 1) o
  else if x.kind = 1 then callP ws nb P t o
  else pFt ws nb t o
def bracketP (of : NT) : PM NT := pThen (pEnter ws nb [91]) fun x t o =>
  if syP ws t [93] then pThen (pLeave ws nb [93]) (fun _ => pOk (ndP 9 x.at_ [of])) t o
  else if syP ws t [58] then pThen (pTake ws) (fun _ => pThen P fun n => pThen (pLeave ws nb [93]) fun _ => pOk (ndP 8 x.at_ [of, ndP 0 0 [], n])) t o
  else pThen P (fun m t o => if syP ws t [93] then pThen (pLeave ws nb [93]) (fun _ => pOk (idxP x.at_ of m)) t o
    else pThen (pMust ws nb [58]) (fun _ t o => if syP ws t [93] then pThen (pLeave ws nb [93]) (fun _ => pOk (ndP 8 x.at_ [of, m, ndP 0 0 []])) t o else pThen P (fun n => pThen (pLeave ws nb [93]) fun _ => pOk (ndP 8 x.at_ [of, m, n])) t o) t o) t o
def suffixedP : NT → PM NT := lpP (fun (a : NT) t o =>
    if isP ws 4 t then .ok (.inl (idxP (hrP ws t).at_ a (saidP (hrP ws t)))) (t + 1) o
    else if syP ws t [46] then pThen (pTake ws) (fun x => pThen (textP ws nb P) fun k => pOk (.inl (idxP x.at_ a k))) t o
    else if syP ws t [91] then pThen (bracketP ws nb P a) (fun n => pOk (.inl n)) t o
    else if syP ws t [63] then .ok (.inl (ndP 10 (hrP ws t).at_ [a])) (t + 1) o
    else .ok (.inr a) t o) (ws.length + 1)
/-- a part that waits for a post: which, or none -/
def awaitP (t : Nat) : Option NT := let x := hrP ws t
  if syP ws t [116, 114, 121] then some (ndP 10 x.at_ []) else if syP ws t [114, 101, 100, 117, 99, 101] then some (ndP 30 x.at_ []) else if syP ws t [102, 111, 114, 101, 97, 99, 104] then some (ndP 31 x.at_ []) else none
def finishedP (A : NT) : PM NT := if A.op = 30 ∨ A.op = 31 then pThen (pMust ws nb [97, 115]) fun _ => pThen (pBe ws nb 3) fun x => pThen (pipesP ws nb P A.kids 2 (if A.op = 30 then 2 else 3)) fun ks => pOk (.mk A.op A.at_ ⟨x.text.toArray⟩ A.value A.names ks) else pOk A
/-- what waits is ended from the last on; a catch goes on with another post (inl: what waits then) -/
def unwindP : List NT → NT → PM (List NT ⊕ NT)
  | [], out => pOk (.inr out)
  | last :: rest, out => let A := addK last out
    fun t o => if A.op = 10 ∧ A.kids.length = 1 ∧ syP ws t [99, 97, 116, 99, 104] = true then .ok (.inl (A :: rest)) (t + 1) o
      else pThen (finishedP ws nb P A) (fun B => pThen (suffixedP ws nb P B) fun C => unwindP rest C) t o
/-- what waits stands with the last first -/
def postP : PM NT := lpP (fun (a : List NT) => pThen (lpP (fun (b : List NT) t o => match awaitP ws t with
    | some A => .ok (.inl (A :: b)) (t + 1) o
    | none => .ok (.inr b) t o) (ws.length + 1) a) fun b => pThen (termP ws nb P O) fun n => pThen (suffixedP ws nb P n) fun m => unwindP ws nb P b m) (ws.length + 1) []
def unaryP : PM NT := pThen (lpP (fun (a : List NT) t o => if syP ws t [45] then .ok (.inl (a ++ [ndP 11 (hrP ws t).at_ []])) (t + 1) o else .ok (.inr a) t o) (ws.length + 1) []) fun ss => pThen (postP ws nb P O) fun n => pOk (withinP ss n)
/-- operations behind a part: what waits, the part so far, how closely the next may bind at most -/
def behindP (least : Nat) (left : NT) : PM NT := lpP (fun (a : List NT × NT × Nat) t o => let r := opZ ws t
    if r.2.2.1 < least ∨ a.2.2 < r.2.2.1 then .ok (.inr (withinP a.1 a.2.1)) t o
    else pThen (O (r.2.2.1 + 1)) (fun n => if r.2.2.2 = 1 then pOk (.inl (a.1 ++ [ndP r.2.1 (hrP ws t).at_ [a.2.1]], n, r.2.2.1)) else pOk (.inl ([], ndP r.2.1 (hrP ws t).at_ [withinP a.1 a.2.1, n], if r.2.2.2 = 2 then r.2.2.1 - 1 else r.2.2.1))) (t + 1) o) (ws.length + 1) ([], left, 8)
def operandP (least : Nat) : PM NT := pThen (unaryP ws nb P O) fun n => behindP ws O least n
def paramP : PM ByteArray := fun t o => if isP ws 3 t then .ok ⟨(36 :: (hrP ws t).text).toArray⟩ (t + 1) o else pThen (pBe ws nb 1) (fun x => pOk ⟨x.text.toArray⟩) t o
def paramsP : PM (List ByteArray) := fun t o => if syP ws t [40] then pThen (pEnter ws nb [40]) (fun _ => pThen (paramP ws nb) fun a => pThen (lpP (fun (l : List ByteArray) t o => if syP ws t [59] then pThen (pTake ws) (fun _ => pThen (paramP ws nb) fun b => pOk (.inl (l ++ [b]))) t o else .ok (.inr l) t o) (ws.length + 1) [a]) fun l => pThen (pLeave ws nb [41]) fun _ => pOk l) t o else .ok [] t o
/-- one link of a pipe, and whether it waits for what is behind -/
def linkP : PM (NT × Bool) := fun t o =>
  if syP ws t [100, 101, 102] then pThen (pEnter ws nb [100, 101, 102]) (fun x => pThen (pBe ws nb 1) fun y => pThen (paramsP ws nb) fun l => pThen (pMust ws nb [58]) fun _ => pThen P fun n => pThen (pLeave ws nb [59]) fun _ => pOk (.mk 32 (x.at_ : Int) ⟨y.text.toArray⟩ vtN l [n], true)) t o
  else if syP ws t [108, 97, 98, 101, 108] then pThen (pTake ws) (fun x => pThen (pBe ws nb 3) fun y => pThen (pMust ws nb [124]) fun _ => pOk (txP 34 x.at_ y.text [], true)) t o
  else pThen (unaryP ws nb P O) (fun n t1 o1 => if syP ws t [45] = false ∧ syP ws t1 [97, 115] = true then pThen (pTake ws) (fun x => pThen (pBe ws nb 3) fun y => pThen (pMust ws nb [124]) fun _ => pOk (txP 29 x.at_ y.text [n], true)) t1 o1
    else pThen (behindP ws O 1 n) (fun m t2 o2 => if syP ws t2 [124] then .ok (ndP 12 (hrP ws t2).at_ [m], true) (t2 + 1) o2 else .ok (m, false) t2 o2) t1 o1) t o
def pipeP : PM NT := lpP (fun (a : List NT) => pThen (linkP ws nb P O) fun r => if r.2 then pOk (.inl (a ++ [r.1])) else pOk (.inr (withinP a r.1))) (ws.length + 1) []
end
/-- the pipe and an operand, within so many others -/
def poP : Nat → PM NT × (Nat → PM NT)
  | 0 => (fun _ _ => .bad 0 0, fun _ _ _ => .bad 0 0)
  | n + 1 => (pipeP ws nb (poP n).1 (poP n).2, operandP ws nb (poP n).1 (poP n).2)
end
end Go.Proofs.YtdjleoglphgdgaaGreatDoor
namespace Go.Proofs.YtdjleoglphgdgaaGreatDoor
open Go.RowKit Go.Shelf
set_option linter.unusedVariables false
set_option linter.unusedSimpArgs false

/-- are they the same? -/
noncomputable def sq {α : Type} (x y : α) : Bool := @decide (x = y) (Classical.propDecidable _)
theorem sq_iff {α : Type} {x y : α} : sq x y = true ↔ x = y := by unfold sq; exact @decide_eq_true_iff (x = y) (Classical.propDecidable _)
theorem sq_no {α : Type} {x y : α} (h : ¬ x = y) : sq x y = false := by
  cases hb : sq x y with
  | false => rfl
  | true => exact absurd (sq_iff.1 hb) h
theorem sq_yes {α : Type} (x : α) : sq x x = true := sq_iff.2 rfl
mutual
/-- a filter without its places -/
def noA : NT → NT
  | .mk op _ tx v ns ks => .mk op 0 tx v ns (noAs ks)
def noAs : List NT → List NT
  | [] => []
  | k :: ks => noA k :: noAs ks
end
theorem noAs_len : ∀ ks : List NT, (noAs ks).length = ks.length
  | [] => rfl
  | k :: ks => by rw [noAs, List.length_cons, List.length_cons, noAs_len ks]
theorem noAs_get : ∀ (ks : List NT) (i : Nat) (h : i < ks.length), (noAs ks)[i]? = some (noA ks[i])
  | [], i, h => absurd h (Nat.not_lt_zero _)
  | k :: ks, 0, h => rfl
  | k :: ks, i + 1, h => by
    rw [noAs]
    simpa using noAs_get ks i (by simpa using h)
theorem noAs_eq {xs ys : List NT} (hl : xs.length = ys.length) (h : ∀ i, (h1 : i < xs.length) → (h2 : i < ys.length) → noA xs[i] = noA ys[i]) : noAs xs = noAs ys := by
  apply List.ext_getElem?
  intro i
  by_cases hi : i < xs.length
  · rw [noAs_get xs i hi, noAs_get ys i (by omega), h i hi (by omega)]
  · rw [List.getElem?_eq_none (by rw [noAs_len]; omega), List.getElem?_eq_none (by rw [noAs_len]; omega)]
theorem noAs_len_eq {xs ys : List NT} (h : noAs xs = noAs ys) : xs.length = ys.length := by
  have := congrArg List.length h
  rwa [noAs_len, noAs_len] at this
theorem noAs_at {xs ys : List NT} (h : noAs xs = noAs ys) {i : Nat} (h1 : i < xs.length) (h2 : i < ys.length) : noA xs[i] = noA ys[i] := by
  have := congrArg (fun l => l[i]?) h
  simp only [noAs_get xs i h1, noAs_get ys i h2, Option.some.injEq] at this
  exact this
theorem noA_eq {A B : NT} : noA A = noA B ↔ A.op = B.op ∧ A.text = B.text ∧ A.value = B.value ∧ A.names = B.names ∧ noAs A.kids = noAs B.kids := by
  obtain ⟨a, b, c, d, e, f⟩ := A
  obtain ⟨a', b', c', d', e', f'⟩ := B
  rw [noA, noA]
  simp only [NT.mk.injEq, NT.op, NT.text, NT.value, NT.names, NT.kids, true_and]
end Go.Proofs.YtdjleoglphgdgaaGreatDoor
namespace Go.Proofs.YtdjleoglphgdgaaGreatDoor
open Go.RowKit Go.Shelf
set_option linter.unusedVariables false
set_option linter.unusedSimpArgs false

/-- a word's kind and text -/
def kk (x : Tok) : Nat × List UInt8 := (x.kind, x.text)
def nx (ws : List Tok) (t : Nat) : Nat × List UInt8 := kk (hrP ws t)
def kS (a : Nat × List UInt8) (s : List UInt8) : Bool := (a.1 == 10 || a.1 == 2) && a.2 == s
theorem syP_kk (ws : List Tok) (t : Nat) (s : List UInt8) : syP ws t s = kS (nx ws t) s := rfl
/-- both come to the same, or it is nested too deep -/
def EQ {α : Type} (o : Nat) (x y : Pr α) : Prop := x = y ∨ (o ≤ 64 ∧ ∃ q, x = .bad 172 q)
theorem EQ.refl {α : Type} (o : Nat) (x : Pr α) : EQ o x x := .inl rfl
theorem EQ.of {α : Type} {o : Nat} {x y : Pr α} (h : x = y) : EQ o x y := .inl h
theorem EQ.trans {α : Type} {o : Nat} {x y z : Pr α} (h : EQ o x y) (k : EQ o y z) : EQ o x z := by
  rcases h with rfl | ⟨h1, q, rfl⟩
  · exact k
  · exact .inr ⟨h1, q, rfl⟩
theorem EQ.bd {α β : Type} {o t1 o1 : Nat} {x : Pr α} {a : α} (h : EQ o x (.ok a t1 o1)) (f : α → PM β) : EQ o (x.bd f) (f a t1 o1) := by
  rcases h with rfl | ⟨h1, q, rfl⟩
  · exact .inl rfl
  · exact .inr ⟨h1, q, rfl⟩
theorem EQ.bdd {α β : Type} {o : Nat} {x y : Pr α} (h : EQ o x y) (f : α → PM β) : EQ o (x.bd f) (y.bd f) := by
  rcases h with rfl | ⟨h1, q, rfl⟩
  · exact .inl rfl
  · exact .inr ⟨h1, q, rfl⟩
theorem EQ.inn {α : Type} {o : Nat} {x y : Pr α} (h : EQ (o + 1) x y) : EQ o x y := by
  rcases h with h | ⟨h1, h2⟩
  · exact .inl h
  · exact .inr ⟨by omega, h2⟩
/-- the words from a place on begin so -/
def AtT (ws : List Tok) (t : Nat) (L : List (Nat × List UInt8)) : Prop := ∃ R, (ws.map kk).drop t = L ++ R
theorem AtT.hd {ws : List Tok} {t : Nat} {a : Nat × List UInt8} {L : List (Nat × List UInt8)} (h : AtT ws t (a :: L)) : nx ws t = a ∧ t < ws.length ∧ AtT ws (t + 1) L := by
  obtain ⟨R, h⟩ := h
  have hl : t < ws.length := by
    have := congrArg List.length h
    simp at this
    omega
  have h2 : (ws.map kk).drop t = kk ws[t] :: (ws.map kk).drop (t + 1) := by
    rw [List.drop_eq_getElem_cons (by simpa using hl)]
    simp
  rw [h2] at h
  obtain ⟨e1, e2⟩ := List.cons.inj h
  refine ⟨?_, hl, R, e2⟩
  rw [← e1]
  unfold nx hrP
  rw [List.getD_eq_getElem?_getD, List.getElem?_eq_getElem hl]
  rfl
theorem AtT.app {ws : List Tok} {t : Nat} {L M : List (Nat × List UInt8)} (h : AtT ws t (L ++ M)) : AtT ws t L ∧ AtT ws (t + L.length) M := by
  obtain ⟨R, h⟩ := h
  refine ⟨⟨M ++ R, by rw [h, List.append_assoc]⟩, R, ?_⟩
  rw [← List.drop_drop, h, List.append_assoc, List.drop_left' rfl]
theorem AtT.le {ws : List Tok} {t : Nat} {L : List (Nat × List UInt8)} (h : AtT ws t L) (hL : L ≠ []) : t + L.length ≤ ws.length := by
  obtain ⟨R, h⟩ := h
  have := congrArg List.length h
  simp at this
  have : 0 < L.length := List.length_pos_iff.2 hL
  omega

/-- what an operation's word says -/
def opK (a : Nat × List UInt8) : List UInt8 × Nat × Nat × Nat := if a.1 = 10 ∨ a.1 = 2 then (opTz.find? (fun r => r.1 == a.2)).getD ([], 0, 0, 0) else ([], 0, 0, 0)
theorem opZ_kk (ws : List Tok) (t : Nat) : opZ ws t = opK (nx ws t) := rfl
def sufK (a : Nat × List UInt8) : Bool := a.1 == 4 || kS a [46] || kS a [91] || kS a [63]
def brkK (a : Nat × List UInt8) : Bool := a.1 == 6 || a.1 == 7 || kS a [40]
def asK (a : Nat × List UInt8) : Bool := kS a [97, 115]
/-- what ends a pipe -/
def cloK (a : Nat × List UInt8) : Bool := !sufK a && !brkK a && !asK a && !kS a [124] && (opK a).2.2.1 == 0
/-- what begins a filter, a term, a leaf -/
def stA (a : Nat × List UInt8) : Bool := !kS a [93] && !kS a [58]
def stT (a : Nat × List UInt8) : Bool := stA a && !kS a [45] && !kS a [100, 101, 102] && !kS a [108, 97, 98, 101, 108]
def lfK (a : Nat × List UInt8) : Bool := stT a && !kS a [116, 114, 121] && !kS a [114, 101, 100, 117, 99, 101] && !kS a [102, 111, 114, 101, 97, 99, 104]
def HdP (p : Nat × List UInt8 → Bool) (L : List (Nat × List UInt8)) : Prop := ∃ a r, L = a :: r ∧ p a = true
theorem HdP.app {p : Nat × List UInt8 → Bool} {L M : List (Nat × List UInt8)} (h : HdP p L) : HdP p (L ++ M) := by
  obtain ⟨a, r, rfl, h⟩ := h
  exact ⟨a, r ++ M, rfl, h⟩
theorem HdP.mono {p q : Nat × List UInt8 → Bool} (h : ∀ a, p a = true → q a = true) {L : List (Nat × List UInt8)} (k : HdP p L) : HdP q L := by
  obtain ⟨a, r, e, k⟩ := k
  exact ⟨a, r, e, h a k⟩
theorem HdP.at_ {ws : List Tok} {p : Nat × List UInt8 → Bool} {t : Nat} {L : List (Nat × List UInt8)} (h : HdP p L) (k : AtT ws t L) : p (nx ws t) = true ∧ t < ws.length := by
  obtain ⟨a, r, rfl, h⟩ := h
  obtain ⟨h1, h2, _⟩ := k.hd
  rw [h1]
  exact ⟨h, h2⟩
theorem lf_st {a : Nat × List UInt8} (h : lfK a = true) : stT a = true := by
  unfold lfK at h; simp only [Bool.and_eq_true] at h; exact h.1.1.1
theorem st_sa {a : Nat × List UInt8} (h : stT a = true) : stA a = true := by
  unfold stT at h; simp only [Bool.and_eq_true] at h; exact h.1.1.1
theorem lf_no {a : Nat × List UInt8} (h : lfK a = true) : kS a [116, 114, 121] = false ∧ kS a [114, 101, 100, 117, 99, 101] = false ∧ kS a [102, 111, 114, 101, 97, 99, 104] = false := by
  unfold lfK at h; simp only [Bool.and_eq_true, Bool.not_eq_true'] at h; exact ⟨h.1.1.2, h.1.2, h.2⟩
theorem st_no {a : Nat × List UInt8} (h : stT a = true) : kS a [45] = false ∧ kS a [100, 101, 102] = false ∧ kS a [108, 97, 98, 101, 108] = false := by
  unfold stT at h; simp only [Bool.and_eq_true, Bool.not_eq_true'] at h; exact ⟨h.1.1.2, h.1.2, h.2⟩
theorem suf_no {a : Nat × List UInt8} (h : sufK a = false) : (a.1 == 4) = false ∧ kS a [46] = false ∧ kS a [91] = false ∧ kS a [63] = false := by
  unfold sufK at h; simp only [Bool.or_eq_false_iff] at h; exact ⟨h.1.1.1, h.1.1.2, h.1.2, h.2⟩
theorem clo_no {a : Nat × List UInt8} (h : cloK a = true) : sufK a = false ∧ brkK a = false ∧ asK a = false ∧ kS a [124] = false ∧ (opK a).2.2.1 = 0 := by
  unfold cloK at h; simp only [Bool.and_eq_true, Bool.not_eq_true', beq_iff_eq] at h; exact ⟨h.1.1.1.1, h.1.1.1.2, h.1.1.2, h.1.2, h.2⟩

/-- the bodies of the loops -/
def awBR (ws : List Tok) (b : List NT) : PM (List NT ⊕ List NT) := fun t o => match awaitP ws t with
    | some A => .ok (.inl (A :: b)) (t + 1) o
    | none => .ok (.inr b) t o
def sfB (ws : List Tok) (nb : Nat) (P : PM NT) (a : NT) : PM (NT ⊕ NT) := fun t o =>
    if isP ws 4 t then .ok (.inl (idxP (hrP ws t).at_ a (saidP (hrP ws t)))) (t + 1) o
    else if syP ws t [46] then pThen (pTake ws) (fun x => pThen (textP ws nb P) fun k => pOk (.inl (idxP x.at_ a k))) t o
    else if syP ws t [91] then pThen (bracketP ws nb P a) (fun n => pOk (.inl n)) t o
    else if syP ws t [63] then .ok (.inl (ndP 10 (hrP ws t).at_ [a])) (t + 1) o
    else .ok (.inr a) t o
theorem suf_eq (ws : List Tok) (nb : Nat) (P : PM NT) (a : NT) : suffixedP ws nb P a = lpP (sfB ws nb P) (ws.length + 1) a := rfl
def QQ (ws : List Tok) (nb : Nat) (P : PM NT) (O : Nat → PM NT) (b : List NT) (F : Nat) : PM (List NT ⊕ NT) := pThen (lpP (awBR ws) F b) fun b => pThen (termP ws nb P O) fun n => pThen (suffixedP ws nb P n) fun m => unwindP ws nb P b m
def RR (ws : List Tok) (nb : Nat) (P : PM NT) (b : List NT) (F : Nat) (A : NT) : PM (List NT ⊕ NT) := pThen (lpP (sfB ws nb P) F A) fun m => unwindP ws nb P b m
theorem post_eq' (ws : List Tok) (nb : Nat) (P : PM NT) (O : Nat → PM NT) : postP ws nb P O = lpP (fun a => QQ ws nb P O a (ws.length + 1)) (ws.length + 1) [] := rfl
def ngB (ws : List Tok) (a : List NT) : PM (List NT ⊕ List NT) := fun t o => if syP ws t [45] then .ok (.inl (a ++ [ndP 11 (hrP ws t).at_ []])) (t + 1) o else .ok (.inr a) t o
theorem un_eq (ws : List Tok) (nb : Nat) (P : PM NT) (O : Nat → PM NT) : unaryP ws nb P O = pThen (lpP (ngB ws) (ws.length + 1) []) fun ss => pThen (postP ws nb P O) fun n => pOk (withinP ss n) := rfl
def bhB (ws : List Tok) (O : Nat → PM NT) (least : Nat) (a : List NT × NT × Nat) : PM (List NT × NT × Nat ⊕ NT) := fun t o => let r := opZ ws t
    if r.2.2.1 < least ∨ a.2.2 < r.2.2.1 then .ok (.inr (withinP a.1 a.2.1)) t o
    else pThen (O (r.2.2.1 + 1)) (fun n => if r.2.2.2 = 1 then pOk (.inl (a.1 ++ [ndP r.2.1 (hrP ws t).at_ [a.2.1]], n, r.2.2.1)) else pOk (.inl ([], ndP r.2.1 (hrP ws t).at_ [withinP a.1 a.2.1, n], if r.2.2.2 = 2 then r.2.2.1 - 1 else r.2.2.1))) (t + 1) o
theorem bh_eq (ws : List Tok) (O : Nat → PM NT) (least : Nat) (left : NT) : behindP ws O least left = lpP (bhB ws O least) (ws.length + 1) ([], left, 8) := rfl
def ppB (ws : List Tok) (nb : Nat) (P : PM NT) (O : Nat → PM NT) (a : List NT) : PM (List NT ⊕ NT) := pThen (linkP ws nb P O) fun r => if r.2 then pOk (.inl (a ++ [r.1])) else pOk (.inr (withinP a r.1))
theorem lp_succ {α β : Type} (body : α → PM (α ⊕ β)) (f : Nat) (a : α) (t o : Nat) : lpP body (f + 1) a t o = (body a t o).bd fun r => match r with
    | .inl a' => lpP body f a'
    | .inr b => pOk b := rfl
theorem EQ.lpl {α β : Type} {body : α → PM (α ⊕ β)} {f : Nat} {a a' : α} {t o t1 o1 e : Nat} (h : EQ e (body a t o) (.ok (.inl a') t1 o1)) : EQ e (lpP body (f + 1) a t o) (lpP body f a' t1 o1) := by
  rw [lp_succ]; exact h.bd _
theorem EQ.lpr {α β : Type} {body : α → PM (α ⊕ β)} {f : Nat} {a : α} {b : β} {t o t1 o1 e : Nat} (h : EQ e (body a t o) (.ok (.inr b) t1 o1)) : EQ e (lpP body (f + 1) a t o) (.ok b t1 o1) := by
  rw [lp_succ]; exact h.bd _
theorem EQ.thn {α β : Type} {x : PM α} {f : α → PM β} {e t o t1 o1 : Nat} {a : α} (h : EQ e (x t o) (.ok a t1 o1)) : EQ e (pThen x f t o) (f a t1 o1) := h.bd f
/-- words that must stand there -/
theorem must_ok {ws : List Tok} {nb t o e : Nat} {s : List UInt8} (h : kS (nx ws t) s = true) : EQ e (pMust ws nb s t o) (.ok (hrP ws t) (t + 1) o) := by
  refine .of ?_
  unfold pMust
  rw [syP_kk, if_pos h]
  rfl
theorem be_ok {ws : List Tok} {nb t o e k : Nat} (h : (nx ws t).1 = k) : EQ e (pBe ws nb k t o) (.ok (hrP ws t) (t + 1) o) := by
  refine .of ?_
  unfold pBe isP
  rw [show (hrP ws t).kind = k from h, if_pos (beq_self_eq_true k)]
  rfl
theorem open_ok {ws : List Tok} {t o : Nat} : EQ o (pOpen ws t o) (.ok (hrP ws t) (t + 1) (o + 1)) := by
  unfold pOpen
  split
  · exact .inr ⟨by omega, _, rfl⟩
  · exact .refl _ _
theorem enter_ok {ws : List Tok} {nb t o : Nat} {s : List UInt8} (h : kS (nx ws t) s = true) : EQ o (pEnter ws nb s t o) (.ok (hrP ws t) (t + 1) (o + 1)) := by
  unfold pEnter
  rw [syP_kk, if_pos h]
  exact open_ok
theorem leave_ok {ws : List Tok} {nb t o e : Nat} {s : List UInt8} (h : kS (nx ws t) s = true) : EQ e (pLeave ws nb s t (o + 1)) (.ok () (t + 1) o) := by
  unfold pLeave
  refine (EQ.thn (must_ok h)).trans (.of ?_)
  rw [Nat.add_sub_cancel]
def stB (a : Nat × List UInt8) : Bool := stA a && !kS a [100, 101, 102] && !kS a [108, 97, 98, 101, 108]
theorem st_sb {a : Nat × List UInt8} (h : stT a = true) : stB a = true := by
  have h1 := st_no h
  unfold stB
  rw [st_sa h, h1.2.1, h1.2.2]; rfl
theorem sb_sa {a : Nat × List UInt8} (h : stB a = true) : stA a = true := by
  unfold stB at h; simp only [Bool.and_eq_true] at h; exact h.1.1
theorem sb_no {a : Nat × List UInt8} (h : stB a = true) : kS a [100, 101, 102] = false ∧ kS a [108, 97, 98, 101, 108] = false := by
  unfold stB at h; simp only [Bool.and_eq_true, Bool.not_eq_true'] at h; exact ⟨h.1.2, h.2⟩
abbrev KL := List (Nat × List UInt8)
abbrev Pm (ws : List Tok) (nb n : Nat) : PM NT := (poP ws nb n).1
abbrev Om (ws : List Tok) (nb n : Nat) : Nat → PM NT := (poP ws nb n).2
/-- what follows a part -/
structure Fol (a : Nat × List UInt8) : Prop where
  brk : brkK a = false
  suf : sufK a = false
  as_ : asK a = false
def TermC (ws : List Tok) (nb : Nat) (L : KL) (A : NT) : Prop :=
  HdP stT L ∧ ∀ m t o b F, ws.length ≤ m + t → ws.length + 1 ≤ F + t → AtT ws t L → brkK (nx ws (t + L.length)) = false →
    ∃ A' F', noA A' = noA A ∧ ws.length + 1 ≤ F' + (t + L.length) ∧ EQ o (QQ ws nb (Pm ws nb m) (Om ws nb m) b F t o) (RR ws nb (Pm ws nb m) b F' A' (t + L.length) o)
def PostC (ws : List Tok) (nb : Nat) (L : KL) (A : NT) : Prop :=
  HdP stT L ∧ ∀ m t o, ws.length ≤ m + t → AtT ws t L → brkK (nx ws (t + L.length)) = false → sufK (nx ws (t + L.length)) = false →
    ∃ A', noA A' = noA A ∧ EQ o (postP ws nb (Pm ws nb m) (Om ws nb m) t o) (.ok A' (t + L.length) o)
def UnC (ws : List Tok) (nb : Nat) (L : KL) (A : NT) : Prop :=
  HdP stB L ∧ ∀ m t o ss F, ws.length ≤ m + t → ws.length + 1 ≤ F + t → AtT ws t L → brkK (nx ws (t + L.length)) = false → sufK (nx ws (t + L.length)) = false →
    ∃ A', noA A' = noA A ∧ EQ o (pThen (lpP (ngB ws) F ss) (fun ss => pThen (postP ws nb (Pm ws nb m) (Om ws nb m)) fun n => pOk (withinP ss n)) t o) (.ok (withinP ss A') (t + L.length) o)
def cA (v : Nat) : Nat := if v = 2 ∨ v = 6 then v - 1 else min v 8
def BehC (ws : List Tok) (nb : Nat) (L : KL) (A : NT) (v : Nat) : Prop :=
  HdP stB L ∧ ∀ m t o least, 1 ≤ least → least ≤ v → ws.length ≤ m + t → AtT ws t L → Fol (nx ws (t + L.length)) → (opK (nx ws (t + L.length))).2.2.1 ≤ v →
    ∃ n t1, t ≤ t1 ∧ t1 ≤ t + L.length ∧ EQ o (unaryP ws nb (Pm ws nb m) (Om ws nb m) t o) (.ok n t1 o) ∧ asK (nx ws t1) = false ∧ ∀ F, ws.length + 1 ≤ F + t1 →
      ∃ F' w last c, ws.length + 1 ≤ F' + (t + L.length) ∧ (v ≠ 3 → w = []) ∧ cA v ≤ c ∧ noA (withinP w last) = noA A ∧ EQ o (lpP (bhB ws (Om ws nb m) least) F ([], n, 8) t1 o) (lpP (bhB ws (Om ws nb m) least) F' (w, last, c) (t + L.length) o)
def OpC (ws : List Tok) (nb : Nat) (L : KL) (A : NT) (v : Nat) : Prop :=
  HdP stB L ∧ ∀ n t o least, 1 ≤ least → least ≤ v → ws.length + 1 ≤ n + t → AtT ws t L → Fol (nx ws (t + L.length)) → (opK (nx ws (t + L.length))).2.2.1 < least →
    ∃ A', noA A' = noA A ∧ EQ o (Om ws nb n least t o) (.ok A' (t + L.length) o)
def ChC (ws : List Tok) (nb : Nat) (L : KL) (A : NT) : Prop :=
  HdP stB L ∧ ∀ m t o least F w0, 1 ≤ least → least ≤ 3 → ws.length + 1 ≤ m + t → ws.length + 1 ≤ F + t → AtT ws t L → Fol (nx ws (t + L.length)) → (opK (nx ws (t + L.length))).2.2.1 ≤ 3 →
    ∃ F' w' last, ws.length + 1 ≤ F' + (t + L.length) ∧ noA (withinP w' last) = noA A ∧ EQ o (pThen (Om ws nb m 4) (fun n => lpP (bhB ws (Om ws nb m) least) F (w0, n, 3)) t o) (lpP (bhB ws (Om ws nb m) least) F' (w0 ++ w', last, 3) (t + L.length) o)
def PipC (ws : List Tok) (nb : Nat) (L : KL) (A : NT) : Prop :=
  HdP stA L ∧ ∀ m t o a F, ws.length ≤ m + t → ws.length + 1 ≤ F + t → AtT ws t L → cloK (nx ws (t + L.length)) = true →
    ∃ A', noA A' = noA A ∧ EQ o (lpP (ppB ws nb (Pm ws nb m) (Om ws nb m)) F a t o) (.ok (withinP a A') (t + L.length) o)
theorem HdP.ne {p : Nat × List UInt8 → Bool} {L : KL} (h : HdP p L) : L ≠ [] := by
  obtain ⟨a, r, rfl, _⟩ := h
  exact List.cons_ne_nil _ _
theorem HdP.lt {ws : List Tok} {t : Nat} {p : Nat × List UInt8 → Bool} {L : KL} (h : HdP p L) (k : AtT ws t L) : t < ws.length := (h.at_ k).2
theorem HdP.le {ws : List Tok} {t : Nat} {p : Nat × List UInt8 → Bool} {L : KL} (h : HdP p L) (k : AtT ws t L) : t + L.length ≤ ws.length ∧ 0 < L.length := ⟨k.le h.ne, List.length_pos_iff.2 h.ne⟩
theorem suf_end {ws : List Tok} {nb F t o e : Nat} {P : PM NT} {A : NT} (hF : ws.length + 1 ≤ F + t) (ht : t ≤ ws.length) (h : sufK (nx ws t) = false) : EQ e (lpP (sfB ws nb P) F A t o) (.ok A t o) := by
  obtain ⟨F, rfl⟩ : ∃ F0, F = F0 + 1 := ⟨F - 1, by omega⟩
  refine EQ.lpr (.of ?_)
  obtain ⟨h1, h2, h3, h4⟩ := suf_no h
  unfold sfB isP
  rw [syP_kk, syP_kk, syP_kk, h2, h3, h4, show ((hrP ws t).kind == 4) = false from h1]
  rfl
theorem aw_noneR {ws : List Tok} {F t o e : Nat} {b : List NT} (hF : ws.length + 1 ≤ F + t) (ht : t < ws.length) (h : lfK (nx ws t) = true) : EQ e (lpP (awBR ws) F b t o) (.ok b t o) := by
  obtain ⟨F, rfl⟩ : ∃ F0, F = F0 + 1 := ⟨F - 1, by omega⟩
  refine EQ.lpr (.of ?_)
  obtain ⟨h1, h2, h3⟩ := lf_no h
  unfold awBR awaitP
  simp only [syP_kk, h1, h2, h3, Bool.false_eq_true, if_false]
theorem termC_leaf {ws : List Tok} {nb : Nat} {L : KL} {A : NT} (hh : HdP lfK L) (h : ∀ m t o, ws.length ≤ m + t → AtT ws t L → brkK (nx ws (t + L.length)) = false → ∃ A', noA A' = noA A ∧ EQ o (termP ws nb (Pm ws nb m) (Om ws nb m) t o) (.ok A' (t + L.length) o)) : TermC ws nb L A := by
  refine ⟨hh.mono fun _ => lf_st, fun m t o b F hm hF ha hb => ?_⟩
  obtain ⟨A', e, h1⟩ := h m t o hm ha hb
  refine ⟨A', ws.length + 1, e, by omega, ?_⟩
  unfold QQ
  refine (EQ.thn (aw_noneR hF (hh.lt ha) (hh.at_ ha).1)).trans ?_
  refine (EQ.thn h1).trans ?_
  exact .refl _ _
theorem term_post {ws : List Tok} {nb : Nat} {L : KL} {A : NT} (h : TermC ws nb L A) : PostC ws nb L A := by
  refine ⟨h.1, fun m t o hm ha hb hs => ?_⟩
  obtain ⟨A', F', e, hF, h1⟩ := h.2 m t o [] (ws.length + 1) hm (by omega) ha hb
  refine ⟨A', e, ?_⟩
  rw [post_eq']
  refine EQ.lpr (h1.trans ?_)
  unfold RR
  exact (EQ.thn (suf_end hF (h.1.le ha).1 hs)).trans (.refl _ _)
theorem ng_none {ws : List Tok} {F t o e : Nat} {b : List NT} (hF : ws.length + 1 ≤ F + t) (ht : t < ws.length) (h : stT (nx ws t) = true) : EQ e (lpP (ngB ws) F b t o) (.ok b t o) := by
  obtain ⟨F, rfl⟩ : ∃ F0, F = F0 + 1 := ⟨F - 1, by omega⟩
  refine EQ.lpr (.of ?_)
  unfold ngB
  simp only [syP_kk, (st_no h).1, Bool.false_eq_true, if_false]
theorem post_un {ws : List Tok} {nb : Nat} {L : KL} {A : NT} (h : PostC ws nb L A) : UnC ws nb L A := by
  refine ⟨h.1.mono fun _ => st_sb, fun m t o ss F hm hF ha hb hs => ?_⟩
  obtain ⟨A', e, h1⟩ := h.2 m t o hm ha hb hs
  refine ⟨A', e, (EQ.thn (ng_none hF (h.1.lt ha) (h.1.at_ ha).1)).trans ?_⟩
  exact (EQ.thn h1).trans (.refl _ _)
theorem un_neg {ws : List Tok} {nb : Nat} {L : KL} {A k : NT} (h : UnC ws nb L k) (ho : A = .mk 11 A.at_ .empty vtN [] [k]) : UnC ws nb ((10, [45]) :: L) A := by
  refine ⟨⟨_, _, rfl, rfl⟩, fun m t o ss F hm hF ha hb hs => ?_⟩
  obtain ⟨k1, k2, k3⟩ := ha.hd
  have e : t + ((10, [45]) :: L : KL).length = t + 1 + L.length := by rw [List.length_cons]; omega
  rw [e] at hb hs ⊢
  obtain ⟨F, rfl⟩ : ∃ F0, F = F0 + 1 := ⟨F - 1, by omega⟩
  obtain ⟨k', e', h1⟩ := h.2 m (t + 1) o (ss ++ [ndP 11 (hrP ws t).at_ []]) F (by omega) (by omega) k3 hb hs
  refine ⟨ndP 11 (hrP ws t).at_ [k'], ?_, ?_⟩
  · rw [ho]
    exact noA_eq.2 ⟨rfl, rfl, rfl, rfl, by show noAs [k'] = noAs [k]; simp only [noAs, e']⟩
  · have h2 : EQ o (lpP (ngB ws) (F + 1) ss t o) (lpP (ngB ws) F (ss ++ [ndP 11 (hrP ws t).at_ []]) (t + 1) o) := by
      refine EQ.lpl (.of ?_)
      unfold ngB
      rw [syP_kk, k1]
      rfl
    refine (h2.bdd _).trans (h1.trans (.of ?_))
    unfold withinP
    rw [List.foldr_append]
    rfl
theorem ca_le (v : Nat) : cA v ≤ 8 := by unfold cA; split <;> omega
theorem un_beh {ws : List Tok} {nb : Nat} {L : KL} {A : NT} (h : UnC ws nb L A) (v : Nat) : BehC ws nb L A v := by
  refine ⟨h.1, fun m t o least h1 h2 hm ha hf hl => ?_⟩
  obtain ⟨A', e, h3⟩ := h.2 m t o [] (ws.length + 1) hm (by omega) ha hf.brk hf.suf
  refine ⟨A', t + L.length, by omega, Nat.le_refl _, by rw [un_eq]; exact h3, hf.as_, fun F hF => ⟨F, [], A', 8, hF, fun _ => rfl, ca_le v, e, .refl _ _⟩⟩
theorem bh_end {ws : List Tok} {F t o e least c : Nat} {O : Nat → PM NT} {w : List NT} {l : NT} (hF : ws.length + 1 ≤ F + t) (ht : t ≤ ws.length) (h : (opK (nx ws t)).2.2.1 < least) : EQ e (lpP (bhB ws O least) F (w, l, c) t o) (.ok (withinP w l) t o) := by
  obtain ⟨F, rfl⟩ : ∃ F0, F = F0 + 1 := ⟨F - 1, by omega⟩
  refine EQ.lpr (.of ?_)
  exact if_pos (.inl h)
theorem beh_op {ws : List Tok} {nb : Nat} {L : KL} {A : NT} {v : Nat} (h : BehC ws nb L A v) : OpC ws nb L A v := by
  refine ⟨h.1, fun n t o least h1 h2 hn ha hf hl => ?_⟩
  obtain ⟨m, rfl⟩ : ∃ m, n = m + 1 := ⟨n - 1, by have := h.1.lt ha; omega⟩
  obtain ⟨x, t1, ht, ht2, h3, h4, h5⟩ := h.2 m t o least h1 h2 (by omega) ha hf (by omega)
  obtain ⟨F', w, last, c, k1, k2, k3, k4, k5⟩ := h5 (ws.length + 1) (by omega)
  refine ⟨withinP w last, k4, ?_⟩
  show EQ o (pThen (unaryP ws nb (Pm ws nb m) (Om ws nb m)) (fun n => behindP ws (Om ws nb m) least n) t o) _
  refine (EQ.thn h3).trans ?_
  rw [bh_eq]
  exact k5.trans (bh_end k1 (h.1.le ha).1 hl)
theorem op_ch {ws : List Tok} {nb : Nat} {L : KL} {A : NT} {v : Nat} (h : OpC ws nb L A v) (hv : 4 ≤ v) : ChC ws nb L A := by
  refine ⟨h.1, fun m t o least F w0 h1 h2 hm hF ha hf hl => ?_⟩
  obtain ⟨A', e, h3⟩ := h.2 m t o 4 (by omega) hv hm ha hf (by omega)
  refine ⟨F, [], A', by omega, e, ?_⟩
  rw [List.append_nil]
  exact EQ.thn h3
theorem beh_pip {ws : List Tok} {nb : Nat} {L : KL} {A : NT} {v : Nat} (h : BehC ws nb L A v) (hv : 1 ≤ v) : PipC ws nb L A := by
  refine ⟨h.1.mono fun _ => sb_sa, fun m t o a F hm hF ha hc => ?_⟩
  obtain ⟨c1, c2, c3, c4, c5⟩ := clo_no hc
  obtain ⟨x, t1, ht, ht2, h3, h4, h5⟩ := h.2 m t o 1 (by omega) hv hm ha ⟨c2, c1, c3⟩ (by omega)
  obtain ⟨F', w, last, c, k1, k2, k3, k4, k5⟩ := h5 (ws.length + 1) (by omega)
  obtain ⟨s1, s2⟩ := sb_no (h.1.at_ ha).1
  obtain ⟨F, rfl⟩ : ∃ F0, F = F0 + 1 := ⟨F - 1, by have := h.1.lt ha; omega⟩
  refine ⟨withinP w last, k4, EQ.lpr ?_⟩
  have hl : EQ o (linkP ws nb (Pm ws nb m) (Om ws nb m) t o) (.ok (withinP w last, false) (t + L.length) o) := by
    unfold linkP
    rw [syP_kk, syP_kk, s1, s2, if_neg (by decide), if_neg (by decide)]
    refine (EQ.thn h3).trans ?_
    rw [if_neg (by rintro ⟨_, h⟩; rw [syP_kk] at h; unfold asK at h4; rw [h4] at h; cases h), bh_eq]
    refine (EQ.thn (k5.trans (bh_end k1 (h.1.le ha).1 (by omega)))).trans ?_
    rw [syP_kk, c4, if_neg (by decide)]
    exact .refl _ _
  exact (EQ.thn hl).trans (.refl _ _)
/-- a pipe, called -/
theorem pip_call {ws : List Tok} {nb : Nat} {L : KL} {A : NT} (h : PipC ws nb L A) {n t o : Nat} (hn : ws.length + 1 ≤ n + t) (ha : AtT ws t L) (hc : cloK (nx ws (t + L.length)) = true) :
    ∃ A', noA A' = noA A ∧ EQ o (Pm ws nb n t o) (.ok A' (t + L.length) o) := by
  obtain ⟨m, rfl⟩ : ∃ m, n = m + 1 := ⟨n - 1, by have := h.1.lt ha; omega⟩
  obtain ⟨A', e, h1⟩ := h.2 m t o [] (ws.length + 1) (by omega) (by omega) ha hc
  exact ⟨A', e, h1⟩
theorem kk_k {ws : List Tok} {t k : Nat} {s : List UInt8} (h : nx ws t = (k, s)) : (hrP ws t).kind = k ∧ (hrP ws t).text = s := ⟨congrArg (·.1) h, congrArg (·.2) h⟩
/-- in brackets -/
theorem paren_term {ws : List Tok} {nb : Nat} {L : KL} {A : NT} (h : PipC ws nb L A) : TermC ws nb ((10, [40]) :: (L ++ [(10, [41])])) A := by
  refine termC_leaf ⟨_, _, rfl, rfl⟩ fun m t o hm ha hb => ?_
  obtain ⟨k1, k2, k3⟩ := ha.hd
  obtain ⟨k4, k5⟩ := k3.app
  obtain ⟨k6, k7, _⟩ := k5.hd
  obtain ⟨A', e, h1⟩ := pip_call h (n := m) (o := o + 1) (by omega) k4 (by rw [k6]; rfl)
  refine ⟨A', e, ?_⟩
  have e2 : t + ((10, [40]) :: (L ++ [(10, [41])]) : KL).length = t + 1 + L.length + 1 := by simp; omega
  rw [e2]
  unfold termP
  simp only [(kk_k k1).1, (kk_k k1).2]
  simp only [if_true, List.cons.injEq, and_true, and_false, if_false, reduceCtorEq, show ((40 : UInt8) = 46) = False by simp]
  unfold groupP
  refine (EQ.thn (enter_ok (by rw [k1]; rfl))).trans ?_
  refine (EQ.thn h1.inn).trans ?_
  refine (EQ.thn (leave_ok (by rw [k6]; rfl))).trans ?_
  exact .refl _ _
end Go.Proofs.YtdjleoglphgdgaaGreatDoor
namespace Go.Proofs.YtdjleoglphgdgaaGreatDoor
open Go.RowKit Go.Shelf
set_option linter.unusedVariables false
set_option linter.unusedSimpArgs false
variable {ws : List Tok} {nb : Nat}

theorem term_self {at_ : Int} : TermC ws nb [(10, [46])] (.mk 1 at_ .empty vtN [] []) := by
  refine termC_leaf ⟨_, _, rfl, rfl⟩ fun m t o hm ha hb => ?_
  obtain ⟨k1, k2, k3⟩ := ha.hd
  refine ⟨selfP (hrP ws t).at_, rfl, ?_⟩
  have b : isP ws 6 (t + 1) = false ∧ isP ws 7 (t + 1) = false := by
    unfold brkK at hb
    simp only [Bool.or_eq_false_iff] at hb
    exact ⟨hb.1.1, hb.1.2⟩
  unfold termP
  simp only [(kk_k k1).1, (kk_k k1).2, List.cons.injEq, and_true, and_false, reduceIte, reduceCtorEq]
  refine (EQ.thn (EQ.refl _ _)).trans ?_
  rw [b.1, b.2, if_neg (by decide)]
  exact .refl _ _
theorem term_const {A : NT} (a : Nat × List UInt8) (h : a = (2, [110, 117, 108, 108]) ∧ A = .mk 2 A.at_ .empty vtN [] [] ∨ a = (2, [116, 114, 117, 101]) ∧ A = .mk 2 A.at_ .empty (.mk 2 .empty .empty [] []) [] [] ∨ a = (2, [102, 97, 108, 115, 101]) ∧ A = .mk 2 A.at_ .empty (.mk 1 .empty .empty [] []) [] [] ∨ (∃ x : ByteArray, a = (5, x.data.toList) ∧ A = .mk 2 A.at_ .empty (.mk 3 x .empty [] []) [] []) ∨ (∃ x : ByteArray, a = (6, x.data.toList) ∧ A = .mk 2 A.at_ .empty (.mk 4 .empty x [] []) [] [])) : TermC ws nb [a] A := by
  rcases h with ⟨rfl, ho⟩ | ⟨rfl, ho⟩ | ⟨rfl, ho⟩ | ⟨x, rfl, ho⟩ | ⟨x, rfl, ho⟩
  · refine termC_leaf ⟨_, _, rfl, rfl⟩ fun m t o hm ha hb => ?_
    obtain ⟨k1, k2, k3⟩ := ha.hd
    refine ⟨cnP (hrP ws t).at_ vtN, by rw [ho]; rfl, ?_⟩
    unfold termP
    simp only [(kk_k k1).1, (kk_k k1).2, List.cons.injEq, and_true, and_false, reduceIte, reduceCtorEq, Nat.reduceEqDiff]
    exact .refl _ _
  · refine termC_leaf ⟨_, _, rfl, rfl⟩ fun m t o hm ha hb => ?_
    obtain ⟨k1, k2, k3⟩ := ha.hd
    refine ⟨cnP (hrP ws t).at_ (.mk 2 .empty .empty [] []), by rw [ho]; rfl, ?_⟩
    unfold termP
    simp only [(kk_k k1).1, (kk_k k1).2, List.cons.injEq, and_true, and_false, false_and, reduceIte, reduceCtorEq, Nat.reduceEqDiff]
    exact .refl _ _
  · refine termC_leaf ⟨_, _, rfl, rfl⟩ fun m t o hm ha hb => ?_
    obtain ⟨k1, k2, k3⟩ := ha.hd
    refine ⟨cnP (hrP ws t).at_ (.mk 1 .empty .empty [] []), by rw [ho]; rfl, ?_⟩
    unfold termP
    simp only [(kk_k k1).1, (kk_k k1).2, List.cons.injEq, and_true, and_false, false_and, reduceIte, reduceCtorEq, Nat.reduceEqDiff]
    exact .refl _ _
  · refine termC_leaf ⟨_, _, rfl, rfl⟩ fun m t o hm ha hb => ?_
    obtain ⟨k1, k2, k3⟩ := ha.hd
    refine ⟨cnP (hrP ws t).at_ (.mk 3 ⟨(hrP ws t).text.toArray⟩ .empty [] []), by rw [ho, (kk_k k1).2]; rfl, ?_⟩
    unfold termP
    simp only [(kk_k k1).1, reduceIte, Nat.reduceEqDiff]
    exact .refl _ _
  · refine termC_leaf ⟨_, _, rfl, rfl⟩ fun m t o hm ha hb => ?_
    obtain ⟨k1, k2, k3⟩ := ha.hd
    refine ⟨saidP (hrP ws t), by rw [ho]; unfold saidP; rw [(kk_k k1).2]; rfl, ?_⟩
    unfold termP
    simp only [(kk_k k1).1, reduceIte, Nat.reduceEqDiff, true_or, or_true]
    unfold textP isP
    simp only [(kk_k k1).1, beq_self_eq_true, reduceIte]
    exact .refl _ _
theorem said_of {t : Nat} {k : Nat} {x : ByteArray} (h : nx ws t = (k, x.data.toList)) : noA (saidP (hrP ws t)) = .mk 2 0 .empty (.mk 4 .empty x [] []) [] [] := by
  unfold saidP cnP
  rw [(kk_k h).2]
  rfl
theorem term_var {at_ : Int} {x : ByteArray} : TermC ws nb [(3, x.data.toList)] (.mk 6 at_ x vtN [] []) := by
  refine termC_leaf ⟨_, _, rfl, rfl⟩ fun m t o hm ha hb => ?_
  obtain ⟨k1, k2, k3⟩ := ha.hd
  refine ⟨varP (hrP ws t), by unfold varP txP; rw [(kk_k k1).2]; rfl, ?_⟩
  unfold termP
  simp only [(kk_k k1).1, reduceIte, Nat.reduceEqDiff, false_or, or_false]
  exact .refl _ _
theorem term_field {at_ at2 at3 : Int} {x : ByteArray} : TermC ws nb [(4, x.data.toList)] (.mk 7 at_ .empty vtN [] [.mk 1 at2 .empty vtN [] [], .mk 2 at3 .empty (.mk 4 .empty x [] []) [] []]) := by
  refine termC_leaf ⟨_, _, rfl, rfl⟩ fun m t o hm ha hb => ?_
  obtain ⟨k1, k2, k3⟩ := ha.hd
  refine ⟨fldP (hrP ws t), ?_, ?_⟩
  · refine noA_eq.2 ⟨rfl, rfl, rfl, rfl, ?_⟩
    show noAs [selfP _, saidP _] = noAs _
    simp only [noAs, said_of k1]
    rfl
  · unfold termP
    simp only [(kk_k k1).1, reduceIte, Nat.reduceEqDiff, false_or, or_false]
    exact .refl _ _
theorem term_break {at_ : Int} {x : ByteArray} : TermC ws nb [(2, [98, 114, 101, 97, 107]), (3, x.data.toList)] (.mk 35 at_ x vtN [] []) := by
  refine termC_leaf ⟨_, _, rfl, rfl⟩ fun m t o hm ha hb => ?_
  obtain ⟨k1, k2, k3⟩ := ha.hd
  obtain ⟨k4, k5, k6⟩ := k3.hd
  refine ⟨txP 35 (hrP ws t).at_ (hrP ws (t + 1)).text [], by rw [(kk_k k4).2]; rfl, ?_⟩
  unfold termP
  simp only [(kk_k k1).1, (kk_k k1).2, List.cons.injEq, and_true, and_false, false_and, reduceIte, reduceCtorEq, Nat.reduceEqDiff]
  refine (EQ.thn (EQ.refl _ _)).trans ?_
  refine (EQ.thn (be_ok (by rw [k4]))).trans ?_
  exact .refl _ _
theorem clo_of {a : Nat × List UInt8} {t : Nat} (h : nx ws t = a) (hc : cloK a = true) : cloK (nx ws t) = true := by rw [h]; exact hc
/-- a list -/
theorem term_list0 {at_ : Int} : TermC ws nb [(10, [91]), (10, [93])] (.mk 4 at_ .empty vtN [] []) := by
  refine termC_leaf ⟨_, _, rfl, rfl⟩ fun m t o hm ha hb => ?_
  obtain ⟨k1, k2, k3⟩ := ha.hd
  obtain ⟨k4, k5, k6⟩ := k3.hd
  refine ⟨ndP 4 (hrP ws t).at_ [], rfl, ?_⟩
  unfold termP
  simp only [(kk_k k1).1, (kk_k k1).2, List.cons.injEq, and_true, and_false, false_and, reduceIte, reduceCtorEq, Nat.reduceEqDiff]
  unfold listP
  refine (EQ.thn (enter_ok (by rw [k1]; rfl))).trans ?_
  refine (EQ.thn (a := ([] : List NT)) (t1 := t + 1) (o1 := o + 1) (.of ?_)).trans ?_
  · rw [syP_kk, k4]; rfl
  refine (EQ.thn (leave_ok (by rw [k4]; rfl))).trans ?_
  exact .refl _ _
theorem HdP.sa {t : Nat} {L : KL} {p : Nat × List UInt8 → Bool} (h : HdP p L) (hp : ∀ a, p a = true → stA a = true) (k : AtT ws t L) : kS (nx ws t) [93] = false ∧ kS (nx ws t) [58] = false := by
  have := hp _ (h.at_ k).1
  unfold stA at this
  simp only [Bool.and_eq_true, Bool.not_eq_true'] at this
  exact this
theorem term_list1 {at_ : Int} {L : KL} {k : NT} (h : PipC ws nb L k) : TermC ws nb ((10, [91]) :: (L ++ [(10, [93])])) (.mk 4 at_ .empty vtN [] [k]) := by
  refine termC_leaf ⟨_, _, rfl, rfl⟩ fun m t o hm ha hb => ?_
  obtain ⟨k1, k2, k3⟩ := ha.hd
  obtain ⟨k4, k5⟩ := k3.app
  obtain ⟨k6, k7, _⟩ := k5.hd
  obtain ⟨A', e, h1⟩ := pip_call h (n := m) (o := o + 1) (by omega) k4 (clo_of k6 rfl)
  have s1 := (h.1.sa (fun _ h => h) k4).1
  refine ⟨ndP 4 (hrP ws t).at_ [A'], noA_eq.2 ⟨rfl, rfl, rfl, rfl, by show noAs [A'] = noAs [k]; simp only [noAs, e]⟩, ?_⟩
  have e2 : t + ((10, [91]) :: (L ++ [(10, [93])]) : KL).length = t + 1 + L.length + 1 := by simp; omega
  rw [e2]
  unfold termP
  simp only [(kk_k k1).1, (kk_k k1).2, List.cons.injEq, and_true, and_false, false_and, reduceIte, reduceCtorEq, Nat.reduceEqDiff]
  unfold listP
  refine (EQ.thn (enter_ok (by rw [k1]; rfl))).trans ?_
  refine (EQ.thn (a := [A']) (t1 := t + 1 + L.length) (o1 := o + 1) ?_).trans ?_
  · rw [syP_kk, s1, if_neg (by decide)]
    exact (EQ.thn h1.inn).trans (.refl _ _)
  refine (EQ.thn (leave_ok (by rw [k6]; rfl))).trans ?_
  exact .refl _ _
/-- rows: a filter, and others behind semicolons -/
def rowS (Ls : List KL) : KL := Ls.flatMap fun L => (10, [59]) :: L
theorem rowS_cons (L : KL) (Ls : List KL) : rowS (L :: Ls) = (10, [59]) :: (L ++ rowS Ls) := rfl
def plB (ws : List Tok) (nb : Nat) (P : PM NT) (least most : Nat) (a : Nat × List NT) : PM (Nat × List NT ⊕ List NT) := fun t o => if a.1 < most then (if least ≤ a.1 ∧ syP ws t [59] = false then .ok (.inr a.2) t o else pThen (pMust ws nb [59]) (fun _ => pThen P fun k => pOk (.inl (a.1 + 1, a.2 ++ [k]))) t o) else .ok (.inr a.2) t o
theorem pipes_eq (P : PM NT) (ks : List NT) (least most : Nat) : pipesP ws nb P ks least most = pThen (pEnter ws nb [40]) fun _ => pThen P fun n => pThen (lpP (plB ws nb P least most) (ws.length + 1) (1, ks ++ [n])) fun ks => pThen (pLeave ws nb [41]) fun _ => pOk ks := rfl
inductive PipL (ws : List Tok) (nb : Nat) : List KL → List NT → Prop where
  | nil : PipL ws nb [] []
  | cons {L : KL} {k : NT} {Ls : List KL} {ks : List NT} : PipC ws nb L k → PipL ws nb Ls ks → PipL ws nb (L :: Ls) (k :: ks)
theorem PipL.len {Ls : List KL} {ks : List NT} (h : PipL ws nb Ls ks) : Ls.length = ks.length := by
  induction h with
  | nil => rfl
  | cons _ _ ih => rw [List.length_cons, List.length_cons, ih]
theorem pipes_loop {n o least most : Nat} : ∀ {Ls : List KL} {ks : List NT}, PipL ws nb Ls ks → ∀ (t i F : Nat) (acc : List NT), ws.length + 1 ≤ n + t → ws.length + 1 ≤ F + t → AtT ws t (rowS Ls ++ [(10, [41])]) → least ≤ i + ks.length → i + ks.length ≤ most →
    ∃ ks', noAs ks' = noAs ks ∧ EQ o (lpP (plB ws nb (Pm ws nb n) least most) F (i, acc) t o) (.ok (acc ++ ks') (t + (rowS Ls).length) o) := by
  intro Ls ks h
  induction h with
  | nil =>
    intro t i F acc hn hF ha h1 h2
    have ha : AtT ws t ((10, [41]) :: []) := ha
    obtain ⟨k1, k2, _⟩ := ha.hd
    obtain ⟨F, rfl⟩ : ∃ F0, F = F0 + 1 := ⟨F - 1, by omega⟩
    refine ⟨[], rfl, ?_⟩
    rw [List.append_nil]
    refine EQ.lpr (.of ?_)
    unfold plB
    have h1 : least ≤ i := h1
    rw [syP_kk, k1]
    split
    · rw [if_pos ⟨h1, rfl⟩]; rfl
    · rfl
  | @cons L k Ls ks h hs ih =>
    intro t i F acc hn hF ha h1 h2
    rw [rowS_cons] at ha ⊢
    rw [List.cons_append, List.append_assoc] at ha
    obtain ⟨k1, k2, k3⟩ := ha.hd
    obtain ⟨k4, k5⟩ := k3.app
    obtain ⟨F, rfl⟩ : ∃ F0, F = F0 + 1 := ⟨F - 1, by omega⟩
    have hc : cloK (nx ws (t + 1 + L.length)) = true := by
      cases Ls with
      | nil => obtain ⟨k6, _, _⟩ := AtT.hd (L := []) k5; rw [k6]; rfl
      | cons M Ms => rw [rowS_cons, List.cons_append] at k5; obtain ⟨k6, _, _⟩ := k5.hd; rw [k6]; rfl
    obtain ⟨k', e, h3⟩ := pip_call h (n := n) (t := t + 1) (o := o) (by omega) k4 hc
    rw [List.length_cons] at h1 h2
    obtain ⟨ks', e2, h4⟩ := ih (t + 1 + L.length) (i + 1) F (acc ++ [k']) (by omega) (by omega) k5 (by omega) (by omega)
    refine ⟨k' :: ks', by rw [noAs, noAs, e, e2], ?_⟩
    have e3 : t + ((10, [59]) :: (L ++ rowS Ls) : KL).length = t + 1 + L.length + (rowS Ls).length := by rw [List.length_cons, List.length_append]; omega
    rw [e3]
    refine (EQ.lpl (a' := (i + 1, acc ++ [k'])) (t1 := t + 1 + L.length) (o1 := o) ?_).trans ?_
    · unfold plB
      rw [if_pos (show i < most by omega), syP_kk, k1, if_neg (by rintro ⟨_, h⟩; cases h)]
      refine (EQ.thn (must_ok (by rw [k1]; rfl))).trans ?_
      exact (EQ.thn h3).trans (.refl _ _)
    · rw [List.append_assoc] at h4
      exact h4
/-- a row in brackets -/
theorem pipes_ok {n t o least most : Nat} {L : KL} {k : NT} {Ls : List KL} {ks acc : List NT} (h : PipC ws nb L k) (hs : PipL ws nb Ls ks) (hn : ws.length ≤ n + t) (ha : AtT ws t ((10, [40]) :: (L ++ (rowS Ls ++ [(10, [41])])))) (h1 : least ≤ 1 + ks.length) (h2 : 1 + ks.length ≤ most) :
    ∃ ks', noAs ks' = noAs (k :: ks) ∧ EQ o (pipesP ws nb (Pm ws nb n) acc least most t o) (.ok (acc ++ ks') (t + (1 + L.length + (rowS Ls).length + 1)) o) := by
  obtain ⟨k1, k2, k3⟩ := ha.hd
  obtain ⟨k4, k5⟩ := k3.app
  have hc : cloK (nx ws (t + 1 + L.length)) = true := by
    cases Ls with
    | nil => obtain ⟨k6, _, _⟩ := AtT.hd (L := []) k5; rw [k6]; rfl
    | cons M Ms => rw [rowS_cons, List.cons_append] at k5; obtain ⟨k6, _, _⟩ := k5.hd; rw [k6]; rfl
  obtain ⟨k', e, h3⟩ := pip_call h (n := n) (t := t + 1) (o := o + 1) (by omega) k4 hc
  obtain ⟨ks', e2, h4⟩ := pipes_loop (n := n) (o := o + 1) hs (t + 1 + L.length) 1 (ws.length + 1) (acc ++ [k']) (by omega) (by omega) k5 h1 h2
  obtain ⟨k6, k7⟩ := k5.app
  obtain ⟨k8, k9, _⟩ := k7.hd
  refine ⟨k' :: ks', by rw [noAs, noAs, e, e2], ?_⟩
  rw [pipes_eq]
  refine (EQ.thn (enter_ok (by rw [k1]; rfl))).trans ?_
  refine (EQ.thn h3.inn).trans ?_
  refine (EQ.thn h4.inn).trans ?_
  refine (EQ.thn (leave_ok (by rw [k8]; rfl))).trans (.of ?_)
  unfold pOk
  rw [List.append_assoc, show t + (1 + L.length + (rowS Ls).length + 1) = t + 1 + L.length + (rowS Ls).length + 1 by omega]
  rfl
theorem term_call0 {at_ : Int} {x : ByteArray} : TermC ws nb [(1, x.data.toList)] (.mk 33 at_ x vtN [] []) := by
  refine termC_leaf ⟨_, _, rfl, rfl⟩ fun m t o hm ha hb => ?_
  obtain ⟨k1, k2, k3⟩ := ha.hd
  refine ⟨txP 33 (hrP ws t).at_ (hrP ws t).text [], by rw [(kk_k k1).2]; rfl, ?_⟩
  unfold termP
  simp only [(kk_k k1).1, reduceIte, Nat.reduceEqDiff, false_or, or_false]
  unfold callP
  refine (EQ.thn (EQ.refl _ _)).trans ?_
  have b : kS (nx ws (t + 1)) [40] = false := by
    unfold brkK at hb
    simp only [Bool.or_eq_false_iff] at hb
    exact hb.2
  rw [syP_kk, b, if_neg (by decide)]
  exact .refl _ _
theorem term_call {at_ : Int} {x : ByteArray} {L : KL} {k : NT} {Ls : List KL} {ks : List NT} (h : PipC ws nb L k) (hs : PipL ws nb Ls ks) (hl : ks.length < 9223372036854775807) : TermC ws nb ((1, x.data.toList) :: (10, [40]) :: (L ++ (rowS Ls ++ [(10, [41])]))) (.mk 33 at_ x vtN [] (k :: ks)) := by
  refine termC_leaf ⟨_, _, rfl, rfl⟩ fun m t o hm ha hb => ?_
  obtain ⟨k1, k2, k3⟩ := ha.hd
  obtain ⟨k4, _, _⟩ := k3.hd
  obtain ⟨ks', e, h1⟩ := pipes_ok (n := m) (t := t + 1) (o := o) (least := 1) (most := 9223372036854775807) (acc := []) h hs (by omega) k3 (by omega) (by omega)
  refine ⟨txP 33 (hrP ws t).at_ (hrP ws t).text ks', ?_, ?_⟩
  · rw [(kk_k k1).2]
    exact noA_eq.2 ⟨rfl, rfl, rfl, rfl, e⟩
  have e2 : t + ((1, x.data.toList) :: (10, [40]) :: (L ++ (rowS Ls ++ [(10, [41])])) : KL).length = t + 1 + (1 + L.length + (rowS Ls).length + 1) := by simp; omega
  rw [e2]
  unfold termP
  simp only [(kk_k k1).1, reduceIte, Nat.reduceEqDiff, false_or, or_false]
  unfold callP
  refine (EQ.thn (EQ.refl _ _)).trans ?_
  rw [syP_kk, k4, if_pos (show kS (10, [40]) [40] = true from rfl)]
  exact (EQ.thn h1).trans (.refl _ _)

/-- what stands behind a term -/
theorem term_suf {Lb S : KL} {B A : NT} (h : TermC ws nb Lb B) (hh : HdP (fun a => !brkK a) S) (hr : ∀ m t o B', noA B' = noA B → ws.length ≤ m + t → AtT ws t S → ∃ A', noA A' = noA A ∧ EQ o (sfB ws nb (Pm ws nb m) B' t o) (.ok (.inl A') (t + S.length) o)) : TermC ws nb (Lb ++ S) A := by
  refine ⟨h.1.app, fun m t o b F hm hF ha hb => ?_⟩
  obtain ⟨k1, k2⟩ := ha.app
  have hbs : brkK (nx ws (t + Lb.length)) = false := by
    have := (hh.at_ k2).1
    simpa using this
  obtain ⟨B', F1, e, hF1, h1⟩ := h.2 m t o b F hm hF k1 hbs
  obtain ⟨A', e2, h2⟩ := hr m (t + Lb.length) o B' e (by omega) k2
  have hl := hh.le k2
  obtain ⟨F2, rfl⟩ : ∃ F0, F1 = F0 + 1 := ⟨F1 - 1, by omega⟩
  refine ⟨A', F2, e2, by rw [List.length_append]; omega, h1.trans ?_⟩
  unfold RR
  refine EQ.bdd ?_ _
  rw [List.length_append, ← Nat.add_assoc]
  exact EQ.lpl h2
theorem sf_q {t o e : Nat} {P : PM NT} {a : NT} (h : nx ws t = (10, [63])) : EQ e (sfB ws nb P a t o) (.ok (.inl (ndP 10 (hrP ws t).at_ [a])) (t + 1) o) := by
  refine .of ?_
  unfold sfB isP
  rw [syP_kk, syP_kk, syP_kk, h, (kk_k h).1]
  rfl
theorem sf_f {t o e : Nat} {P : PM NT} {a : NT} {x : List UInt8} (h : nx ws t = (4, x)) : EQ e (sfB ws nb P a t o) (.ok (.inl (idxP (hrP ws t).at_ a (saidP (hrP ws t)))) (t + 1) o) := by
  refine .of ?_
  unfold sfB isP
  rw [(kk_k h).1]
  rfl
theorem sf_b {t o : Nat} {P : PM NT} {a : NT} (h : nx ws t = (10, [91])) : sfB ws nb P a t o = pThen (bracketP ws nb P a) (fun n => pOk (.inl n)) t o := by
  unfold sfB isP
  rw [syP_kk, syP_kk, h, (kk_k h).1]
  rfl
theorem term_try1 {at_ : Int} {Lb : KL} {B : NT} (h : TermC ws nb Lb B) : TermC ws nb (Lb ++ [(10, [63])]) (.mk 10 at_ .empty vtN [] [B]) := by
  refine term_suf h ⟨_, _, rfl, rfl⟩ fun m t o B' e hm ha => ?_
  obtain ⟨k1, k2, _⟩ := ha.hd
  exact ⟨ndP 10 (hrP ws t).at_ [B'], noA_eq.2 ⟨rfl, rfl, rfl, rfl, by show noAs [B'] = noAs [B]; simp only [noAs, e]⟩, sf_q k1⟩
theorem term_dot {at_ at3 : Int} {Lb : KL} {B : NT} {x : ByteArray} (h : TermC ws nb Lb B) : TermC ws nb (Lb ++ [(4, x.data.toList)]) (.mk 7 at_ .empty vtN [] [B, .mk 2 at3 .empty (.mk 4 .empty x [] []) [] []]) := by
  refine term_suf h ⟨_, _, rfl, rfl⟩ fun m t o B' e hm ha => ?_
  obtain ⟨k1, k2, _⟩ := ha.hd
  refine ⟨idxP (hrP ws t).at_ B' (saidP (hrP ws t)), noA_eq.2 ⟨rfl, rfl, rfl, rfl, ?_⟩, sf_f k1⟩
  show noAs [B', saidP _] = noAs [B, _]
  simp only [noAs, e, said_of k1]
  rfl
theorem term_each {at_ : Int} {Lb : KL} {B : NT} (h : TermC ws nb Lb B) : TermC ws nb (Lb ++ [(10, [91]), (10, [93])]) (.mk 9 at_ .empty vtN [] [B]) := by
  refine term_suf h ⟨_, _, rfl, rfl⟩ fun m t o B' e hm ha => ?_
  obtain ⟨k1, k2, k3⟩ := ha.hd
  obtain ⟨k4, k5, _⟩ := k3.hd
  refine ⟨ndP 9 (hrP ws t).at_ [B'], noA_eq.2 ⟨rfl, rfl, rfl, rfl, by show noAs [B'] = noAs [B]; simp only [noAs, e]⟩, ?_⟩
  rw [sf_b k1]
  refine (EQ.thn (a := ndP 9 (hrP ws t).at_ [B']) (t1 := t + 1 + 1) (o1 := o) ?_).trans (.refl _ _)
  unfold bracketP
  refine (EQ.thn (enter_ok (by rw [k1]; rfl))).trans ?_
  rw [syP_kk, k4, if_pos (show kS (10, [93]) [93] = true from rfl)]
  exact (EQ.thn (leave_ok (by rw [k4]; rfl))).trans (.refl _ _)
theorem term_index {at_ : Int} {Lb L : KL} {B k : NT} (h : TermC ws nb Lb B) (hk : PipC ws nb L k) : TermC ws nb (Lb ++ ((10, [91]) :: (L ++ [(10, [93])]))) (.mk 7 at_ .empty vtN [] [B, k]) := by
  refine term_suf h ⟨_, _, rfl, rfl⟩ fun m t o B' e hm ha => ?_
  obtain ⟨k1, k2, k3⟩ := ha.hd
  obtain ⟨k4, k5⟩ := k3.app
  obtain ⟨k6, k7, _⟩ := k5.hd
  obtain ⟨k', e2, h1⟩ := pip_call hk (n := m) (t := t + 1) (o := o + 1) (by omega) k4 (clo_of k6 rfl)
  have s1 := hk.1.sa (fun _ h => h) k4
  refine ⟨idxP (hrP ws t).at_ B' k', noA_eq.2 ⟨rfl, rfl, rfl, rfl, by show noAs [B', k'] = noAs [B, k]; simp only [noAs, e, e2]⟩, ?_⟩
  rw [sf_b k1]
  refine (EQ.thn (a := idxP (hrP ws t).at_ B' k') (t1 := t + ((10, [91]) :: (L ++ [(10, [93])]) : KL).length) (o1 := o) ?_).trans (.refl _ _)
  unfold bracketP
  refine (EQ.thn (enter_ok (by rw [k1]; rfl))).trans ?_
  rw [syP_kk, syP_kk, s1.1, s1.2, if_neg (by decide), if_neg (by decide)]
  refine (EQ.thn h1.inn).trans ?_
  rw [syP_kk, k6, if_pos (show kS (10, [93]) [93] = true from rfl)]
  refine (EQ.thn (leave_ok (by rw [k6]; rfl))).trans (.of ?_)
  rw [show t + ((10, [91]) :: (L ++ [(10, [93])]) : KL).length = t + 1 + L.length + 1 by simp; omega]
  rfl
theorem term_slice1 {at_ : Int} {Lb L : KL} {B k x : NT} (h : TermC ws nb Lb B) (hk : PipC ws nb L k) (hx : noA x = noA (ndP 0 0 [])) : TermC ws nb (Lb ++ ((10, [91]) :: (10, [58]) :: (L ++ [(10, [93])]))) (.mk 8 at_ .empty vtN [] [B, x, k]) := by
  refine term_suf h ⟨_, _, rfl, rfl⟩ fun m t o B' e hm ha => ?_
  obtain ⟨k1, k2, k3⟩ := ha.hd
  obtain ⟨k8, k9, k3⟩ := k3.hd
  obtain ⟨k4, k5⟩ := k3.app
  obtain ⟨k6, k7, _⟩ := k5.hd
  obtain ⟨k', e2, h1⟩ := pip_call hk (n := m) (t := t + 1 + 1) (o := o + 1) (by omega) k4 (clo_of k6 rfl)
  refine ⟨ndP 8 (hrP ws t).at_ [B', ndP 0 0 [], k'], noA_eq.2 ⟨rfl, rfl, rfl, rfl, by show noAs [B', ndP 0 0 [], k'] = noAs [B, x, k]; simp only [noAs, e, e2, hx]⟩, ?_⟩
  rw [sf_b k1]
  refine (EQ.thn (a := ndP 8 (hrP ws t).at_ [B', ndP 0 0 [], k']) (t1 := t + ((10, [91]) :: (10, [58]) :: (L ++ [(10, [93])]) : KL).length) (o1 := o) ?_).trans (.refl _ _)
  unfold bracketP
  refine (EQ.thn (enter_ok (by rw [k1]; rfl))).trans ?_
  rw [syP_kk, syP_kk, k8, if_neg (by decide), if_pos (show kS (10, [58]) [58] = true from rfl)]
  refine (EQ.thn (EQ.refl _ _)).trans ?_
  refine (EQ.thn h1.inn).trans ?_
  refine (EQ.thn (leave_ok (by rw [k6]; rfl))).trans (.of ?_)
  rw [show t + ((10, [91]) :: (10, [58]) :: (L ++ [(10, [93])]) : KL).length = t + 1 + 1 + L.length + 1 by simp; omega]
  rfl
theorem term_slice2 {at_ : Int} {Lb L : KL} {B k x : NT} (h : TermC ws nb Lb B) (hk : PipC ws nb L k) (hx : noA x = noA (ndP 0 0 [])) : TermC ws nb (Lb ++ ((10, [91]) :: (L ++ [(10, [58]), (10, [93])]))) (.mk 8 at_ .empty vtN [] [B, k, x]) := by
  refine term_suf h ⟨_, _, rfl, rfl⟩ fun m t o B' e hm ha => ?_
  obtain ⟨k1, k2, k3⟩ := ha.hd
  obtain ⟨k4, k5⟩ := k3.app
  obtain ⟨k6, k7, k8⟩ := k5.hd
  obtain ⟨k9, k10, _⟩ := k8.hd
  obtain ⟨k', e2, h1⟩ := pip_call hk (n := m) (t := t + 1) (o := o + 1) (by omega) k4 (clo_of k6 rfl)
  have s1 := hk.1.sa (fun _ h => h) k4
  refine ⟨ndP 8 (hrP ws t).at_ [B', k', ndP 0 0 []], noA_eq.2 ⟨rfl, rfl, rfl, rfl, by show noAs [B', k', ndP 0 0 []] = noAs [B, k, x]; simp only [noAs, e, e2, hx]⟩, ?_⟩
  rw [sf_b k1]
  refine (EQ.thn (a := ndP 8 (hrP ws t).at_ [B', k', ndP 0 0 []]) (t1 := t + ((10, [91]) :: (L ++ [(10, [58]), (10, [93])]) : KL).length) (o1 := o) ?_).trans (.refl _ _)
  unfold bracketP
  refine (EQ.thn (enter_ok (by rw [k1]; rfl))).trans ?_
  rw [syP_kk, syP_kk, s1.1, s1.2, if_neg (by decide), if_neg (by decide)]
  refine (EQ.thn h1.inn).trans ?_
  rw [syP_kk, k6, if_neg (by decide)]
  refine (EQ.thn (must_ok (by rw [k6]; rfl))).trans ?_
  rw [syP_kk, k9, if_pos (show kS (10, [93]) [93] = true from rfl)]
  refine (EQ.thn (leave_ok (by rw [k9]; rfl))).trans (.of ?_)
  rw [show t + ((10, [91]) :: (L ++ [(10, [58]), (10, [93])]) : KL).length = t + 1 + L.length + 1 + 1 by simp; omega]
  rfl
theorem term_slice {at_ : Int} {Lb L M : KL} {B k x : NT} (h : TermC ws nb Lb B) (hk : PipC ws nb L k) (hx : PipC ws nb M x) : TermC ws nb (Lb ++ ((10, [91]) :: (L ++ ((10, [58]) :: (M ++ [(10, [93])]))))) (.mk 8 at_ .empty vtN [] [B, k, x]) := by
  refine term_suf h ⟨_, _, rfl, rfl⟩ fun m t o B' e hm ha => ?_
  obtain ⟨k1, k2, k3⟩ := ha.hd
  obtain ⟨k4, k5⟩ := k3.app
  obtain ⟨k6, k7, k8⟩ := k5.hd
  obtain ⟨k9, k10⟩ := k8.app
  obtain ⟨k11, k12, _⟩ := k10.hd
  obtain ⟨k', e2, h1⟩ := pip_call hk (n := m) (t := t + 1) (o := o + 1) (by omega) k4 (clo_of k6 rfl)
  obtain ⟨x', e3, h2⟩ := pip_call hx (n := m) (t := t + 1 + L.length + 1) (o := o + 1) (by omega) k9 (clo_of k11 rfl)
  have s1 := hk.1.sa (fun _ h => h) k4
  have s2 := hx.1.sa (fun _ h => h) k9
  refine ⟨ndP 8 (hrP ws t).at_ [B', k', x'], noA_eq.2 ⟨rfl, rfl, rfl, rfl, by show noAs [B', k', x'] = noAs [B, k, x]; simp only [noAs, e, e2, e3]⟩, ?_⟩
  rw [sf_b k1]
  refine (EQ.thn (a := ndP 8 (hrP ws t).at_ [B', k', x']) (t1 := t + ((10, [91]) :: (L ++ ((10, [58]) :: (M ++ [(10, [93])]))) : KL).length) (o1 := o) ?_).trans (.refl _ _)
  unfold bracketP
  refine (EQ.thn (enter_ok (by rw [k1]; rfl))).trans ?_
  rw [syP_kk, syP_kk, s1.1, s1.2, if_neg (by decide), if_neg (by decide)]
  refine (EQ.thn h1.inn).trans ?_
  rw [syP_kk, k6, if_neg (by decide)]
  refine (EQ.thn (must_ok (by rw [k6]; rfl))).trans ?_
  rw [syP_kk, s2.1, if_neg (by decide)]
  refine (EQ.thn h2.inn).trans ?_
  refine (EQ.thn (leave_ok (by rw [k11]; rfl))).trans (.of ?_)
  rw [show t + ((10, [91]) :: (L ++ ((10, [58]) :: (M ++ [(10, [93])]))) : KL).length = t + 1 + L.length + 1 + M.length + 1 by simp; omega]
  rfl
/-- if -/
theorem term_if {at_ : Int} {L M N : KL} {a b c : NT} (h : PipC ws nb L a) (h2 : PipC ws nb M b) (h3 : PipC ws nb N c) : TermC ws nb ((2, [105, 102]) :: (L ++ ((2, [116, 104, 101, 110]) :: (M ++ ((2, [101, 108, 115, 101]) :: (N ++ [(2, [101, 110, 100])])))))) (.mk 28 at_ .empty vtN [] [a, b, c]) := by
  refine termC_leaf ⟨_, _, rfl, rfl⟩ fun m t o hm ha hb => ?_
  obtain ⟨k1, k2, k3⟩ := ha.hd
  obtain ⟨k4, k5⟩ := k3.app
  obtain ⟨k6, k7, k8⟩ := k5.hd
  obtain ⟨k9, k10⟩ := k8.app
  obtain ⟨k11, k12, k13⟩ := k10.hd
  obtain ⟨k14, k15⟩ := k13.app
  obtain ⟨k16, k17, _⟩ := k15.hd
  obtain ⟨a', e1, q1⟩ := pip_call h (n := m) (t := t + 1) (o := o + 1) (by omega) k4 (clo_of k6 rfl)
  obtain ⟨b', e2, q2⟩ := pip_call h2 (n := m) (t := t + 1 + L.length + 1) (o := o + 1) (by omega) k9 (clo_of k11 rfl)
  obtain ⟨c', e3, q3⟩ := pip_call h3 (n := m) (t := t + 1 + L.length + 1 + M.length + 1) (o := o + 1) (by omega) k14 (clo_of k16 rfl)
  refine ⟨ndP 28 (hrP ws t).at_ [a', b', c'], noA_eq.2 ⟨rfl, rfl, rfl, rfl, by show noAs [a', b', c'] = noAs [a, b, c]; simp only [noAs, e1, e2, e3]⟩, ?_⟩
  rw [show t + ((2, [105, 102]) :: (L ++ ((2, [116, 104, 101, 110]) :: (M ++ ((2, [101, 108, 115, 101]) :: (N ++ [(2, [101, 110, 100])]))))) : KL).length = t + 1 + L.length + 1 + M.length + 1 + N.length + 1 by simp; omega]
  unfold termP
  simp only [(kk_k k1).1, (kk_k k1).2, List.cons.injEq, and_true, and_false, false_and, reduceIte, reduceCtorEq, Nat.reduceEqDiff]
  unfold choiceP
  refine (EQ.thn (enter_ok (by rw [k1]; rfl))).trans ?_
  refine (EQ.thn (a := ndP 28 (hrP ws t).at_ [a', b']) (t1 := t + 1 + L.length + 1 + M.length) (o1 := o + 1) ?_).trans ?_
  · unfold branchP
    refine (EQ.thn q1.inn).trans ?_
    refine (EQ.thn (must_ok (by rw [k6]; rfl))).trans ?_
    exact (EQ.thn q2.inn).trans (.refl _ _)
  refine (EQ.thn (EQ.lpr (b := [ndP 28 (hrP ws t).at_ [a', b']]) (t1 := t + 1 + L.length + 1 + M.length) (o1 := o + 1) (.of ?_))).trans ?_
  · rw [syP_kk, k11]; rfl
  refine (EQ.thn (a := c') (t1 := t + 1 + L.length + 1 + M.length + 1 + N.length) (o1 := o + 1) ?_).trans ?_
  · rw [syP_kk, k11, if_pos (show kS (2, [101, 108, 115, 101]) [101, 108, 115, 101] = true from rfl)]
    refine (EQ.thn (EQ.refl _ _)).trans ?_
    exact q3.inn
  exact (EQ.thn (leave_ok (by rw [k16]; rfl))).trans (.refl _ _)
end Go.Proofs.YtdjleoglphgdgaaGreatDoor
