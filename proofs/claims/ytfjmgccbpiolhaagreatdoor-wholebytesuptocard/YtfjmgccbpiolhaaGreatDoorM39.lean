import Derived.Test.YtfjmgccbpiolhaaGreatDoorM38
import Derived.Deep.RegionLaw
import Derived.Deep.AppendLies
import Derived.Deep.RegionHeld3
namespace Go.Proofs.YtfjmgccbpiolhaaGreatDoor
open Go.RowKit Go.Shelf
set_option linter.unusedVariables false
set_option linter.unusedSimpArgs false
attribute [local go_sem] Oper.semAt_some

theorem Tryz.infoVr : (Tryz.prog.info? 49).map (fun i => (i.zero, i.size, i.bytes)) = some (some (.agg #[.int .i64 0, .string ⟨#[]⟩, .string ⟨#[]⟩, .slice none 0 0, .slice none 0 0]), 5, 88) := by kernel_rfl

theorem app_cells {w1 : World} {base g k cap : Nat} {e : TypeId} {c : Nat → Fin 5 → Value} {z0 z1 z2 z3 z4 : Value} (h : w1.ownsRow base e 5 (.slice (some ⟨g, 0, none⟩) (k + 1) cap) (k + 1) (flat c k ++ [z0, z1, z2, z3, z4])) :
    w1.cell? ⟨g, k * 5, none⟩ = some z0 ∧ w1.cell? ⟨g, k * 5 + 1, none⟩ = some z1 ∧ w1.cell? ⟨g, k * 5 + 2, none⟩ = some z2 ∧ w1.cell? ⟨g, k * 5 + 3, none⟩ = some z3 ∧ w1.cell? ⟨g, k * 5 + 4, none⟩ = some z4 ∧ (∀ j, w1.frozen? ⟨g, j, none⟩ = false) := by
  have e : ∀ j, j < 5 → w1.cell? ⟨g, k * 5 + j, none⟩ = [z0, z1, z2, z3, z4][j]? := fun j hj => by
    rw [own_cellAt h (by omega), List.getElem?_append_right (by rw [flat_len]; omega), flat_len, show k * 5 + j - k * 5 = j by omega]
  refine ⟨e 0 (by omega), e 1 (by omega), e 2 (by omega), e 3 (by omega), e 4 (by omega), fun j => ?_⟩
  rcases h.2 with ⟨h1, _⟩ | ⟨g', cap', cur, h1, _, hb, _⟩
  · cases h1
  · simp only [Value.slice.injEq, Option.some.injEq, Addr.mk.injEq] at h1
    obtain ⟨⟨rfl, _, _⟩, _, _⟩ := h1
    exact frozen_rowT hb
theorem sC_os (w : World) (a : Addr) (v : Value) : (w.setCell a v).os = w.os := rfl
theorem sC_tape (w : World) (a : Addr) (v : Value) : (w.setCell a v).tape = w.tape := rfl
theorem sC_output (w : World) (a : Addr) (v : Value) : (w.setCell a v).output = w.output := rfl
end Go.Proofs.YtfjmgccbpiolhaaGreatDoor
namespace Go.Proofs.YtfjmgccbpiolhaaGreatDoor
open Go.RowKit Go.Shelf
set_option linter.unusedVariables false
set_option linter.unusedSimpArgs false

theorem own_keepR {W W' : World} {B : Nat} {e : TypeId} {size : Nat} {v : Value} {n : Nat} {xs : List Value} (h : W.ownsRow B e size v n xs) (hb : ∀ b, v.ownBlock = some b → b < W.heap.size → W'.heap[b]? = W.heap[b]?) : W'.ownsRow B e size v n xs := by
  refine ⟨h.1, h.2.imp id ?_⟩
  rintro ⟨g, cap, cur, rfl, e2, e3, rest⟩
  exact ⟨g, cap, cur, rfl, e2, (hb g rfl (Array.getElem?_eq_some_iff.1 e3).1).trans e3, rest⟩
theorem own_low {w : World} {lo : Nat} {e : TypeId} {size : Nat} {v : Value} {n : Nat} {xs : List Value} (h : w.ownsRow lo e size v n xs) {b : Nat} (hb : v.ownBlock = some b) : lo ≤ b ∧ b < w.heap.size := by
  rcases h.2 with ⟨h1, _⟩ | ⟨g2, c2, cur, h1, h2, h3, _⟩
  · rw [h1] at hb; cases hb
  · rw [h1] at hb
    simp [Value.ownBlock] at hb
    subst hb
    exact ⟨h2, (Array.getElem?_eq_some_iff.1 h3).1⟩

def rowD (lo : Nat) (v : Value) (b : Nat) : Prop := lo ≤ b ∧ v.ownBlock ≠ some b
structure ArC (O lo h k : Nat) (io : Option Addr) (cap : Nat) (c : Nat → Fin 5 → Value) (xs : List VT) (w : World) : Prop where
  len : xs.length = k
  ol : O < lo
  ll : lo ≤ w.heap.size
  box : w.heap[O]? = some (.cells #[.int .i64 5, .string ⟨#[]⟩, .string ⟨#[]⟩, .slice io k cap, .slice none 0 0] 49 (0, 0))
  own : w.ownsRow lo 49 5 (.slice io k cap) k (flat c k)
  trees : ∀ i, (hi : i < xs.length) → InD (rowD lo (.slice io k cap)) w (h + 1) xs[i] (.agg #[c i 0, c i 1, c i 2, c i 3, c i 4])
theorem ArC.keep {O lo H k cap : Nat} {io : Option Addr} {c : Nat → Fin 5 → Value} {xs : List VT} {w w' : World} (h : ArC O lo H k io cap c xs w) (hz : w.heap.size ≤ w'.heap.size) (hs : ∀ b, O ≤ b → b < w.heap.size → w'.heap[b]? = w.heap[b]?) : ArC O lo H k io cap c xs w' := by
  have h1 := h.ol
  have h2 := h.ll
  exact ⟨h.len, h.ol, by omega, (hs O (Nat.le_refl _) (by omega)).trans h.box, own_keepR h.own (fun b hb hl => hs b (by have := (own_low h.own hb).1; omega) hl), fun i hi => InD.keep hz (fun b hb hl => hs b (by have := hb.1; omega) hl) (fun b hb _ => hb) (h.trees i hi)⟩
theorem ArC.but {I O lo H k cap : Nat} {io : Option Addr} {c : Nat → Fin 5 → Value} {xs : List VT} {w w' : World} (h : ArC O lo H k io cap c xs w) (hI : I < O) (hb : But I w w') : ArC O lo H k io cap c xs w' := h.keep hb.size (fun b h1 h2 => hb.block b h2 (by omega))
theorem ArC.low {O lo H k cap : Nat} {io : Option Addr} {c : Nat → Fin 5 → Value} {xs : List VT} {w w' : World} (h : ArC O lo H k io cap c xs w) (hb : Below w.heap.size w w') : ArC O lo H k io cap c xs w' := h.keep hb.size (fun b _ h2 => hb.block b h2)

def zeroBox (W : World) (zb : Nat) : Prop := W.heap[zb]? = some (.cells #[.int .i64 0, .string ⟨#[]⟩, .string ⟨#[]⟩, .slice none 0 0, .slice none 0 0] 49 (0, 0))
structure AP (I B O lo H k q zb : Nat) (io : Option Addr) (cap : Nat) (c : Nat → Fin 5 → Value) (xs : List VT) (s : ByteArray) (T : VT) (v : Value) (w W : World) : Prop where
  arc : ArC O lo H k io cap c xs W
  inp : InAt W I s q
  bel : Bel I B w W
  new : InF w.heap.size W (H + 1) T v
  ll : lo ≤ w.heap.size
  zero : zeroBox W zb
  rowlt : ∀ b, (Value.slice io k cap).ownBlock = some b → b < w.heap.size
  ib : I < B
  bo : B ≤ O
def cUp (k : Nat) (c : Nat → Fin 5 → Value) (x0 x1 x2 x3 x4 : Value) (i : Nat) : Fin 5 → Value := if i = k then (fun j => match j with | 0 => x0 | 1 => x1 | 2 => x2 | 3 => x3 | 4 => x4) else c i
theorem flat_cUp (k : Nat) (c : Nat → Fin 5 → Value) (x0 x1 x2 x3 x4 : Value) : flat (cUp k c x0 x1 x2 x3 x4) (k + 1) = flat c k ++ [x0, x1, x2, x3, x4] := by
  rw [flat_up]
  congr 1
  · exact flat_eq (fun i hi => by unfold cUp; rw [if_neg (by omega)])
  · unfold cUp; simp
theorem a1_mem {w1 wz : World} {O lo k g cap' : Nat} {c : Nat → Fin 5 → Value} {z0 z1 z2 z3 z4 x0 x1 x2 x3 x4 y0 y1 y2 y3 y4 : Value} (hOl : O < lo) (hgl : lo ≤ g)
    (hown : w1.ownsRow lo 49 5 (.slice (some ⟨g, 0, none⟩) (k + 1) cap') (k + 1) (flat c k ++ [z0, z1, z2, z3, z4])) (hv : w1.heap[O]? = some (.cells #[y0, y1, y2, y3, y4] 49 (0, 0)))
    (hz : wz = (((((w1.setCell ⟨g, k * 5, none⟩ x0).setCell ⟨g, k * 5 + 1, none⟩ x1).setCell ⟨g, k * 5 + 2, none⟩ x2).setCell ⟨g, k * 5 + 3, none⟩ x3).setCell ⟨g, k * 5 + 4, none⟩ x4).setCell ⟨O, 3, none⟩ (.slice (some ⟨g, 0, none⟩) (k + 1) cap') ∨
      wz = (((((w1.setCell ⟨O, 3, none⟩ (.slice (some ⟨g, 0, none⟩) (k + 1) cap')).setCell ⟨g, k * 5, none⟩ x0).setCell ⟨g, k * 5 + 1, none⟩ x1).setCell ⟨g, k * 5 + 2, none⟩ x2).setCell ⟨g, k * 5 + 3, none⟩ x3).setCell ⟨g, k * 5 + 4, none⟩ x4) :
    (wz.os = w1.os ∧ wz.tape = w1.tape ∧ wz.output = w1.output) ∧ wz.heap.size = w1.heap.size ∧ (∀ b, b ≠ g → b ≠ O → wz.heap[b]? = w1.heap[b]?) ∧ wz.heap[O]? = some (.cells #[y0, y1, y2, .slice (some ⟨g, 0, none⟩) (k + 1) cap', y4] 49 (0, 0)) ∧
      wz.ownsRow lo 49 5 (.slice (some ⟨g, 0, none⟩) (k + 1) cap') (k + 1) (flat c k ++ [x0, x1, x2, x3, x4]) := by
  have hne : O ≠ g := by omega
  rcases hz with hz | hz
  · refine ⟨⟨?_, ?_, ?_⟩, ?_, fun b h1 h2 => ?_, ?_, ?_⟩
    · rw [hz]; simp only [sC_os]
    · rw [hz]; simp only [sC_tape]
    · rw [hz]; simp only [sC_output]
    · rw [hz]; simp
    · rw [hz, Below.heap_setCell _ _ _ _ h2, Below.heap_setCell _ _ _ _ h1, Below.heap_setCell _ _ _ _ h1, Below.heap_setCell _ _ _ _ h1, Below.heap_setCell _ _ _ _ h1, Below.heap_setCell _ _ _ _ h1]
    · rw [hz]
      refine rset (i := 3) (c := #[y0, y1, y2, y3, y4]) _ ?_
      rw [Below.heap_setCell _ _ _ _ hne, Below.heap_setCell _ _ _ _ hne, Below.heap_setCell _ _ _ _ hne, Below.heap_setCell _ _ _ _ hne, Below.heap_setCell _ _ _ _ hne]
      exact hv
    · rw [hz]; exact ownsRow_setCell_below (own_set5 (flat_len c k) hown x0 x1 x2 x3 x4) (a := ⟨O, 3, none⟩) hOl _
  · refine ⟨⟨?_, ?_, ?_⟩, ?_, fun b h1 h2 => ?_, ?_, ?_⟩
    · rw [hz]; simp only [sC_os]
    · rw [hz]; simp only [sC_tape]
    · rw [hz]; simp only [sC_output]
    · rw [hz]; simp
    · rw [hz, Below.heap_setCell _ _ _ _ h1, Below.heap_setCell _ _ _ _ h1, Below.heap_setCell _ _ _ _ h1, Below.heap_setCell _ _ _ _ h1, Below.heap_setCell _ _ _ _ h1, Below.heap_setCell _ _ _ _ h2]
    · rw [hz, Below.heap_setCell _ _ _ _ hne, Below.heap_setCell _ _ _ _ hne, Below.heap_setCell _ _ _ _ hne, Below.heap_setCell _ _ _ _ hne, Below.heap_setCell _ _ _ _ hne]
      exact rset (i := 3) (c := #[y0, y1, y2, y3, y4]) _ hv
    · rw [hz]; exact own_set5 (flat_len c k) (ownsRow_setCell_below hown (a := ⟨O, 3, none⟩) hOl _) x0 x1 x2 x3 x4
theorem a1_end {I B O lo H k q zb g cap cap' : Nat} {io : Option Addr} {c : Nat → Fin 5 → Value} {xs : List VT} {s : ByteArray} {T : VT} {w W w1 wz : World} {z0 z1 z2 z3 z4 x0 x1 x2 x3 x4 : Value} (hp : AP I B O lo H k q zb io cap c xs s T (.agg #[x0, x1, x2, x3, x4]) w W)
    (hown : w1.ownsRow lo 49 5 (.slice (some ⟨g, 0, none⟩) (k + 1) cap') (k + 1) (flat c k ++ [z0, z1, z2, z3, z4])) (hgrow : W.grownBy w1 (Value.slice io k cap).ownBlock) (hat : (Value.slice io k cap).ownBlock = some g ∨ g = W.heap.size)
    (hz : wz = (((((w1.setCell ⟨g, k * 5, none⟩ x0).setCell ⟨g, k * 5 + 1, none⟩ x1).setCell ⟨g, k * 5 + 2, none⟩ x2).setCell ⟨g, k * 5 + 3, none⟩ x3).setCell ⟨g, k * 5 + 4, none⟩ x4).setCell ⟨O, 3, none⟩ (.slice (some ⟨g, 0, none⟩) (k + 1) cap') ∨
      wz = (((((w1.setCell ⟨O, 3, none⟩ (.slice (some ⟨g, 0, none⟩) (k + 1) cap')).setCell ⟨g, k * 5, none⟩ x0).setCell ⟨g, k * 5 + 1, none⟩ x1).setCell ⟨g, k * 5 + 2, none⟩ x2).setCell ⟨g, k * 5 + 3, none⟩ x3).setCell ⟨g, k * 5 + 4, none⟩ x4) :
    Bel I B w wz ∧ InAt wz I s q ∧ ArC O lo H (k + 1) (some ⟨g, 0, none⟩) cap' (cUp k c x0 x1 x2 x3 x4) (xs ++ [T]) wz := by
  have h1 := hp.arc.ol
  have h2 := hp.ll
  have h3 := hp.ib
  have h4 := hp.bo
  have h5 := hp.bel.size
  have h6 := hgrow.size
  have h7 := hp.arc.ll
  have oblo : ∀ b, (Value.slice io k cap).ownBlock = some b → lo ≤ b ∧ b < w.heap.size := fun b hb => ⟨(own_low hp.arc.own hb).1, hp.rowlt b hb⟩
  have hgl : lo ≤ g := by
    rcases hat with h | h
    · exact (oblo g h).1
    · omega
  have hv1 : w1.heap[O]? = _ := (hgrow.block O (by omega) (fun e => by have := (oblo O e.symm).1; omega)).trans hp.arc.box
  obtain ⟨⟨m1, m2, m3⟩, m4, m5, m6, m7⟩ := a1_mem h1 hgl hown hv1 hz
  have gne : ∀ b, b < W.heap.size → (Value.slice io k cap).ownBlock ≠ some b → b ≠ g := fun b g1 g2 e => by
    subst e
    rcases hat with h | h
    · exact g2 h
    · omega
  have kk : ∀ b, b < W.heap.size → (Value.slice io k cap).ownBlock ≠ some b → b ≠ O → wz.heap[b]? = W.heap[b]? := fun b g1 g2 g3 => (m5 b (gne b g1 g2) g3).trans (hgrow.block b g1 (fun e => g2 e.symm))
  have ob : ∀ b, b < lo → (Value.slice io k cap).ownBlock ≠ some b := fun b g1 g2 => by have := (oblo b g2).1; omega
  have hlen := hp.arc.len
  refine ⟨⟨m1.trans (hgrow.os.trans hp.bel.os), m2.trans (hgrow.tape.trans hp.bel.tape), m3.trans (hgrow.output.trans hp.bel.output), by omega, fun b g1 g2 => (kk b (by omega) (ob b (by omega)) (by omega)).trans (hp.bel.block b g1 g2)⟩, (kk I (by omega) (ob I (by omega)) (by omega)).trans hp.inp, ?_⟩
  refine ⟨by rw [List.length_append, hlen]; rfl, h1, by omega, m6, by rw [flat_cUp]; exact m7, fun i hi => ?_⟩
  rw [List.length_append] at hi
  have hi' : i < xs.length + 1 := hi
  by_cases hik : i < xs.length
  · rw [List.getElem_append_left hik]
    have e : cUp k c x0 x1 x2 x3 x4 i = c i := by unfold cUp; rw [if_neg (by omega)]
    rw [e]
    refine InD.keep (by omega) (fun b hb hl => kk b hl hb.2 (by have := hb.1; omega)) (fun b hb hl => ⟨hb.1, fun e => ?_⟩) (hp.arc.trees i hik)
    simp [Value.ownBlock] at e
    exact gne b hl hb.2 e.symm
  · have e : i = xs.length := by omega
    subst e
    rw [List.getElem_append_right (Nat.le_refl _)]
    have e : cUp k c x0 x1 x2 x3 x4 xs.length = (fun j => match j with | 0 => x0 | 1 => x1 | 2 => x2 | 3 => x3 | 4 => x4) := by unfold cUp; rw [if_pos hlen]
    rw [e]
    have nb : ∀ b, w.heap.size ≤ b → (Value.slice io k cap).ownBlock ≠ some b := fun b g1 g2 => by have := (oblo b g2).2; omega
    have hN := InD.iff.2 hp.new
    simp only [Nat.sub_self, List.getElem_cons_zero]
    refine InD.keep (by omega) (fun b hb hl => kk b hl (nb b hb) (by omega)) (fun b hb hl => ⟨by omega, fun e => ?_⟩) hN
    simp [Value.ownBlock] at e
    exact gne b hl (nb b hb) e.symm
end Go.Proofs.YtfjmgccbpiolhaaGreatDoor
namespace Go.Proofs.YtfjmgccbpiolhaaGreatDoor
open Go.RowKit Go.Shelf
set_option linter.unusedVariables false
set_option linter.unusedSimpArgs false
attribute [local go_sem] Oper.semAt_some

structure LK (Bi Bd tb I : Nat) (d : Nat) (kd pa fi : Nat) (tx : List UInt8) (u : World) : Prop where
  ci : u.cell? ⟨Bi, 0, none⟩ = some (.pointer (some ⟨I, 0, none⟩))
  cd : u.cell? ⟨Bd, 0, none⟩ = some (.int .i64 (d : Int))
  c0 : u.cell? ⟨tb, 0, none⟩ = some (.int .i64 (kd : Int))
  c1 : u.cell? ⟨tb, 1, none⟩ = some (.int .i64 (pa : Int))
  c2 : u.cell? ⟨tb, 2, none⟩ = some (.int .i64 (fi : Int))
  c3 : u.cell? ⟨tb, 3, none⟩ = some (.string ⟨tx.toArray⟩)
  li : Bi < u.heap.size
  ld : Bd < u.heap.size
  lt : tb < u.heap.size
def NE (Bi Bd tb b : Nat) : Prop := Bi ≠ b ∧ Bd ≠ b ∧ tb ≠ b
theorem LK.keep {Bi Bd tb I d kd pa fi : Nat} {tx : List UInt8} {u u' : World} (h : LK Bi Bd tb I d kd pa fi tx u) (hz : u.heap.size ≤ u'.heap.size) (h1 : u'.heap[Bi]? = u.heap[Bi]?) (h2 : u'.heap[Bd]? = u.heap[Bd]?) (h3 : u'.heap[tb]? = u.heap[tb]?) : LK Bi Bd tb I d kd pa fi tx u' :=
  ⟨(World.cell?_of_block (a := ⟨Bi, 0, none⟩) h1).trans h.ci, (World.cell?_of_block (a := ⟨Bd, 0, none⟩) h2).trans h.cd, (World.cell?_of_block (a := ⟨tb, 0, none⟩) h3).trans h.c0, (World.cell?_of_block (a := ⟨tb, 1, none⟩) h3).trans h.c1, (World.cell?_of_block (a := ⟨tb, 2, none⟩) h3).trans h.c2, (World.cell?_of_block (a := ⟨tb, 3, none⟩) h3).trans h.c3, Nat.lt_of_lt_of_le h.li hz, Nat.lt_of_lt_of_le h.ld hz, Nat.lt_of_lt_of_le h.lt hz⟩
theorem LK.low {Bi Bd tb I d kd pa fi : Nat} {tx : List UInt8} {u u' : World} (h : LK Bi Bd tb I d kd pa fi tx u) (hb : Below u.heap.size u u') : LK Bi Bd tb I d kd pa fi tx u' := h.keep hb.size (hb.block _ h.li) (hb.block _ h.ld) (hb.block _ h.lt)
theorem LK.set {Bi Bd tb I d kd pa fi : Nat} {tx : List UInt8} {u : World} (h : LK Bi Bd tb I d kd pa fi tx u) {a : Addr} {v : Value} (hn : NE Bi Bd tb a.block) : LK Bi Bd tb I d kd pa fi tx (u.setCell a v) := h.keep (by simp) (Below.heap_setCell _ _ _ _ hn.1) (Below.heap_setCell _ _ _ _ hn.2.1) (Below.heap_setCell _ _ _ _ hn.2.2)

structure AG (Bi Bd I O lo H k d p : Nat) (io : Option Addr) (cap : Nat) (c : Nat → Fin 5 → Value) (xs : List VT) (s : ByteArray) (kd pa fi : Nat) (tx : List UInt8) (w u : World) : Prop where
  arc : ArC O lo H k io cap c xs u
  lk : LK Bi Bd w.heap.size I d kd pa fi tx u
  inp : InAt u I s p
  err : ErrIn u
  bel : Below w.heap.size w u
theorem AG.low {Bi Bd I O lo H k d p : Nat} {io : Option Addr} {cap : Nat} {c : Nat → Fin 5 → Value} {xs : List VT} {s : ByteArray} {kd pa fi : Nat} {tx : List UInt8} {w u u' : World} (h : AG Bi Bd I O lo H k d p io cap c xs s kd pa fi tx w u) (hb : Below u.heap.size u u') : AG Bi Bd I O lo H k d p io cap c xs s kd pa fi tx w u' :=
  ⟨h.arc.low hb, h.lk.low hb, h.inp.keep hb, h.err.keep hb, h.bel.trans (hb.mono h.bel.size)⟩
theorem AG.alloc {Bi Bd I O lo H k d p : Nat} {io : Option Addr} {cap : Nat} {c : Nat → Fin 5 → Value} {xs : List VT} {s : ByteArray} {kd pa fi : Nat} {tx : List UInt8} {w u : World} (h : AG Bi Bd I O lo H k d p io cap c xs s kd pa fi tx w u) (o : Obj) : AG Bi Bd I O lo H k d p io cap c xs s kd pa fi tx w (u.alloc o) := h.low (below1 u o)
theorem AG.drew {Bi Bd I O lo H k d p : Nat} {io : Option Addr} {cap : Nat} {c : Nat → Fin 5 → Value} {xs : List VT} {s : ByteArray} {kd pa fi : Nat} {tx : List UInt8} {w u : World} (h : AG Bi Bd I O lo H k d p io cap c xs s kd pa fi tx w u) : AG Bi Bd I O lo H k d p io cap c xs s kd pa fi tx w u.drew := h.low ((Below.refl _ _).drew)
structure AR (Bi Bd I O lo H k d q : Nat) (io : Option Addr) (cap : Nat) (c : Nat → Fin 5 → Value) (xs : List VT) (s : ByteArray) (kd pa fi : Nat) (tx : List UInt8) (T : VT) (v : Value) (w u w' : World) : Prop where
  but : But I u w'
  arc : ArC O lo H k io cap c xs w'
  lk : LK Bi Bd w.heap.size I d kd pa fi tx w'
  inp : InAt w' I s q
  new : InF u.heap.size w' (H + 1) T v
  bel : Below w.heap.size w u

theorem AR.ap1 {Bi Bd I B O lo H k d q : Nat} {io : Option Addr} {cap : Nat} {c : Nat → Fin 5 → Value} {xs : List VT} {s : ByteArray} {kd pa fi : Nat} {tx : List UInt8} {T : VT} {v : Value} {w u w' : World} (hA : ArC O lo H k io cap c xs w) (ib : I < B) (bo : B ≤ O) (h : AR Bi Bd I O lo H k d q io cap c xs s kd pa fi tx T v w u w') :
    AP I B O lo H k q w'.heap.size io cap c xs s T v w (w'.alloc (.cells #[.int .i64 0, .string ⟨#[]⟩, .string ⟨#[]⟩, .slice none 0 0, .slice none 0 0] 49)) := by
  have h1 := hA.ol
  have h2 := hA.ll
  have h3 := h.bel.size
  have h4 := h.but.size
  refine ⟨h.arc.low (below1 _ _), h.inp.alloc _, ?_, ?_, h2, heap_alloc_new _ _, fun b hb => (own_low hA.own hb).2, ib, bo⟩
  · exact (((Bel.of (But.of h.bel) (by omega)) : Bel I B w u).trans (Bel.of h.but (by omega))).trans (Bel.of (But.of (below1 _ _)) (by omega))
  · exact InF.keepB (by simp) (fun b _ hl => Below.heap_alloc _ _ _ hl) h3 h.new
theorem AR.ap2 {Bi Bd I B O lo H k d q : Nat} {io : Option Addr} {cap : Nat} {c : Nat → Fin 5 → Value} {xs : List VT} {s : ByteArray} {kd pa fi : Nat} {tx : List UInt8} {T : VT} {v : Value} {w u w' : World} (hA : ArC O lo H k io cap c xs w) (ib : I < B) (bo : B ≤ O) (hu : w.heap.size ≤ u.heap.size) (zb : Nat) (hzb : u.heap.size = zb) (h : AR Bi Bd I O lo H k d q io cap c xs s kd pa fi tx T v w (u.alloc (.cells #[.int .i64 0, .string ⟨#[]⟩, .string ⟨#[]⟩, .slice none 0 0, .slice none 0 0] 49)) w') :
    AP I B O lo H k q zb io cap c xs s T v w w' := by
  subst hzb
  have h1 := hA.ol
  have h2 := hA.ll
  have h3 := h.bel.size
  have h4 := h.but.size
  have h5 : (u.alloc (.cells #[.int .i64 0, .string ⟨#[]⟩, .string ⟨#[]⟩, .slice none 0 0, .slice none 0 0] 49)).heap.size = u.heap.size + 1 := by simp
  refine ⟨h.arc, h.inp, ?_, ?_, h2, (h.but.block _ (by omega) (by omega)).trans (heap_alloc_new _ _), fun b hb => (own_low hA.own hb).2, ib, bo⟩
  · exact ((Bel.of (But.of h.bel) (by omega)) : Bel I B w _).trans (Bel.of h.but (by omega))
  · exact InF.keepB (Nat.le_refl _) (fun b _ hl => rfl) h3 h.new
theorem a1_pre {Bi Bd I B O lo H k q d zb g cap : Nat} {io : Option Addr} {c : Nat → Fin 5 → Value} {xs : List VT} {s : ByteArray} {kd pa fi : Nat} {tx : List UInt8} {T : VT} {v : Value} {w W w1 : World} (hp : AP I B O lo H k q zb io cap c xs s T v w W) (hl : LK Bi Bd w.heap.size I d kd pa fi tx W) (hbi : Bi < O) (hbd : Bd < O)
    (hgrow : W.grownBy w1 (Value.slice io k cap).ownBlock) (hat : (Value.slice io k cap).ownBlock = some g ∨ g = W.heap.size) :
    lo ≤ g ∧ w1.cell? ⟨O, 3, none⟩ = some (.slice io k cap) ∧ w1.frozen? ⟨O, 3, none⟩ = false ∧ O < w1.heap.size ∧ LK Bi Bd w.heap.size I d kd pa fi tx w1 ∧ NE Bi Bd w.heap.size g ∧ NE Bi Bd w.heap.size O := by
  have h1 := hp.arc.ol
  have h2 := hp.ll
  have h7 := hp.arc.ll
  have h6 := hgrow.size
  have l1 := hl.lt
  have oblo : ∀ b, (Value.slice io k cap).ownBlock = some b → lo ≤ b ∧ b < w.heap.size := fun b hb => ⟨(own_low hp.arc.own hb).1, hp.rowlt b hb⟩
  have hgl : lo ≤ g ∧ g ≠ w.heap.size := by
    rcases hat with h | h
    · have := oblo g h; omega
    · omega
  have kb : ∀ b, b < W.heap.size → (b < lo ∨ b = w.heap.size) → w1.heap[b]? = W.heap[b]? := fun b g1 g2 => hgrow.block b g1 (fun e => by have := oblo b e.symm; omega)
  have hv1 : w1.heap[O]? = _ := (kb O (by omega) (.inl h1)).trans hp.arc.box
  refine ⟨hgl.1, by rw [cell_of_row _ _ _ _ _ _ hv1]; rfl, frozen_rowT hv1, by omega, hl.keep h6 (kb _ hl.li (.inl (by omega))) (kb _ hl.ld (.inl (by omega))) (kb _ hl.lt (.inr rfl)), ⟨by omega, by omega, by omega⟩, ⟨by omega, by omega, by omega⟩⟩
end Go.Proofs.YtfjmgccbpiolhaaGreatDoor
namespace Go.Proofs.YtfjmgccbpiolhaaGreatDoor
open Go.RowKit Go.Shelf
set_option linter.unusedVariables false
set_option linter.unusedSimpArgs false
attribute [local go_sem] Oper.semAt_some

set_option maxRecDepth 100000 in
set_option maxHeartbeats 3200000 in
theorem w_arr1_ok (s : ByteArray) (I Bi Bd B O lo H k d p q : Nat) (io : Option Addr) (cap : Nat) (c : Nat → Fin 5 → Value) (xs : List VT) (kd pa fi : Nat) (tx : List UInt8) (T : VT) (w : World) (hk : k ≤ 1073741824) (hd : d ≤ 1000)
    (hA : ArC O lo H k io cap c xs w) (hci : w.cell? ⟨Bi, 0, none⟩ = some (.pointer (some ⟨I, 0, none⟩))) (hcd : w.cell? ⟨Bd, 0, none⟩ = some (.int .i64 (d : Int))) (hbi : Bi < O) (hbd : Bd < O) (ib : I < B) (bo : B ≤ O) (bo2 : I < Bi ∧ I < Bd) (hI : InAt w I s p) (hE : ErrIn w)
    (HV : ∀ u, InAt u I s p → ErrIn u → Calls Tryz.prog 96 #[.pointer (some ⟨I, 0, none⟩), .agg #[.int .i64 (kd : Int), .int .i64 (pa : Int), .int .i64 (fi : Int), .string ⟨tx.toArray⟩], .int .i64 ((d : Int) + 1)] u fun e w' => VlR I s H u (.ok T q) e w') :
    Calls Tryz.prog 137 #[.agg #[.int .i64 (kd : Int), .int .i64 (pa : Int), .int .i64 (fi : Int), .string ⟨tx.toArray⟩], .pointer (some ⟨O, 0, none⟩), .pointer (some ⟨Bi, 0, none⟩), .pointer (some ⟨Bd, 0, none⟩)] w fun e w' => e = .returned (.tuple #[]) ∧ Bel I B w w' ∧ InAt w' I s q ∧ (∃ g cap' c', ArC O lo H (k + 1) (some ⟨g, 0, none⟩) cap' c' (xs ++ [T]) w') ∧ w'.cell? ⟨Bi, 0, none⟩ = some (.pointer (some ⟨I, 0, none⟩)) ∧ w'.cell? ⟨Bd, 0, none⟩ = some (.int .i64 (d : Int)) := by
  obtain ⟨i0, hi0, hz0, hz1, hz2⟩ := info_parts Tryz.infoVr
  have mixed : Tryz.prog.follows .mixedOrders = true := by kernel_rfl
  have hnb : k + 1 ≤ maxLen := by unfold maxLen; omega
  have hkk : (k : Int) < (k : Int) + 1 := by omega
  have hwr : IntKind.i64.wrap ((d : Int) + 1) = (d : Int) + 1 := by rw [IntKind.wrap_i64]; omega
  have hol := hA.ol
  have hll := hA.ll
  have HA := Hid.mk hA
  have HG0 : Hid (AG Bi Bd I O lo H k d p io cap c xs s kd pa fi tx w (w.alloc (.cells #[.int .i64 (kd : Int), .int .i64 (pa : Int), .int .i64 (fi : Int), .string ⟨tx.toArray⟩] 126))) := by
    have hb := below1 w (.cells #[.int .i64 (kd : Int), .int .i64 (pa : Int), .int .i64 (fi : Int), .string ⟨tx.toArray⟩] 126)
    have hn := heap_alloc_new w (.cells #[.int .i64 (kd : Int), .int .i64 (pa : Int), .int .i64 (fi : Int), .string ⟨tx.toArray⟩] 126)
    have hsz : (w.alloc (.cells #[.int .i64 (kd : Int), .int .i64 (pa : Int), .int .i64 (fi : Int), .string ⟨tx.toArray⟩] 126)).heap.size = w.heap.size + 1 := by simp
    refine ⟨hA.low hb, ⟨(World.cell?_of_block (a := ⟨Bi, 0, none⟩) (hb.block _ (by show Bi < _; omega))).trans hci, (World.cell?_of_block (a := ⟨Bd, 0, none⟩) (hb.block _ (by show Bd < _; omega))).trans hcd, ?_, ?_, ?_, ?_, by omega, by omega, by omega⟩, hI.keep hb, hE.keep hb, hb⟩ <;> rw [cell_of_row _ _ _ _ _ _ hn] <;> rfl
  have HC : Hid (∀ u, AG Bi Bd I O lo H k d p io cap c xs s kd pa fi tx w u → Calls Tryz.prog 96 #[.pointer (some ⟨I, 0, none⟩), .agg #[.int .i64 (kd : Int), .int .i64 (pa : Int), .int .i64 (fi : Int), .string ⟨tx.toArray⟩], .int .i64 ((d : Int) + 1)] u fun e w' => ∃ (jo : Option Addr) (jc : Nat) (ko : Option Addr) (kc : Nat), e = .returned (.agg #[.int .i64 T.kind, .string T.num, .string T.text, .slice jo T.items.length jc, .slice ko T.keys.length kc]) ∧ Hid (AR Bi Bd I O lo H k d q io cap c xs s kd pa fi tx T (.agg #[.int .i64 T.kind, .string T.num, .string T.text, .slice jo T.items.length jc, .slice ko T.keys.length kc]) w u w')) := fun u hu => (HV u hu.inp hu.err).mono (by
    rintro e w' ⟨hbut, ⟨v, rfl, hF⟩, hin⟩
    have hus := hu.bel.size
    have hF' := hF
    obtain ⟨jo, jc, ko, kc, rfl, _⟩ := hF
    exact ⟨jo, jc, ko, kc, rfl, ⟨hbut, hu.arc.but (by omega) hbut, hu.lk.keep hbut.size (hbut.block _ hu.lk.li (by omega)) (hbut.block _ hu.lk.ld (by omega)) (hbut.block _ hu.lk.lt (by omega)), hin, hF', hu.bel⟩⟩)
  have HS : Hid (∀ u, LK Bi Bd w.heap.size I d kd pa fi tx u → u.cell? ⟨Bi, 0, none⟩ = some (.pointer (some ⟨I, 0, none⟩)) ∧ u.cell? ⟨Bd, 0, none⟩ = some (.int .i64 (d : Int)) ∧ u.cell? ⟨w.heap.size, 0, none⟩ = some (.int .i64 (kd : Int)) ∧ u.cell? ⟨w.heap.size, 1, none⟩ = some (.int .i64 (pa : Int)) ∧ u.cell? ⟨w.heap.size, 2, none⟩ = some (.int .i64 (fi : Int)) ∧ u.cell? ⟨w.heap.size, 3, none⟩ = some (.string ⟨tx.toArray⟩)) := fun u h => ⟨h.ci, h.cd, h.c0, h.c1, h.c2, h.c3⟩
  have HAp1 := Hid.mk (fun (v : Value) (u w' : World) (h : AR Bi Bd I O lo H k d q io cap c xs s kd pa fi tx T v w u w') => AR.ap1 (B := B) hA ib (by omega) h)
  have HAp2 := Hid.mk (fun (v : Value) (u w' : World) (hu : w.heap.size ≤ u.heap.size) (zb : Nat) (hzb : u.heap.size = zb) (h : AR Bi Bd I O lo H k d q io cap c xs s kd pa fi tx T v w (u.alloc (.cells #[.int .i64 0, .string ⟨#[]⟩, .string ⟨#[]⟩, .slice none 0 0, .slice none 0 0] 49)) w') => AR.ap2 (B := B) hA ib (by omega) hu zb hzb h)
  have HOb : Hid (∀ b, (Value.slice io k cap).ownBlock = some b → lo ≤ b ∧ b < w.heap.size) := fun b hb => own_low hA.own hb
  have hb3 : (HG0.out.arc.box) = HG0.out.arc.box := rfl
  have cO : ∀ u, ArC O lo H k io cap c xs u → u.cell? ⟨O, 3, none⟩ = some (.slice io k cap) ∧ u.frozen? ⟨O, 3, none⟩ = false := fun u hu => ⟨by rw [cell_of_row _ _ _ _ _ _ hu.box]; rfl, frozen_rowT hu.box⟩
  have HCO := Hid.mk cO
  obtain ⟨o3, _⟩ := cO _ hA
  have HIB := Hid.mk (And.intro ib (And.intro bo (And.intro bo2 (And.intro hbi hbd))))
  clear hA hci hcd hI hE HV hb3 cO ib bo bo2
  go_enter Tryz.func137, Tryz.ntmps137
  go_wp2_with fail
  have HL0 := HG0
  obtain ⟨oA, fA⟩ := HCO.out _ HG0.out.arc
  obtain ⟨oB, fB⟩ := HCO.out _ (HG0.out.alloc (.cells #[.int .i64 0, .string ⟨#[]⟩, .string ⟨#[]⟩, .slice none 0 0, .slice none 0 0] 49)).arc
  refine wp_region_held_drew (S := (fun u => u.cell? ⟨Bi, 0, none⟩ = some (.pointer (some ⟨I, 0, none⟩)) ∧ u.cell? ⟨Bd, 0, none⟩ = some (.int .i64 (d : Int)) ∧ u.cell? ⟨w.heap.size, 0, none⟩ = some (.int .i64 (kd : Int)) ∧ u.cell? ⟨w.heap.size, 1, none⟩ = some (.int .i64 (pa : Int)) ∧ u.cell? ⟨w.heap.size, 2, none⟩ = some (.int .i64 (fi : Int)) ∧ u.cell? ⟨w.heap.size, 3, none⟩ = some (.string ⟨tx.toArray⟩))) (by kernel_rfl) (HS.out _ HL0.out.drew.lk) (fun hHeld => ?_)
  refine wpAnyH_take (i := 0) (oi := _) (v := .pointer (some ⟨O, 3, none⟩)) rfl (by kernel_rfl) (by kernel_rfl) (by kernel_rfl) (fun _ _ _ h => h) (Or.inl ⟨by rfl, ?_⟩) (by assumption) ?_
  · intro w hSw
    go_simp
  try simp only [Act.put, List.setIfInBounds_toArray, List.set_cons_zero, List.set_cons_succ]
  refine wpAnyH_take (i := 2) (oi := _) (v := .pointer (some ⟨I, 0, none⟩)) rfl (by kernel_rfl) (by kernel_rfl) (by kernel_rfl) (fun _ _ _ h => h) (Or.inl ⟨by rfl, ?_⟩) (by assumption) ?_
  · intro w hSw
    go_simp
  try simp only [Act.put, List.setIfInBounds_toArray, List.set_cons_zero, List.set_cons_succ]
  refine wpAnyH_take (i := 3) (oi := _) (v := .agg #[.int .i64 (kd : Int), .int .i64 (pa : Int), .int .i64 (fi : Int), .string ⟨tx.toArray⟩]) rfl (by kernel_rfl) (by kernel_rfl) (by kernel_rfl) (fun _ _ _ h => h) (Or.inl ⟨by rfl, ?_⟩) (by assumption) ?_
  · intro w hSw
    go_simp
  try simp only [Act.put, List.setIfInBounds_toArray, List.set_cons_zero, List.set_cons_succ]
  refine wpAnyH_take (i := 4) (oi := _) (v := .int .i64 (d : Int)) rfl (by kernel_rfl) (by kernel_rfl) (by kernel_rfl) (fun _ _ _ h => h) (Or.inl ⟨by rfl, ?_⟩) (by assumption) ?_
  · intro w hSw
    go_simp
  try simp only [Act.put, List.setIfInBounds_toArray, List.set_cons_zero, List.set_cons_succ]
  refine wpAnyH_take (i := 5) (oi := _) (v := .int .i64 ((d : Int) + 1)) rfl (by kernel_rfl) (by kernel_rfl) (by kernel_rfl) (fun _ _ _ h => h) (Or.inl ⟨by rfl, ?_⟩) (by assumption) ?_
  · intro w hSw
    go_simp
  try simp only [Act.put, List.setIfInBounds_toArray, List.set_cons_zero, List.set_cons_succ]
  refine wpAnyH_ready (rs := [1, 6, 8]) (by kernel_rfl) (by simp) ?_
  refine AllReadyH.cons (o := _) rfl (fun K hK => ?_) ?_
  · go_simp
    refine hK.out _ _ (HS.out _ HL0.out.drew.lk) (fun hHeld => ?_)
    clear hK K
    try simp only [Act.put, List.setIfInBounds_toArray, List.set_cons_zero, List.set_cons_succ]
    refine wpAnyH_take (i := 7) (oi := _) (v := .int .i64 (k : Int)) rfl (by kernel_rfl) (by kernel_rfl) (by kernel_rfl) (fun _ _ _ h => h) (Or.inl ⟨by rfl, ?_⟩) (by assumption) ?_
    · intro w hSw
      go_simp
    try simp only [Act.put, List.setIfInBounds_toArray, List.set_cons_zero, List.set_cons_succ]
    refine wpAnyH_ready (rs := [6, 8]) (by kernel_rfl) (by simp) ?_
    refine AllReadyH.cons (o := _) rfl (fun K hK => ?_) ?_
    · go_simp
      go_at_call 96
      refine (HC.out _ (HL0.out.drew)).mono ?_
      rintro e w4 ⟨jo, jc, ko, kc, rfl, HR⟩
      have HK := Hid.mk HR.out.lk
      obtain ⟨o4, f4⟩ := HCO.out _ HR.out.arc
      have o4l : O < w4.heap.size := (by have h1 := HR.out.arc.ll; omega)
      go_wp2_with fail
      refine hK.out _ _ (HS.out _ HK.out) (fun hHeld => ?_)
      clear hK K
      try simp only [Act.put, List.setIfInBounds_toArray, List.set_cons_zero, List.set_cons_succ]
      refine wpAnyH_ready (rs := [8]) (by kernel_rfl) (by simp) ?_
      refine AllReadyH.cons (o := _) rfl (fun K hK => ?_) ?_
      · go_simp
        refine hK.out _ _ (HS.out _ (HK.out.low (below1 w4 (.cells #[.int .i64 0, .string ⟨#[]⟩, .string ⟨#[]⟩, .slice none 0 0, .slice none 0 0] 49)))) (fun hHeld => ?_)
        clear hK K
        try simp only [Act.put, List.setIfInBounds_toArray, List.set_cons_zero, List.set_cons_succ]
        obtain ⟨o5, f5⟩ := HCO.out _ (HR.out.arc.low (below1 _ (.cells #[.int .i64 0, .string ⟨#[]⟩, .string ⟨#[]⟩, .slice none 0 0, .slice none 0 0] 49)))
        refine wpAnyH_ready (rs := [9]) (by kernel_rfl) (by simp) ?_
        refine AllReadyH.cons (o := _) rfl (fun K hK => ?_) AllReadyH.nil
        have HP := Hid.mk (HAp1.out _ _ _ HR.out)
        have HKW := Hid.mk (HK.out.low (below1 w4 (.cells #[.int .i64 0, .string ⟨#[]⟩, .string ⟨#[]⟩, .slice none 0 0, .slice none 0 0] 49)))
        refine step_append_lies _ (by rfl) _ _ _ (by rfl) lo 49 i0 (.agg #[.int .i64 0, .string ⟨#[]⟩, .string ⟨#[]⟩, .slice none 0 0, .slice none 0 0]) 5 88 Tryz.underlying22 hi0 hz0 hz1 hz2 rfl (by omega) (.slice io k cap) k _ (by rfl) HP.out.arc.own ⟨w4.heap.size, 0, none⟩ 1 1 [.int .i64 0, .string ⟨#[]⟩, .string ⟨#[]⟩, .slice none 0 0, .slice none 0 0] (by rfl) (by rfl) (World.news_of_block (cs := #[.int .i64 0, .string ⟨#[]⟩, .string ⟨#[]⟩, .slice none 0 0, .slice none 0 0]) (t := 49) (fr := (0, 0)) HP.out.zero) (by simp [Value.oneCell']) (by omega) hnb (by omega) HP.out.arc.ll _ rfl ?_
        intro g' cap' w1 hown1 hgrow hat hlt1
        obtain ⟨z0, z1, z2, z3, z4, zf⟩ := app_cells hown1
        have zf0 := zf (k * 5)
        have zf1 := zf (k * 5 + 1)
        have zf2 := zf (k * 5 + 2)
        have zf3 := zf (k * 5 + 3)
        have zf4 := zf (k * 5 + 4)
        obtain ⟨hgl, v1, vf, hO1, hK1, hNg, hNo⟩ := a1_pre HP.out HKW.out hbi hbd hgrow hat
        have HK1 := Hid.mk hK1
        have HNg := Hid.mk hNg
        have HNo := Hid.mk hNo
        have HEnd := Hid.mk (And.intro hown1 (And.intro hgrow hat))
        have hOg : O < g' := (by omega)
        clear hown1 hgrow hat hlt1 hK1 hNg hNo zf
        refine hK.out _ _ (HS.out _ HK1.out) (fun hHeld => ?_)
        clear hK K
        try simp only [Act.put, List.setIfInBounds_toArray, List.set_cons_zero, List.set_cons_succ]
        refine wpAnyH_take (i := 10) (oi := _) (v := (.pointer (some ⟨g', k * 5, none⟩))) rfl (by kernel_rfl) (by kernel_rfl) (by kernel_rfl) (fun _ _ _ h => h) (Or.inl ⟨by rfl, ?_⟩) (by assumption) ?_
        · intro w hSw
          go_simp
        try simp only [Act.put, List.setIfInBounds_toArray, List.set_cons_zero, List.set_cons_succ]
        refine wpAnyH_take (i := 12) (oi := _) (v := (.pointer (some ⟨O, 3, none⟩))) rfl (by kernel_rfl) (by kernel_rfl) (by kernel_rfl) (fun _ _ _ h => h) (Or.inl ⟨by rfl, ?_⟩) (by assumption) ?_
        · intro w hSw
          go_simp
        try simp only [Act.put, List.setIfInBounds_toArray, List.set_cons_zero, List.set_cons_succ]
        refine wpAnyH_ready (rs := [11, 13]) (by kernel_rfl) (by simp) ?_
        refine AllReadyH.cons (o := _) rfl (fun K hK => ?_) ?_
        · go_simp
          refine hK.out _ _ (HS.out _ (((((HK1.out.set HNg.out).set HNg.out).set HNg.out).set HNg.out).set HNg.out)) (fun hHeld => ?_)
          clear hK K
          try simp only [Act.put, List.setIfInBounds_toArray, List.set_cons_zero, List.set_cons_succ]
          refine wpAnyH_ready (rs := [13]) (by kernel_rfl) (by simp) ?_
          refine AllReadyH.cons (o := _) rfl (fun K hK => ?_) AllReadyH.nil
          go_simp
          refine hK.out _ _ (HS.out _ ((((((HK1.out.set HNg.out).set HNg.out).set HNg.out).set HNg.out).set HNg.out).set HNo.out)) (fun hHeld => ?_)
          clear hK K
          try simp only [Act.put, List.setIfInBounds_toArray, List.set_cons_zero, List.set_cons_succ]
          refine wpAnyH_done (by kernel_rfl) ?_ _
          go_wp2_with fail
          obtain ⟨hown1, hgrow, hat⟩ := HEnd.out
          refine bodyPost_end (v := .tuple #[]) (results_none Tryz.results137 _ _ _) rfl ⟨rfl, ?_⟩
          obtain ⟨h1, h2, h3⟩ := a1_end HP.out hown1 hgrow hat (.inl rfl)
          exact ⟨h1, h2, ⟨_, _, _, h3⟩, hHeld.1, hHeld.2.1⟩
        refine AllReadyH.cons (o := _) rfl (fun K hK => ?_) AllReadyH.nil
        go_simp
        refine hK.out _ _ (HS.out _ (HK1.out.set HNo.out)) (fun hHeld => ?_)
        clear hK K
        try simp only [Act.put, List.setIfInBounds_toArray, List.set_cons_zero, List.set_cons_succ]
        refine wpAnyH_ready (rs := [11]) (by kernel_rfl) (by simp) ?_
        refine AllReadyH.cons (o := _) rfl (fun K hK => ?_) AllReadyH.nil
        go_simp
        refine hK.out _ _ (HS.out _ ((((((HK1.out.set HNo.out).set HNg.out).set HNg.out).set HNg.out).set HNg.out).set HNg.out)) (fun hHeld => ?_)
        clear hK K
        try simp only [Act.put, List.setIfInBounds_toArray, List.set_cons_zero, List.set_cons_succ]
        refine wpAnyH_done (by kernel_rfl) ?_ _
        go_wp2_with fail
        obtain ⟨hown1, hgrow, hat⟩ := HEnd.out
        refine bodyPost_end (v := .tuple #[]) (results_none Tryz.results137 _ _ _) rfl ⟨rfl, ?_⟩
        obtain ⟨h1, h2, h3⟩ := a1_end HP.out hown1 hgrow hat (.inr rfl)
        exact ⟨h1, h2, ⟨_, _, _, h3⟩, hHeld.1, hHeld.2.1⟩
      exact AllReadyH.nil
    refine AllReadyH.cons (o := _) rfl (fun K hK => ?_) ?_
    · go_simp
      refine hK.out _ _ (HS.out _ (HL0.out.drew.alloc (.cells #[.int .i64 0, .string ⟨#[]⟩, .string ⟨#[]⟩, .slice none 0 0, .slice none 0 0] 49)).lk) (fun hHeld => ?_)
      clear hK K
      try simp only [Act.put, List.setIfInBounds_toArray, List.set_cons_zero, List.set_cons_succ]
      refine wpAnyH_ready (rs := [6]) (by kernel_rfl) (by simp) ?_
      refine AllReadyH.cons (o := _) rfl (fun K hK => ?_) ?_
      · go_simp
        go_at_call 96
        refine (HC.out _ (HL0.out.drew.alloc (.cells #[.int .i64 0, .string ⟨#[]⟩, .string ⟨#[]⟩, .slice none 0 0, .slice none 0 0] 49))).mono ?_
        rintro e w4 ⟨jo, jc, ko, kc, rfl, HR⟩
        have HK := Hid.mk HR.out.lk
        obtain ⟨o4, f4⟩ := HCO.out _ HR.out.arc
        have o4l : O < w4.heap.size := (by have h1 := HR.out.arc.ll; omega)
        go_wp2_with fail
        refine hK.out _ _ (HS.out _ HK.out) (fun hHeld => ?_)
        clear hK K
        try simp only [Act.put, List.setIfInBounds_toArray, List.set_cons_zero, List.set_cons_succ]
        refine wpAnyH_ready (rs := [9]) (by kernel_rfl) (by simp) ?_
        refine AllReadyH.cons (o := _) rfl (fun K hK => ?_) AllReadyH.nil
        have HP := Hid.mk (HAp2.out _ _ _ (by show w.heap.size ≤ (w.alloc _).heap.size; simp) (w.heap.size + 1) (by show (w.alloc _).heap.size = _; simp) HR.out)
        have HKW := Hid.mk (HK.out)
        refine step_append_lies _ (by rfl) _ _ _ (by rfl) lo 49 i0 (.agg #[.int .i64 0, .string ⟨#[]⟩, .string ⟨#[]⟩, .slice none 0 0, .slice none 0 0]) 5 88 Tryz.underlying22 hi0 hz0 hz1 hz2 rfl (by omega) (.slice io k cap) k _ (by rfl) HP.out.arc.own ⟨w.heap.size + 1, 0, none⟩ 1 1 [.int .i64 0, .string ⟨#[]⟩, .string ⟨#[]⟩, .slice none 0 0, .slice none 0 0] (by rfl) (by rfl) (World.news_of_block (cs := #[.int .i64 0, .string ⟨#[]⟩, .string ⟨#[]⟩, .slice none 0 0, .slice none 0 0]) (t := 49) (fr := (0, 0)) HP.out.zero) (by simp [Value.oneCell']) (by omega) hnb (by omega) HP.out.arc.ll _ rfl ?_
        intro g' cap' w1 hown1 hgrow hat hlt1
        obtain ⟨z0, z1, z2, z3, z4, zf⟩ := app_cells hown1
        have zf0 := zf (k * 5)
        have zf1 := zf (k * 5 + 1)
        have zf2 := zf (k * 5 + 2)
        have zf3 := zf (k * 5 + 3)
        have zf4 := zf (k * 5 + 4)
        obtain ⟨hgl, v1, vf, hO1, hK1, hNg, hNo⟩ := a1_pre HP.out HKW.out hbi hbd hgrow hat
        have HK1 := Hid.mk hK1
        have HNg := Hid.mk hNg
        have HNo := Hid.mk hNo
        have HEnd := Hid.mk (And.intro hown1 (And.intro hgrow hat))
        have hOg : O < g' := (by omega)
        clear hown1 hgrow hat hlt1 hK1 hNg hNo zf
        refine hK.out _ _ (HS.out _ HK1.out) (fun hHeld => ?_)
        clear hK K
        try simp only [Act.put, List.setIfInBounds_toArray, List.set_cons_zero, List.set_cons_succ]
        refine wpAnyH_take (i := 10) (oi := _) (v := (.pointer (some ⟨g', k * 5, none⟩))) rfl (by kernel_rfl) (by kernel_rfl) (by kernel_rfl) (fun _ _ _ h => h) (Or.inl ⟨by rfl, ?_⟩) (by assumption) ?_
        · intro w hSw
          go_simp
        try simp only [Act.put, List.setIfInBounds_toArray, List.set_cons_zero, List.set_cons_succ]
        refine wpAnyH_take (i := 12) (oi := _) (v := (.pointer (some ⟨O, 3, none⟩))) rfl (by kernel_rfl) (by kernel_rfl) (by kernel_rfl) (fun _ _ _ h => h) (Or.inl ⟨by rfl, ?_⟩) (by assumption) ?_
        · intro w hSw
          go_simp
        try simp only [Act.put, List.setIfInBounds_toArray, List.set_cons_zero, List.set_cons_succ]
        refine wpAnyH_ready (rs := [11, 13]) (by kernel_rfl) (by simp) ?_
        refine AllReadyH.cons (o := _) rfl (fun K hK => ?_) ?_
        · go_simp
          refine hK.out _ _ (HS.out _ (((((HK1.out.set HNg.out).set HNg.out).set HNg.out).set HNg.out).set HNg.out)) (fun hHeld => ?_)
          clear hK K
          try simp only [Act.put, List.setIfInBounds_toArray, List.set_cons_zero, List.set_cons_succ]
          refine wpAnyH_ready (rs := [13]) (by kernel_rfl) (by simp) ?_
          refine AllReadyH.cons (o := _) rfl (fun K hK => ?_) AllReadyH.nil
          go_simp
          refine hK.out _ _ (HS.out _ ((((((HK1.out.set HNg.out).set HNg.out).set HNg.out).set HNg.out).set HNg.out).set HNo.out)) (fun hHeld => ?_)
          clear hK K
          try simp only [Act.put, List.setIfInBounds_toArray, List.set_cons_zero, List.set_cons_succ]
          refine wpAnyH_done (by kernel_rfl) ?_ _
          go_wp2_with fail
          obtain ⟨hown1, hgrow, hat⟩ := HEnd.out
          refine bodyPost_end (v := .tuple #[]) (results_none Tryz.results137 _ _ _) rfl ⟨rfl, ?_⟩
          obtain ⟨h1, h2, h3⟩ := a1_end HP.out hown1 hgrow hat (.inl rfl)
          exact ⟨h1, h2, ⟨_, _, _, h3⟩, hHeld.1, hHeld.2.1⟩
        refine AllReadyH.cons (o := _) rfl (fun K hK => ?_) AllReadyH.nil
        go_simp
        refine hK.out _ _ (HS.out _ (HK1.out.set HNo.out)) (fun hHeld => ?_)
        clear hK K
        try simp only [Act.put, List.setIfInBounds_toArray, List.set_cons_zero, List.set_cons_succ]
        refine wpAnyH_ready (rs := [11]) (by kernel_rfl) (by simp) ?_
        refine AllReadyH.cons (o := _) rfl (fun K hK => ?_) AllReadyH.nil
        go_simp
        refine hK.out _ _ (HS.out _ ((((((HK1.out.set HNo.out).set HNg.out).set HNg.out).set HNg.out).set HNg.out).set HNg.out)) (fun hHeld => ?_)
        clear hK K
        try simp only [Act.put, List.setIfInBounds_toArray, List.set_cons_zero, List.set_cons_succ]
        refine wpAnyH_done (by kernel_rfl) ?_ _
        go_wp2_with fail
        obtain ⟨hown1, hgrow, hat⟩ := HEnd.out
        refine bodyPost_end (v := .tuple #[]) (results_none Tryz.results137 _ _ _) rfl ⟨rfl, ?_⟩
        obtain ⟨h1, h2, h3⟩ := a1_end HP.out hown1 hgrow hat (.inr rfl)
        exact ⟨h1, h2, ⟨_, _, _, h3⟩, hHeld.1, hHeld.2.1⟩
      exact AllReadyH.nil
    exact AllReadyH.nil
  refine AllReadyH.cons (o := _) rfl (fun K hK => ?_) ?_
  · go_simp
    go_at_call 96
    refine (HC.out _ (HL0.out.drew)).mono ?_
    rintro e w4 ⟨jo, jc, ko, kc, rfl, HR⟩
    have HK := Hid.mk HR.out.lk
    obtain ⟨o4, f4⟩ := HCO.out _ HR.out.arc
    have o4l : O < w4.heap.size := (by have h1 := HR.out.arc.ll; omega)
    go_wp2_with fail
    refine hK.out _ _ (HS.out _ HK.out) (fun hHeld => ?_)
    clear hK K
    try simp only [Act.put, List.setIfInBounds_toArray, List.set_cons_zero, List.set_cons_succ]
    refine wpAnyH_ready (rs := [1, 8]) (by kernel_rfl) (by simp) ?_
    refine AllReadyH.cons (o := _) rfl (fun K hK => ?_) ?_
    · go_simp
      refine hK.out _ _ (HS.out _ HK.out) (fun hHeld => ?_)
      clear hK K
      try simp only [Act.put, List.setIfInBounds_toArray, List.set_cons_zero, List.set_cons_succ]
      refine wpAnyH_take (i := 7) (oi := _) (v := .int .i64 (k : Int)) rfl (by kernel_rfl) (by kernel_rfl) (by kernel_rfl) (fun _ _ _ h => h) (Or.inl ⟨by rfl, ?_⟩) (by assumption) ?_
      · intro w hSw
        go_simp
      try simp only [Act.put, List.setIfInBounds_toArray, List.set_cons_zero, List.set_cons_succ]
      refine wpAnyH_ready (rs := [8]) (by kernel_rfl) (by simp) ?_
      refine AllReadyH.cons (o := _) rfl (fun K hK => ?_) ?_
      · go_simp
        refine hK.out _ _ (HS.out _ (HK.out.low (below1 w4 (.cells #[.int .i64 0, .string ⟨#[]⟩, .string ⟨#[]⟩, .slice none 0 0, .slice none 0 0] 49)))) (fun hHeld => ?_)
        clear hK K
        try simp only [Act.put, List.setIfInBounds_toArray, List.set_cons_zero, List.set_cons_succ]
        obtain ⟨o5, f5⟩ := HCO.out _ (HR.out.arc.low (below1 _ (.cells #[.int .i64 0, .string ⟨#[]⟩, .string ⟨#[]⟩, .slice none 0 0, .slice none 0 0] 49)))
        refine wpAnyH_ready (rs := [9]) (by kernel_rfl) (by simp) ?_
        refine AllReadyH.cons (o := _) rfl (fun K hK => ?_) AllReadyH.nil
        have HP := Hid.mk (HAp1.out _ _ _ HR.out)
        have HKW := Hid.mk (HK.out.low (below1 w4 (.cells #[.int .i64 0, .string ⟨#[]⟩, .string ⟨#[]⟩, .slice none 0 0, .slice none 0 0] 49)))
        refine step_append_lies _ (by rfl) _ _ _ (by rfl) lo 49 i0 (.agg #[.int .i64 0, .string ⟨#[]⟩, .string ⟨#[]⟩, .slice none 0 0, .slice none 0 0]) 5 88 Tryz.underlying22 hi0 hz0 hz1 hz2 rfl (by omega) (.slice io k cap) k _ (by rfl) HP.out.arc.own ⟨w4.heap.size, 0, none⟩ 1 1 [.int .i64 0, .string ⟨#[]⟩, .string ⟨#[]⟩, .slice none 0 0, .slice none 0 0] (by rfl) (by rfl) (World.news_of_block (cs := #[.int .i64 0, .string ⟨#[]⟩, .string ⟨#[]⟩, .slice none 0 0, .slice none 0 0]) (t := 49) (fr := (0, 0)) HP.out.zero) (by simp [Value.oneCell']) (by omega) hnb (by omega) HP.out.arc.ll _ rfl ?_
        intro g' cap' w1 hown1 hgrow hat hlt1
        obtain ⟨z0, z1, z2, z3, z4, zf⟩ := app_cells hown1
        have zf0 := zf (k * 5)
        have zf1 := zf (k * 5 + 1)
        have zf2 := zf (k * 5 + 2)
        have zf3 := zf (k * 5 + 3)
        have zf4 := zf (k * 5 + 4)
        obtain ⟨hgl, v1, vf, hO1, hK1, hNg, hNo⟩ := a1_pre HP.out HKW.out hbi hbd hgrow hat
        have HK1 := Hid.mk hK1
        have HNg := Hid.mk hNg
        have HNo := Hid.mk hNo
        have HEnd := Hid.mk (And.intro hown1 (And.intro hgrow hat))
        have hOg : O < g' := (by omega)
        clear hown1 hgrow hat hlt1 hK1 hNg hNo zf
        refine hK.out _ _ (HS.out _ HK1.out) (fun hHeld => ?_)
        clear hK K
        try simp only [Act.put, List.setIfInBounds_toArray, List.set_cons_zero, List.set_cons_succ]
        refine wpAnyH_take (i := 10) (oi := _) (v := (.pointer (some ⟨g', k * 5, none⟩))) rfl (by kernel_rfl) (by kernel_rfl) (by kernel_rfl) (fun _ _ _ h => h) (Or.inl ⟨by rfl, ?_⟩) (by assumption) ?_
        · intro w hSw
          go_simp
        try simp only [Act.put, List.setIfInBounds_toArray, List.set_cons_zero, List.set_cons_succ]
        refine wpAnyH_take (i := 12) (oi := _) (v := (.pointer (some ⟨O, 3, none⟩))) rfl (by kernel_rfl) (by kernel_rfl) (by kernel_rfl) (fun _ _ _ h => h) (Or.inl ⟨by rfl, ?_⟩) (by assumption) ?_
        · intro w hSw
          go_simp
        try simp only [Act.put, List.setIfInBounds_toArray, List.set_cons_zero, List.set_cons_succ]
        refine wpAnyH_ready (rs := [11, 13]) (by kernel_rfl) (by simp) ?_
        refine AllReadyH.cons (o := _) rfl (fun K hK => ?_) ?_
        · go_simp
          refine hK.out _ _ (HS.out _ (((((HK1.out.set HNg.out).set HNg.out).set HNg.out).set HNg.out).set HNg.out)) (fun hHeld => ?_)
          clear hK K
          try simp only [Act.put, List.setIfInBounds_toArray, List.set_cons_zero, List.set_cons_succ]
          refine wpAnyH_ready (rs := [13]) (by kernel_rfl) (by simp) ?_
          refine AllReadyH.cons (o := _) rfl (fun K hK => ?_) AllReadyH.nil
          go_simp
          refine hK.out _ _ (HS.out _ ((((((HK1.out.set HNg.out).set HNg.out).set HNg.out).set HNg.out).set HNg.out).set HNo.out)) (fun hHeld => ?_)
          clear hK K
          try simp only [Act.put, List.setIfInBounds_toArray, List.set_cons_zero, List.set_cons_succ]
          refine wpAnyH_done (by kernel_rfl) ?_ _
          go_wp2_with fail
          obtain ⟨hown1, hgrow, hat⟩ := HEnd.out
          refine bodyPost_end (v := .tuple #[]) (results_none Tryz.results137 _ _ _) rfl ⟨rfl, ?_⟩
          obtain ⟨h1, h2, h3⟩ := a1_end HP.out hown1 hgrow hat (.inl rfl)
          exact ⟨h1, h2, ⟨_, _, _, h3⟩, hHeld.1, hHeld.2.1⟩
        refine AllReadyH.cons (o := _) rfl (fun K hK => ?_) AllReadyH.nil
        go_simp
        refine hK.out _ _ (HS.out _ (HK1.out.set HNo.out)) (fun hHeld => ?_)
        clear hK K
        try simp only [Act.put, List.setIfInBounds_toArray, List.set_cons_zero, List.set_cons_succ]
        refine wpAnyH_ready (rs := [11]) (by kernel_rfl) (by simp) ?_
        refine AllReadyH.cons (o := _) rfl (fun K hK => ?_) AllReadyH.nil
        go_simp
        refine hK.out _ _ (HS.out _ ((((((HK1.out.set HNo.out).set HNg.out).set HNg.out).set HNg.out).set HNg.out).set HNg.out)) (fun hHeld => ?_)
        clear hK K
        try simp only [Act.put, List.setIfInBounds_toArray, List.set_cons_zero, List.set_cons_succ]
        refine wpAnyH_done (by kernel_rfl) ?_ _
        go_wp2_with fail
        obtain ⟨hown1, hgrow, hat⟩ := HEnd.out
        refine bodyPost_end (v := .tuple #[]) (results_none Tryz.results137 _ _ _) rfl ⟨rfl, ?_⟩
        obtain ⟨h1, h2, h3⟩ := a1_end HP.out hown1 hgrow hat (.inr rfl)
        exact ⟨h1, h2, ⟨_, _, _, h3⟩, hHeld.1, hHeld.2.1⟩
      exact AllReadyH.nil
    refine AllReadyH.cons (o := _) rfl (fun K hK => ?_) ?_
    · go_simp
      refine hK.out _ _ (HS.out _ (HK.out.low (below1 w4 (.cells #[.int .i64 0, .string ⟨#[]⟩, .string ⟨#[]⟩, .slice none 0 0, .slice none 0 0] 49)))) (fun hHeld => ?_)
      clear hK K
      try simp only [Act.put, List.setIfInBounds_toArray, List.set_cons_zero, List.set_cons_succ]
      obtain ⟨o5, f5⟩ := HCO.out _ (HR.out.arc.low (below1 _ (.cells #[.int .i64 0, .string ⟨#[]⟩, .string ⟨#[]⟩, .slice none 0 0, .slice none 0 0] 49)))
      refine wpAnyH_ready (rs := [1]) (by kernel_rfl) (by simp) ?_
      refine AllReadyH.cons (o := _) rfl (fun K hK => ?_) ?_
      · go_simp
        refine hK.out _ _ (HS.out _ (HK.out.low (below1 w4 (.cells #[.int .i64 0, .string ⟨#[]⟩, .string ⟨#[]⟩, .slice none 0 0, .slice none 0 0] 49)))) (fun hHeld => ?_)
        clear hK K
        try simp only [Act.put, List.setIfInBounds_toArray, List.set_cons_zero, List.set_cons_succ]
        refine wpAnyH_take (i := 7) (oi := _) (v := .int .i64 (k : Int)) rfl (by kernel_rfl) (by kernel_rfl) (by kernel_rfl) (fun _ _ _ h => h) (Or.inl ⟨by rfl, ?_⟩) (by assumption) ?_
        · intro w hSw
          go_simp
        try simp only [Act.put, List.setIfInBounds_toArray, List.set_cons_zero, List.set_cons_succ]
        refine wpAnyH_ready (rs := [9]) (by kernel_rfl) (by simp) ?_
        refine AllReadyH.cons (o := _) rfl (fun K hK => ?_) AllReadyH.nil
        have HP := Hid.mk (HAp1.out _ _ _ HR.out)
        have HKW := Hid.mk (HK.out.low (below1 w4 (.cells #[.int .i64 0, .string ⟨#[]⟩, .string ⟨#[]⟩, .slice none 0 0, .slice none 0 0] 49)))
        refine step_append_lies _ (by rfl) _ _ _ (by rfl) lo 49 i0 (.agg #[.int .i64 0, .string ⟨#[]⟩, .string ⟨#[]⟩, .slice none 0 0, .slice none 0 0]) 5 88 Tryz.underlying22 hi0 hz0 hz1 hz2 rfl (by omega) (.slice io k cap) k _ (by rfl) HP.out.arc.own ⟨w4.heap.size, 0, none⟩ 1 1 [.int .i64 0, .string ⟨#[]⟩, .string ⟨#[]⟩, .slice none 0 0, .slice none 0 0] (by rfl) (by rfl) (World.news_of_block (cs := #[.int .i64 0, .string ⟨#[]⟩, .string ⟨#[]⟩, .slice none 0 0, .slice none 0 0]) (t := 49) (fr := (0, 0)) HP.out.zero) (by simp [Value.oneCell']) (by omega) hnb (by omega) HP.out.arc.ll _ rfl ?_
        intro g' cap' w1 hown1 hgrow hat hlt1
        obtain ⟨z0, z1, z2, z3, z4, zf⟩ := app_cells hown1
        have zf0 := zf (k * 5)
        have zf1 := zf (k * 5 + 1)
        have zf2 := zf (k * 5 + 2)
        have zf3 := zf (k * 5 + 3)
        have zf4 := zf (k * 5 + 4)
        obtain ⟨hgl, v1, vf, hO1, hK1, hNg, hNo⟩ := a1_pre HP.out HKW.out hbi hbd hgrow hat
        have HK1 := Hid.mk hK1
        have HNg := Hid.mk hNg
        have HNo := Hid.mk hNo
        have HEnd := Hid.mk (And.intro hown1 (And.intro hgrow hat))
        have hOg : O < g' := (by omega)
        clear hown1 hgrow hat hlt1 hK1 hNg hNo zf
        refine hK.out _ _ (HS.out _ HK1.out) (fun hHeld => ?_)
        clear hK K
        try simp only [Act.put, List.setIfInBounds_toArray, List.set_cons_zero, List.set_cons_succ]
        refine wpAnyH_take (i := 10) (oi := _) (v := (.pointer (some ⟨g', k * 5, none⟩))) rfl (by kernel_rfl) (by kernel_rfl) (by kernel_rfl) (fun _ _ _ h => h) (Or.inl ⟨by rfl, ?_⟩) (by assumption) ?_
        · intro w hSw
          go_simp
        try simp only [Act.put, List.setIfInBounds_toArray, List.set_cons_zero, List.set_cons_succ]
        refine wpAnyH_take (i := 12) (oi := _) (v := (.pointer (some ⟨O, 3, none⟩))) rfl (by kernel_rfl) (by kernel_rfl) (by kernel_rfl) (fun _ _ _ h => h) (Or.inl ⟨by rfl, ?_⟩) (by assumption) ?_
        · intro w hSw
          go_simp
        try simp only [Act.put, List.setIfInBounds_toArray, List.set_cons_zero, List.set_cons_succ]
        refine wpAnyH_ready (rs := [11, 13]) (by kernel_rfl) (by simp) ?_
        refine AllReadyH.cons (o := _) rfl (fun K hK => ?_) ?_
        · go_simp
          refine hK.out _ _ (HS.out _ (((((HK1.out.set HNg.out).set HNg.out).set HNg.out).set HNg.out).set HNg.out)) (fun hHeld => ?_)
          clear hK K
          try simp only [Act.put, List.setIfInBounds_toArray, List.set_cons_zero, List.set_cons_succ]
          refine wpAnyH_ready (rs := [13]) (by kernel_rfl) (by simp) ?_
          refine AllReadyH.cons (o := _) rfl (fun K hK => ?_) AllReadyH.nil
          go_simp
          refine hK.out _ _ (HS.out _ ((((((HK1.out.set HNg.out).set HNg.out).set HNg.out).set HNg.out).set HNg.out).set HNo.out)) (fun hHeld => ?_)
          clear hK K
          try simp only [Act.put, List.setIfInBounds_toArray, List.set_cons_zero, List.set_cons_succ]
          refine wpAnyH_done (by kernel_rfl) ?_ _
          go_wp2_with fail
          obtain ⟨hown1, hgrow, hat⟩ := HEnd.out
          refine bodyPost_end (v := .tuple #[]) (results_none Tryz.results137 _ _ _) rfl ⟨rfl, ?_⟩
          obtain ⟨h1, h2, h3⟩ := a1_end HP.out hown1 hgrow hat (.inl rfl)
          exact ⟨h1, h2, ⟨_, _, _, h3⟩, hHeld.1, hHeld.2.1⟩
        refine AllReadyH.cons (o := _) rfl (fun K hK => ?_) AllReadyH.nil
        go_simp
        refine hK.out _ _ (HS.out _ (HK1.out.set HNo.out)) (fun hHeld => ?_)
        clear hK K
        try simp only [Act.put, List.setIfInBounds_toArray, List.set_cons_zero, List.set_cons_succ]
        refine wpAnyH_ready (rs := [11]) (by kernel_rfl) (by simp) ?_
        refine AllReadyH.cons (o := _) rfl (fun K hK => ?_) AllReadyH.nil
        go_simp
        refine hK.out _ _ (HS.out _ ((((((HK1.out.set HNo.out).set HNg.out).set HNg.out).set HNg.out).set HNg.out).set HNg.out)) (fun hHeld => ?_)
        clear hK K
        try simp only [Act.put, List.setIfInBounds_toArray, List.set_cons_zero, List.set_cons_succ]
        refine wpAnyH_done (by kernel_rfl) ?_ _
        go_wp2_with fail
        obtain ⟨hown1, hgrow, hat⟩ := HEnd.out
        refine bodyPost_end (v := .tuple #[]) (results_none Tryz.results137 _ _ _) rfl ⟨rfl, ?_⟩
        obtain ⟨h1, h2, h3⟩ := a1_end HP.out hown1 hgrow hat (.inr rfl)
        exact ⟨h1, h2, ⟨_, _, _, h3⟩, hHeld.1, hHeld.2.1⟩
      exact AllReadyH.nil
    exact AllReadyH.nil
  refine AllReadyH.cons (o := _) rfl (fun K hK => ?_) ?_
  · go_simp
    refine hK.out _ _ (HS.out _ (HL0.out.drew.alloc (.cells #[.int .i64 0, .string ⟨#[]⟩, .string ⟨#[]⟩, .slice none 0 0, .slice none 0 0] 49)).lk) (fun hHeld => ?_)
    clear hK K
    try simp only [Act.put, List.setIfInBounds_toArray, List.set_cons_zero, List.set_cons_succ]
    refine wpAnyH_ready (rs := [1, 6]) (by kernel_rfl) (by simp) ?_
    refine AllReadyH.cons (o := _) rfl (fun K hK => ?_) ?_
    · go_simp
      refine hK.out _ _ (HS.out _ (HL0.out.drew.alloc (.cells #[.int .i64 0, .string ⟨#[]⟩, .string ⟨#[]⟩, .slice none 0 0, .slice none 0 0] 49)).lk) (fun hHeld => ?_)
      clear hK K
      try simp only [Act.put, List.setIfInBounds_toArray, List.set_cons_zero, List.set_cons_succ]
      refine wpAnyH_take (i := 7) (oi := _) (v := .int .i64 (k : Int)) rfl (by kernel_rfl) (by kernel_rfl) (by kernel_rfl) (fun _ _ _ h => h) (Or.inl ⟨by rfl, ?_⟩) (by assumption) ?_
      · intro w hSw
        go_simp
      try simp only [Act.put, List.setIfInBounds_toArray, List.set_cons_zero, List.set_cons_succ]
      refine wpAnyH_ready (rs := [6]) (by kernel_rfl) (by simp) ?_
      refine AllReadyH.cons (o := _) rfl (fun K hK => ?_) ?_
      · go_simp
        go_at_call 96
        refine (HC.out _ (HL0.out.drew.alloc (.cells #[.int .i64 0, .string ⟨#[]⟩, .string ⟨#[]⟩, .slice none 0 0, .slice none 0 0] 49))).mono ?_
        rintro e w4 ⟨jo, jc, ko, kc, rfl, HR⟩
        have HK := Hid.mk HR.out.lk
        obtain ⟨o4, f4⟩ := HCO.out _ HR.out.arc
        have o4l : O < w4.heap.size := (by have h1 := HR.out.arc.ll; omega)
        go_wp2_with fail
        refine hK.out _ _ (HS.out _ HK.out) (fun hHeld => ?_)
        clear hK K
        try simp only [Act.put, List.setIfInBounds_toArray, List.set_cons_zero, List.set_cons_succ]
        refine wpAnyH_ready (rs := [9]) (by kernel_rfl) (by simp) ?_
        refine AllReadyH.cons (o := _) rfl (fun K hK => ?_) AllReadyH.nil
        have HP := Hid.mk (HAp2.out _ _ _ (by show w.heap.size ≤ (w.alloc _).heap.size; simp) (w.heap.size + 1) (by show (w.alloc _).heap.size = _; simp) HR.out)
        have HKW := Hid.mk (HK.out)
        refine step_append_lies _ (by rfl) _ _ _ (by rfl) lo 49 i0 (.agg #[.int .i64 0, .string ⟨#[]⟩, .string ⟨#[]⟩, .slice none 0 0, .slice none 0 0]) 5 88 Tryz.underlying22 hi0 hz0 hz1 hz2 rfl (by omega) (.slice io k cap) k _ (by rfl) HP.out.arc.own ⟨w.heap.size + 1, 0, none⟩ 1 1 [.int .i64 0, .string ⟨#[]⟩, .string ⟨#[]⟩, .slice none 0 0, .slice none 0 0] (by rfl) (by rfl) (World.news_of_block (cs := #[.int .i64 0, .string ⟨#[]⟩, .string ⟨#[]⟩, .slice none 0 0, .slice none 0 0]) (t := 49) (fr := (0, 0)) HP.out.zero) (by simp [Value.oneCell']) (by omega) hnb (by omega) HP.out.arc.ll _ rfl ?_
        intro g' cap' w1 hown1 hgrow hat hlt1
        obtain ⟨z0, z1, z2, z3, z4, zf⟩ := app_cells hown1
        have zf0 := zf (k * 5)
        have zf1 := zf (k * 5 + 1)
        have zf2 := zf (k * 5 + 2)
        have zf3 := zf (k * 5 + 3)
        have zf4 := zf (k * 5 + 4)
        obtain ⟨hgl, v1, vf, hO1, hK1, hNg, hNo⟩ := a1_pre HP.out HKW.out hbi hbd hgrow hat
        have HK1 := Hid.mk hK1
        have HNg := Hid.mk hNg
        have HNo := Hid.mk hNo
        have HEnd := Hid.mk (And.intro hown1 (And.intro hgrow hat))
        have hOg : O < g' := (by omega)
        clear hown1 hgrow hat hlt1 hK1 hNg hNo zf
        refine hK.out _ _ (HS.out _ HK1.out) (fun hHeld => ?_)
        clear hK K
        try simp only [Act.put, List.setIfInBounds_toArray, List.set_cons_zero, List.set_cons_succ]
        refine wpAnyH_take (i := 10) (oi := _) (v := (.pointer (some ⟨g', k * 5, none⟩))) rfl (by kernel_rfl) (by kernel_rfl) (by kernel_rfl) (fun _ _ _ h => h) (Or.inl ⟨by rfl, ?_⟩) (by assumption) ?_
        · intro w hSw
          go_simp
        try simp only [Act.put, List.setIfInBounds_toArray, List.set_cons_zero, List.set_cons_succ]
        refine wpAnyH_take (i := 12) (oi := _) (v := (.pointer (some ⟨O, 3, none⟩))) rfl (by kernel_rfl) (by kernel_rfl) (by kernel_rfl) (fun _ _ _ h => h) (Or.inl ⟨by rfl, ?_⟩) (by assumption) ?_
        · intro w hSw
          go_simp
        try simp only [Act.put, List.setIfInBounds_toArray, List.set_cons_zero, List.set_cons_succ]
        refine wpAnyH_ready (rs := [11, 13]) (by kernel_rfl) (by simp) ?_
        refine AllReadyH.cons (o := _) rfl (fun K hK => ?_) ?_
        · go_simp
          refine hK.out _ _ (HS.out _ (((((HK1.out.set HNg.out).set HNg.out).set HNg.out).set HNg.out).set HNg.out)) (fun hHeld => ?_)
          clear hK K
          try simp only [Act.put, List.setIfInBounds_toArray, List.set_cons_zero, List.set_cons_succ]
          refine wpAnyH_ready (rs := [13]) (by kernel_rfl) (by simp) ?_
          refine AllReadyH.cons (o := _) rfl (fun K hK => ?_) AllReadyH.nil
          go_simp
          refine hK.out _ _ (HS.out _ ((((((HK1.out.set HNg.out).set HNg.out).set HNg.out).set HNg.out).set HNg.out).set HNo.out)) (fun hHeld => ?_)
          clear hK K
          try simp only [Act.put, List.setIfInBounds_toArray, List.set_cons_zero, List.set_cons_succ]
          refine wpAnyH_done (by kernel_rfl) ?_ _
          go_wp2_with fail
          obtain ⟨hown1, hgrow, hat⟩ := HEnd.out
          refine bodyPost_end (v := .tuple #[]) (results_none Tryz.results137 _ _ _) rfl ⟨rfl, ?_⟩
          obtain ⟨h1, h2, h3⟩ := a1_end HP.out hown1 hgrow hat (.inl rfl)
          exact ⟨h1, h2, ⟨_, _, _, h3⟩, hHeld.1, hHeld.2.1⟩
        refine AllReadyH.cons (o := _) rfl (fun K hK => ?_) AllReadyH.nil
        go_simp
        refine hK.out _ _ (HS.out _ (HK1.out.set HNo.out)) (fun hHeld => ?_)
        clear hK K
        try simp only [Act.put, List.setIfInBounds_toArray, List.set_cons_zero, List.set_cons_succ]
        refine wpAnyH_ready (rs := [11]) (by kernel_rfl) (by simp) ?_
        refine AllReadyH.cons (o := _) rfl (fun K hK => ?_) AllReadyH.nil
        go_simp
        refine hK.out _ _ (HS.out _ ((((((HK1.out.set HNo.out).set HNg.out).set HNg.out).set HNg.out).set HNg.out).set HNg.out)) (fun hHeld => ?_)
        clear hK K
        try simp only [Act.put, List.setIfInBounds_toArray, List.set_cons_zero, List.set_cons_succ]
        refine wpAnyH_done (by kernel_rfl) ?_ _
        go_wp2_with fail
        obtain ⟨hown1, hgrow, hat⟩ := HEnd.out
        refine bodyPost_end (v := .tuple #[]) (results_none Tryz.results137 _ _ _) rfl ⟨rfl, ?_⟩
        obtain ⟨h1, h2, h3⟩ := a1_end HP.out hown1 hgrow hat (.inr rfl)
        exact ⟨h1, h2, ⟨_, _, _, h3⟩, hHeld.1, hHeld.2.1⟩
      exact AllReadyH.nil
    refine AllReadyH.cons (o := _) rfl (fun K hK => ?_) ?_
    · go_simp
      go_at_call 96
      refine (HC.out _ (HL0.out.drew.alloc (.cells #[.int .i64 0, .string ⟨#[]⟩, .string ⟨#[]⟩, .slice none 0 0, .slice none 0 0] 49))).mono ?_
      rintro e w4 ⟨jo, jc, ko, kc, rfl, HR⟩
      have HK := Hid.mk HR.out.lk
      obtain ⟨o4, f4⟩ := HCO.out _ HR.out.arc
      have o4l : O < w4.heap.size := (by have h1 := HR.out.arc.ll; omega)
      go_wp2_with fail
      refine hK.out _ _ (HS.out _ HK.out) (fun hHeld => ?_)
      clear hK K
      try simp only [Act.put, List.setIfInBounds_toArray, List.set_cons_zero, List.set_cons_succ]
      refine wpAnyH_ready (rs := [1]) (by kernel_rfl) (by simp) ?_
      refine AllReadyH.cons (o := _) rfl (fun K hK => ?_) ?_
      · go_simp
        refine hK.out _ _ (HS.out _ HK.out) (fun hHeld => ?_)
        clear hK K
        try simp only [Act.put, List.setIfInBounds_toArray, List.set_cons_zero, List.set_cons_succ]
        refine wpAnyH_take (i := 7) (oi := _) (v := .int .i64 (k : Int)) rfl (by kernel_rfl) (by kernel_rfl) (by kernel_rfl) (fun _ _ _ h => h) (Or.inl ⟨by rfl, ?_⟩) (by assumption) ?_
        · intro w hSw
          go_simp
        try simp only [Act.put, List.setIfInBounds_toArray, List.set_cons_zero, List.set_cons_succ]
        refine wpAnyH_ready (rs := [9]) (by kernel_rfl) (by simp) ?_
        refine AllReadyH.cons (o := _) rfl (fun K hK => ?_) AllReadyH.nil
        have HP := Hid.mk (HAp2.out _ _ _ (by show w.heap.size ≤ (w.alloc _).heap.size; simp) (w.heap.size + 1) (by show (w.alloc _).heap.size = _; simp) HR.out)
        have HKW := Hid.mk (HK.out)
        refine step_append_lies _ (by rfl) _ _ _ (by rfl) lo 49 i0 (.agg #[.int .i64 0, .string ⟨#[]⟩, .string ⟨#[]⟩, .slice none 0 0, .slice none 0 0]) 5 88 Tryz.underlying22 hi0 hz0 hz1 hz2 rfl (by omega) (.slice io k cap) k _ (by rfl) HP.out.arc.own ⟨w.heap.size + 1, 0, none⟩ 1 1 [.int .i64 0, .string ⟨#[]⟩, .string ⟨#[]⟩, .slice none 0 0, .slice none 0 0] (by rfl) (by rfl) (World.news_of_block (cs := #[.int .i64 0, .string ⟨#[]⟩, .string ⟨#[]⟩, .slice none 0 0, .slice none 0 0]) (t := 49) (fr := (0, 0)) HP.out.zero) (by simp [Value.oneCell']) (by omega) hnb (by omega) HP.out.arc.ll _ rfl ?_
        intro g' cap' w1 hown1 hgrow hat hlt1
        obtain ⟨z0, z1, z2, z3, z4, zf⟩ := app_cells hown1
        have zf0 := zf (k * 5)
        have zf1 := zf (k * 5 + 1)
        have zf2 := zf (k * 5 + 2)
        have zf3 := zf (k * 5 + 3)
        have zf4 := zf (k * 5 + 4)
        obtain ⟨hgl, v1, vf, hO1, hK1, hNg, hNo⟩ := a1_pre HP.out HKW.out hbi hbd hgrow hat
        have HK1 := Hid.mk hK1
        have HNg := Hid.mk hNg
        have HNo := Hid.mk hNo
        have HEnd := Hid.mk (And.intro hown1 (And.intro hgrow hat))
        have hOg : O < g' := (by omega)
        clear hown1 hgrow hat hlt1 hK1 hNg hNo zf
        refine hK.out _ _ (HS.out _ HK1.out) (fun hHeld => ?_)
        clear hK K
        try simp only [Act.put, List.setIfInBounds_toArray, List.set_cons_zero, List.set_cons_succ]
        refine wpAnyH_take (i := 10) (oi := _) (v := (.pointer (some ⟨g', k * 5, none⟩))) rfl (by kernel_rfl) (by kernel_rfl) (by kernel_rfl) (fun _ _ _ h => h) (Or.inl ⟨by rfl, ?_⟩) (by assumption) ?_
        · intro w hSw
          go_simp
        try simp only [Act.put, List.setIfInBounds_toArray, List.set_cons_zero, List.set_cons_succ]
        refine wpAnyH_take (i := 12) (oi := _) (v := (.pointer (some ⟨O, 3, none⟩))) rfl (by kernel_rfl) (by kernel_rfl) (by kernel_rfl) (fun _ _ _ h => h) (Or.inl ⟨by rfl, ?_⟩) (by assumption) ?_
        · intro w hSw
          go_simp
        try simp only [Act.put, List.setIfInBounds_toArray, List.set_cons_zero, List.set_cons_succ]
        refine wpAnyH_ready (rs := [11, 13]) (by kernel_rfl) (by simp) ?_
        refine AllReadyH.cons (o := _) rfl (fun K hK => ?_) ?_
        · go_simp
          refine hK.out _ _ (HS.out _ (((((HK1.out.set HNg.out).set HNg.out).set HNg.out).set HNg.out).set HNg.out)) (fun hHeld => ?_)
          clear hK K
          try simp only [Act.put, List.setIfInBounds_toArray, List.set_cons_zero, List.set_cons_succ]
          refine wpAnyH_ready (rs := [13]) (by kernel_rfl) (by simp) ?_
          refine AllReadyH.cons (o := _) rfl (fun K hK => ?_) AllReadyH.nil
          go_simp
          refine hK.out _ _ (HS.out _ ((((((HK1.out.set HNg.out).set HNg.out).set HNg.out).set HNg.out).set HNg.out).set HNo.out)) (fun hHeld => ?_)
          clear hK K
          try simp only [Act.put, List.setIfInBounds_toArray, List.set_cons_zero, List.set_cons_succ]
          refine wpAnyH_done (by kernel_rfl) ?_ _
          go_wp2_with fail
          obtain ⟨hown1, hgrow, hat⟩ := HEnd.out
          refine bodyPost_end (v := .tuple #[]) (results_none Tryz.results137 _ _ _) rfl ⟨rfl, ?_⟩
          obtain ⟨h1, h2, h3⟩ := a1_end HP.out hown1 hgrow hat (.inl rfl)
          exact ⟨h1, h2, ⟨_, _, _, h3⟩, hHeld.1, hHeld.2.1⟩
        refine AllReadyH.cons (o := _) rfl (fun K hK => ?_) AllReadyH.nil
        go_simp
        refine hK.out _ _ (HS.out _ (HK1.out.set HNo.out)) (fun hHeld => ?_)
        clear hK K
        try simp only [Act.put, List.setIfInBounds_toArray, List.set_cons_zero, List.set_cons_succ]
        refine wpAnyH_ready (rs := [11]) (by kernel_rfl) (by simp) ?_
        refine AllReadyH.cons (o := _) rfl (fun K hK => ?_) AllReadyH.nil
        go_simp
        refine hK.out _ _ (HS.out _ ((((((HK1.out.set HNo.out).set HNg.out).set HNg.out).set HNg.out).set HNg.out).set HNg.out)) (fun hHeld => ?_)
        clear hK K
        try simp only [Act.put, List.setIfInBounds_toArray, List.set_cons_zero, List.set_cons_succ]
        refine wpAnyH_done (by kernel_rfl) ?_ _
        go_wp2_with fail
        obtain ⟨hown1, hgrow, hat⟩ := HEnd.out
        refine bodyPost_end (v := .tuple #[]) (results_none Tryz.results137 _ _ _) rfl ⟨rfl, ?_⟩
        obtain ⟨h1, h2, h3⟩ := a1_end HP.out hown1 hgrow hat (.inr rfl)
        exact ⟨h1, h2, ⟨_, _, _, h3⟩, hHeld.1, hHeld.2.1⟩
      exact AllReadyH.nil
    exact AllReadyH.nil
  exact AllReadyH.nil
end Go.Proofs.YtfjmgccbpiolhaaGreatDoor
namespace Go.Proofs.YtfjmgccbpiolhaaGreatDoor
open Go.RowKit Go.Shelf
set_option linter.unusedVariables false
set_option linter.unusedSimpArgs false
attribute [local go_sem] Oper.semAt_some

set_option maxRecDepth 100000 in
set_option maxHeartbeats 3200000 in
theorem w_arr1_bad (s : ByteArray) (I Bi Bd B O lo H k d p er q : Nat) (io : Option Addr) (cap : Nat) (c : Nat → Fin 5 → Value) (xs : List VT) (kd pa fi : Nat) (tx : List UInt8) (w : World) (hd : d ≤ 1000)
    (hA : ArC O lo H k io cap c xs w) (hci : w.cell? ⟨Bi, 0, none⟩ = some (.pointer (some ⟨I, 0, none⟩))) (hcd : w.cell? ⟨Bd, 0, none⟩ = some (.int .i64 (d : Int))) (hbi : Bi < O) (hbd : Bd < O) (ib : I < B) (bo : B ≤ O) (bo2 : I < Bi ∧ I < Bd) (hI : InAt w I s p) (hE : ErrIn w)
    (HV : ∀ u, InAt u I s p → ErrIn u → Calls Tryz.prog 96 #[.pointer (some ⟨I, 0, none⟩), .agg #[.int .i64 (kd : Int), .int .i64 (pa : Int), .int .i64 (fi : Int), .string ⟨tx.toArray⟩], .int .i64 ((d : Int) + 1)] u fun e w' => VlR I s H u (.bad er q) e w') :
    Calls Tryz.prog 137 #[.agg #[.int .i64 (kd : Int), .int .i64 (pa : Int), .int .i64 (fi : Int), .string ⟨tx.toArray⟩], .pointer (some ⟨O, 0, none⟩), .pointer (some ⟨Bi, 0, none⟩), .pointer (some ⟨Bd, 0, none⟩)] w fun e w' => e = .panicked (fch er q) ∧ Bel I B w w' := by
  have mixed : Tryz.prog.follows .mixedOrders = true := by kernel_rfl
  have hwr : IntKind.i64.wrap ((d : Int) + 1) = (d : Int) + 1 := by rw [IntKind.wrap_i64]; omega
  have hol := hA.ol
  have hll := hA.ll
  have HA := Hid.mk hA
  have HG0 : Hid (AG Bi Bd I O lo H k d p io cap c xs s kd pa fi tx w (w.alloc (.cells #[.int .i64 (kd : Int), .int .i64 (pa : Int), .int .i64 (fi : Int), .string ⟨tx.toArray⟩] 126))) := by
    have hb := below1 w (.cells #[.int .i64 (kd : Int), .int .i64 (pa : Int), .int .i64 (fi : Int), .string ⟨tx.toArray⟩] 126)
    have hn := heap_alloc_new w (.cells #[.int .i64 (kd : Int), .int .i64 (pa : Int), .int .i64 (fi : Int), .string ⟨tx.toArray⟩] 126)
    have hsz : (w.alloc (.cells #[.int .i64 (kd : Int), .int .i64 (pa : Int), .int .i64 (fi : Int), .string ⟨tx.toArray⟩] 126)).heap.size = w.heap.size + 1 := by simp
    refine ⟨hA.low hb, ⟨(World.cell?_of_block (a := ⟨Bi, 0, none⟩) (hb.block _ (by show Bi < _; omega))).trans hci, (World.cell?_of_block (a := ⟨Bd, 0, none⟩) (hb.block _ (by show Bd < _; omega))).trans hcd, ?_, ?_, ?_, ?_, by omega, by omega, by omega⟩, hI.keep hb, hE.keep hb, hb⟩ <;> rw [cell_of_row _ _ _ _ _ _ hn] <;> rfl
  have HC : Hid (∀ u, AG Bi Bd I O lo H k d p io cap c xs s kd pa fi tx w u → Calls Tryz.prog 96 #[.pointer (some ⟨I, 0, none⟩), .agg #[.int .i64 (kd : Int), .int .i64 (pa : Int), .int .i64 (fi : Int), .string ⟨tx.toArray⟩], .int .i64 ((d : Int) + 1)] u fun e w' => e = .panicked (fch er q) ∧ Bel I B w w') := fun u hu => (HV u hu.inp hu.err).mono (by
    rintro e w' ⟨hbut, he⟩
    have hus := hu.bel.size
    exact ⟨he, (Bel.of (But.of hu.bel) (by omega)).trans (Bel.of hbut (by omega))⟩)
  have HS : Hid (∀ u, LK Bi Bd w.heap.size I d kd pa fi tx u → u.cell? ⟨Bi, 0, none⟩ = some (.pointer (some ⟨I, 0, none⟩)) ∧ u.cell? ⟨Bd, 0, none⟩ = some (.int .i64 (d : Int)) ∧ u.cell? ⟨w.heap.size, 0, none⟩ = some (.int .i64 (kd : Int)) ∧ u.cell? ⟨w.heap.size, 1, none⟩ = some (.int .i64 (pa : Int)) ∧ u.cell? ⟨w.heap.size, 2, none⟩ = some (.int .i64 (fi : Int)) ∧ u.cell? ⟨w.heap.size, 3, none⟩ = some (.string ⟨tx.toArray⟩)) := fun u h => ⟨h.ci, h.cd, h.c0, h.c1, h.c2, h.c3⟩
  have hb3 : (HG0.out.arc.box) = HG0.out.arc.box := rfl
  have cO : ∀ u, ArC O lo H k io cap c xs u → u.cell? ⟨O, 3, none⟩ = some (.slice io k cap) ∧ u.frozen? ⟨O, 3, none⟩ = false := fun u hu => ⟨by rw [cell_of_row _ _ _ _ _ _ hu.box]; rfl, frozen_rowT hu.box⟩
  have HCO := Hid.mk cO
  obtain ⟨o3, _⟩ := cO _ hA
  have HIB := Hid.mk (And.intro ib (And.intro bo (And.intro bo2 (And.intro hbi hbd))))
  clear hA hci hcd hI hE HV hb3 cO ib bo bo2
  go_enter Tryz.func137, Tryz.ntmps137
  go_wp2_with fail
  have HL0 := HG0
  obtain ⟨oA, fA⟩ := HCO.out _ HG0.out.arc
  obtain ⟨oB, fB⟩ := HCO.out _ (HG0.out.alloc (.cells #[.int .i64 0, .string ⟨#[]⟩, .string ⟨#[]⟩, .slice none 0 0, .slice none 0 0] 49)).arc
  refine wp_region_held_drew (S := (fun u => u.cell? ⟨Bi, 0, none⟩ = some (.pointer (some ⟨I, 0, none⟩)) ∧ u.cell? ⟨Bd, 0, none⟩ = some (.int .i64 (d : Int)) ∧ u.cell? ⟨w.heap.size, 0, none⟩ = some (.int .i64 (kd : Int)) ∧ u.cell? ⟨w.heap.size, 1, none⟩ = some (.int .i64 (pa : Int)) ∧ u.cell? ⟨w.heap.size, 2, none⟩ = some (.int .i64 (fi : Int)) ∧ u.cell? ⟨w.heap.size, 3, none⟩ = some (.string ⟨tx.toArray⟩))) (by kernel_rfl) (HS.out _ HL0.out.drew.lk) (fun hHeld => ?_)
  refine wpAnyH_take (i := 0) (oi := _) (v := .pointer (some ⟨O, 3, none⟩)) rfl (by kernel_rfl) (by kernel_rfl) (by kernel_rfl) (fun _ _ _ h => h) (Or.inl ⟨by rfl, ?_⟩) (by assumption) ?_
  · intro w hSw
    go_simp
  try simp only [Act.put, List.setIfInBounds_toArray, List.set_cons_zero, List.set_cons_succ]
  refine wpAnyH_take (i := 2) (oi := _) (v := .pointer (some ⟨I, 0, none⟩)) rfl (by kernel_rfl) (by kernel_rfl) (by kernel_rfl) (fun _ _ _ h => h) (Or.inl ⟨by rfl, ?_⟩) (by assumption) ?_
  · intro w hSw
    go_simp
  try simp only [Act.put, List.setIfInBounds_toArray, List.set_cons_zero, List.set_cons_succ]
  refine wpAnyH_take (i := 3) (oi := _) (v := .agg #[.int .i64 (kd : Int), .int .i64 (pa : Int), .int .i64 (fi : Int), .string ⟨tx.toArray⟩]) rfl (by kernel_rfl) (by kernel_rfl) (by kernel_rfl) (fun _ _ _ h => h) (Or.inl ⟨by rfl, ?_⟩) (by assumption) ?_
  · intro w hSw
    go_simp
  try simp only [Act.put, List.setIfInBounds_toArray, List.set_cons_zero, List.set_cons_succ]
  refine wpAnyH_take (i := 4) (oi := _) (v := .int .i64 (d : Int)) rfl (by kernel_rfl) (by kernel_rfl) (by kernel_rfl) (fun _ _ _ h => h) (Or.inl ⟨by rfl, ?_⟩) (by assumption) ?_
  · intro w hSw
    go_simp
  try simp only [Act.put, List.setIfInBounds_toArray, List.set_cons_zero, List.set_cons_succ]
  refine wpAnyH_take (i := 5) (oi := _) (v := .int .i64 ((d : Int) + 1)) rfl (by kernel_rfl) (by kernel_rfl) (by kernel_rfl) (fun _ _ _ h => h) (Or.inl ⟨by rfl, ?_⟩) (by assumption) ?_
  · intro w hSw
    go_simp
  try simp only [Act.put, List.setIfInBounds_toArray, List.set_cons_zero, List.set_cons_succ]
  refine wpAnyH_ready (rs := [1, 6, 8]) (by kernel_rfl) (by simp) ?_
  refine AllReadyH.cons (o := _) rfl (fun K hK => ?_) ?_
  · go_simp
    refine hK.out _ _ (HS.out _ HL0.out.drew.lk) (fun hHeld => ?_)
    clear hK K
    try simp only [Act.put, List.setIfInBounds_toArray, List.set_cons_zero, List.set_cons_succ]
    refine wpAnyH_take (i := 7) (oi := _) (v := .int .i64 (k : Int)) rfl (by kernel_rfl) (by kernel_rfl) (by kernel_rfl) (fun _ _ _ h => h) (Or.inl ⟨by rfl, ?_⟩) (by assumption) ?_
    · intro w hSw
      go_simp
    try simp only [Act.put, List.setIfInBounds_toArray, List.set_cons_zero, List.set_cons_succ]
    refine wpAnyH_ready (rs := [6, 8]) (by kernel_rfl) (by simp) ?_
    refine AllReadyH.cons (o := _) rfl (fun K hK => ?_) ?_
    · go_simp
      go_at_call 96
      refine (HC.out _ (HL0.out.drew)).mono ?_
      rintro e w4 ⟨rfl, hbel⟩
      exact ⟨rfl, rfl, hbel⟩
    refine AllReadyH.cons (o := _) rfl (fun K hK => ?_) ?_
    · go_simp
      refine hK.out _ _ (HS.out _ (HL0.out.drew.alloc (.cells #[.int .i64 0, .string ⟨#[]⟩, .string ⟨#[]⟩, .slice none 0 0, .slice none 0 0] 49)).lk) (fun hHeld => ?_)
      clear hK K
      try simp only [Act.put, List.setIfInBounds_toArray, List.set_cons_zero, List.set_cons_succ]
      refine wpAnyH_ready (rs := [6]) (by kernel_rfl) (by simp) ?_
      refine AllReadyH.cons (o := _) rfl (fun K hK => ?_) ?_
      · go_simp
        go_at_call 96
        refine (HC.out _ (HL0.out.drew.alloc (.cells #[.int .i64 0, .string ⟨#[]⟩, .string ⟨#[]⟩, .slice none 0 0, .slice none 0 0] 49))).mono ?_
        rintro e w4 ⟨rfl, hbel⟩
        exact ⟨rfl, rfl, hbel⟩
      exact AllReadyH.nil
    exact AllReadyH.nil
  refine AllReadyH.cons (o := _) rfl (fun K hK => ?_) ?_
  · go_simp
    go_at_call 96
    refine (HC.out _ (HL0.out.drew)).mono ?_
    rintro e w4 ⟨rfl, hbel⟩
    exact ⟨rfl, rfl, hbel⟩
  refine AllReadyH.cons (o := _) rfl (fun K hK => ?_) ?_
  · go_simp
    refine hK.out _ _ (HS.out _ (HL0.out.drew.alloc (.cells #[.int .i64 0, .string ⟨#[]⟩, .string ⟨#[]⟩, .slice none 0 0, .slice none 0 0] 49)).lk) (fun hHeld => ?_)
    clear hK K
    try simp only [Act.put, List.setIfInBounds_toArray, List.set_cons_zero, List.set_cons_succ]
    refine wpAnyH_ready (rs := [1, 6]) (by kernel_rfl) (by simp) ?_
    refine AllReadyH.cons (o := _) rfl (fun K hK => ?_) ?_
    · go_simp
      refine hK.out _ _ (HS.out _ (HL0.out.drew.alloc (.cells #[.int .i64 0, .string ⟨#[]⟩, .string ⟨#[]⟩, .slice none 0 0, .slice none 0 0] 49)).lk) (fun hHeld => ?_)
      clear hK K
      try simp only [Act.put, List.setIfInBounds_toArray, List.set_cons_zero, List.set_cons_succ]
      refine wpAnyH_take (i := 7) (oi := _) (v := .int .i64 (k : Int)) rfl (by kernel_rfl) (by kernel_rfl) (by kernel_rfl) (fun _ _ _ h => h) (Or.inl ⟨by rfl, ?_⟩) (by assumption) ?_
      · intro w hSw
        go_simp
      try simp only [Act.put, List.setIfInBounds_toArray, List.set_cons_zero, List.set_cons_succ]
      refine wpAnyH_ready (rs := [6]) (by kernel_rfl) (by simp) ?_
      refine AllReadyH.cons (o := _) rfl (fun K hK => ?_) ?_
      · go_simp
        go_at_call 96
        refine (HC.out _ (HL0.out.drew.alloc (.cells #[.int .i64 0, .string ⟨#[]⟩, .string ⟨#[]⟩, .slice none 0 0, .slice none 0 0] 49))).mono ?_
        rintro e w4 ⟨rfl, hbel⟩
        exact ⟨rfl, rfl, hbel⟩
      exact AllReadyH.nil
    refine AllReadyH.cons (o := _) rfl (fun K hK => ?_) ?_
    · go_simp
      go_at_call 96
      refine (HC.out _ (HL0.out.drew.alloc (.cells #[.int .i64 0, .string ⟨#[]⟩, .string ⟨#[]⟩, .slice none 0 0, .slice none 0 0] 49))).mono ?_
      rintro e w4 ⟨rfl, hbel⟩
      exact ⟨rfl, rfl, hbel⟩
    exact AllReadyH.nil
  exact AllReadyH.nil
end Go.Proofs.YtfjmgccbpiolhaaGreatDoor
namespace Go.Proofs.YtfjmgccbpiolhaaGreatDoor
open Go.RowKit Go.Shelf
set_option linter.unusedVariables false
set_option linter.unusedSimpArgs false
attribute [local go_sem] Oper.semAt_some

def ValD (s : ByteArray) (I H d : Nat) (vl : Tok → Nat → Rd VT) : Prop := ∀ (t : Tok) (p : Nat) (u : World), p ≤ s.size → t.text.length ≤ 140737488355328 → InAt u I s p → ErrIn u → Calls Tryz.prog 96 #[.pointer (some ⟨I, 0, none⟩), tokV t, .int .i64 (d : Int)] u fun e w' => VlR I s H u (vl t p) e w'
def ValUp (s : ByteArray) (vl : Tok → Nat → Rd VT) : Prop := ∀ (t : Tok) (p : Nat) (T : VT) (q : Nat), p ≤ s.size → vl t p = .ok T q → p ≤ q ∧ q ≤ s.size
structure ArT (O Bi Bd I lo H d : Nat) (xs : List VT) (u : World) : Prop where
  arr : ∃ k io cap c, ArC O lo H k io cap c xs u
  ci : u.cell? ⟨Bi, 0, none⟩ = some (.pointer (some ⟨I, 0, none⟩))
  cd : u.cell? ⟨Bd, 0, none⟩ = some (.int .i64 (d : Int))
theorem arr_part (s : ByteArray) (ss : s.size ≤ 1073741824) (I Bi Bd B O lo H d : Nat) (hd : d ≤ 1000) (hbi : Bi < O) (hbd : Bd < O) (ib : I < B) (bo : B ≤ O) (bo2 : I < Bi ∧ I < Bd) (vl : Tok → Nat → Rd VT) (HV : ValD s I H (d + 1) vl) (HU : ValUp s vl) :
    PartOk I B 137 #[.pointer (some ⟨O, 0, none⟩), .pointer (some ⟨Bi, 0, none⟩), .pointer (some ⟨Bd, 0, none⟩)] s (aPt vl) (fun xs p => xs.length ≤ p) (ArT O Bi Bd I lo H d) where
  up := fun x p q h1 h2 => Nat.le_trans h1 h2
  ent := enters_of Tryz.func137 (by kernel_rfl) rfl
  call := by
    rintro xs t p w ⟨⟨k, io, cap, c, hA⟩, ci, cd⟩ ⟨p0, hp0, hfit⟩ htx hI hE hp hB
    have hlen := hA.len
    have hol := hA.ol
    have hll := hA.ll
    obtain ⟨kd, pa, fi, tx, er⟩ := t
    have HVt : ∀ u, InAt u I s p → ErrIn u → Calls Tryz.prog 96 #[.pointer (some ⟨I, 0, none⟩), .agg #[.int .i64 (kd : Int), .int .i64 (pa : Int), .int .i64 (fi : Int), .string ⟨tx.toArray⟩], .int .i64 ((d : Int) + 1)] u fun e w' => VlR I s H u (vl ⟨kd, pa, fi, tx, er⟩ p) e w' := fun u h1 h2 => HV ⟨kd, pa, fi, tx, er⟩ p u hp htx h1 h2
    unfold aPt
    cases hv : vl ⟨kd, pa, fi, tx, er⟩ p with
    | bad e2 q =>
      rw [hv] at HVt
      exact (w_arr1_bad s I Bi Bd B O lo H k d p e2 q io cap c xs kd pa fi tx w hd hA ci cd hbi hbd ib bo bo2 hI hE HVt).mono (fun e w' h => ⟨h.2, h.1⟩)
    | ok T q =>
      rw [hv] at HVt
      obtain ⟨u1, u2⟩ := HU _ _ _ _ hp hv
      refine (w_arr1_ok s I Bi Bd B O lo H k d p q io cap c xs kd pa fi tx T w (by omega) hd hA ci cd hbi hbd ib bo bo2 hI hE HVt).mono ?_
      rintro e w' ⟨rfl, hbel, hin, ⟨g, cap', c', hA'⟩, ci', cd'⟩
      refine ⟨hbel, rfl, hin, ⟨⟨_, _, _, _, hA'⟩, ci', cd'⟩, u1, u2, ?_⟩
      show (xs ++ [T]).length ≤ q
      rw [List.length_append]
      show xs.length + 1 ≤ q
      omega
  keep := by
    rintro xs w w' ⟨⟨k, io, cap, c, hA⟩, ci, cd⟩ hb
    have hol := hA.ol
    have hll := hA.ll
    exact ⟨⟨k, io, cap, c, hA.but (by omega) hb⟩, (World.cell?_of_block (a := ⟨Bi, 0, none⟩) (hb.block _ (by show Bi < _; omega) (by show Bi ≠ I; omega))).trans ci, (World.cell?_of_block (a := ⟨Bd, 0, none⟩) (hb.block _ (by show Bd < _; omega) (by show Bd ≠ I; omega))).trans cd⟩
end Go.Proofs.YtfjmgccbpiolhaaGreatDoor
namespace Go.Proofs.YtfjmgccbpiolhaaGreatDoor
open Go.RowKit Go.Shelf
set_option linter.unusedVariables false
set_option linter.unusedSimpArgs false
attribute [local go_sem] Oper.semAt_some

theorem arr_done {O lo H k cap : Nat} {io : Option Addr} {c : Nat → Fin 5 → Value} {xs : List VT} {w u u' : World} (hA : ArC O lo H k io cap c xs u) (hk : k ≤ 1073741824) (hlo : w.heap.size ≤ lo) (hz : u.heap.size ≤ u'.heap.size) (hs : ∀ b, lo ≤ b → b < u.heap.size → u'.heap[b]? = u.heap[b]?) :
    InF w.heap.size u' (H + 1 + 1) (.mk 5 .empty .empty xs []) (.agg #[.int .i64 5, .string ⟨#[]⟩, .string ⟨#[]⟩, .slice io k cap, .slice none 0 0]) := by
  have hlen := hA.len
  have hle : k ≤ cap := by
    rcases hA.own.2 with ⟨h1, h2⟩ | ⟨g, c2, cur, h1, h2, h3, h4, h5, h6, h7⟩
    · simp only [Value.slice.injEq] at h1
      omega
    · simp only [Value.slice.injEq] at h1
      omega
  subst hlen
  refine ⟨io, cap, none, 0, rfl, by show ByteArray.empty.size ≤ _; decide, by show ByteArray.empty.size ≤ _; decide, by show xs.length ≤ _; omega, Nat.zero_le _, hle, Nat.le_refl _, fun k hk => (by cases hk), fun h => absurd h (by show ¬ 0 < 0; omega), fun h0 => ?_⟩
  have h0' : 0 < xs.length := h0
  rcases hA.own.2 with ⟨h1, h2⟩ | ⟨g, c2, cur, h1, h2, h3, _⟩
  · simp only [Value.slice.injEq] at h1
    omega
  · simp only [Value.slice.injEq] at h1
    obtain ⟨rfl, _, rfl⟩ := h1
    have hgl := (Array.getElem?_eq_some_iff.1 h3).1
    refine ⟨g, 0, rfl, by omega, by omega, fun i hi => ?_⟩
    have hi' : i < xs.length := hi
    have cc : ∀ j : Fin 5, u'.cell? ⟨g, i * 5 + j.1, none⟩ = some (c i j) := fun j => by
      rw [World.cell?_of_block (a := ⟨g, i * 5 + j.1, none⟩) (hs g h2 hgl), own_cellAt hA.own (by have := j.2; omega)]
      exact flat_get c _ i j hi'
    refine ⟨c i 0, c i 1, c i 2, c i 3, c i 4, ⟨by rw [Nat.zero_add]; exact cc 0, by rw [Nat.zero_add]; exact cc 1, by rw [Nat.zero_add]; exact cc 2, by rw [Nat.zero_add]; exact cc 3, by rw [Nat.zero_add]; exact cc 4⟩, ?_⟩
    exact InD.iff.1 (InD.keep hz (fun b hb hl => hs b hb.1 hl) (fun b hb _ => by have := hb.1; show w.heap.size ≤ b; omega) (hA.trees i hi'))
end Go.Proofs.YtfjmgccbpiolhaaGreatDoor
namespace Go.Proofs.YtfjmgccbpiolhaaGreatDoor
open Go.RowKit Go.Shelf
set_option linter.unusedVariables false
set_option linter.unusedSimpArgs false
attribute [local go_sem] Oper.semAt_some

set_option maxRecDepth 100000 in
set_option maxHeartbeats 3200000 in
theorem w_array (s : ByteArray) (ss : s.size ≤ 1073741824) (I H d p : Nat) (hd : d ≤ 1000) (hp : p ≤ s.size) (vl : Tok → Nat → Rd VT) (HV : ValD s I H (d + 1) vl) (HU : ValUp s vl) (hTx : ∀ p t p1, mustL s.data.toList p = .ok t p1 → t.text.length ≤ 140737488355328) (w : World) (hI : InAt w I s p) (hE : ErrIn w) (gI : I ≠ 4) :
    Calls Tryz.prog 124 #[.pointer (some ⟨I, 0, none⟩), .int .i64 (d : Int)] w fun e w' => VlR I s (H + 1) w (arrL s.data.toList vl p) e w' := by
  have gB : 4 < w.heap.size := by
    obtain ⟨ev, hc, hv⟩ := hE
    exact World.block_lt_of_cell? w _ hc
  have hIl := hI.lt
  have HRow : Hid (∀ u, ArT (w.heap.size + 1 + 1 + 1) w.heap.size (w.heap.size + 1) I (w.heap.size + 1 + 1 + 1 + 1) H d [] u → InAt u I s p → ErrIn u → w.heap.size + 1 + 1 + 1 ≤ u.heap.size → Calls Tryz.prog 136 #[.pointer (some ⟨I, 0, none⟩), .int .i64 4, .func (.func 137) #[] #[.pointer (some ⟨w.heap.size + 1 + 1 + 1, 0, none⟩), .pointer (some ⟨w.heap.size, 0, none⟩), .pointer (some ⟨w.heap.size + 1, 0, none⟩)]] u fun e w' => RowR I (w.heap.size + 1 + 1 + 1) s (fun xs p => xs.length ≤ p) (ArT (w.heap.size + 1 + 1 + 1) w.heap.size (w.heap.size + 1) I (w.heap.size + 1 + 1 + 1 + 1) H d) u (rowL s.data.toList 4 (aPt vl) [] p) e w') := fun u h1 h2 h3 h4 =>
    w_rRow s ss I (w.heap.size + 1 + 1 + 1) _ _ 4 (aPt vl) _ _ (arr_part s ss I w.heap.size (w.heap.size + 1) (w.heap.size + 1 + 1 + 1) (w.heap.size + 1 + 1 + 1) (w.heap.size + 1 + 1 + 1 + 1) H d hd (by omega) (by omega) (by omega) (Nat.le_refl _) ⟨by omega, by omega⟩ vl HV HU) [] p u h1 (Nat.zero_le _) h2 h3 hp h4 (by omega) gI hTx
  have HI := Hid.mk (And.intro hI hE)
  obtain ⟨R, hR⟩ : ∃ R, arrL s.data.toList vl p = R := ⟨_, rfl⟩
  rw [hR]
  have HRR := Hid.mk hR
  clear hR
  clear hI hE HV HU hTx
  go_enter Tryz.func124, Tryz.ntmps124
  go_wp2_with fail
  obtain ⟨W1, e1⟩ : ∃ W, w.alloc (.cells #[.pointer (some ⟨I, 0, none⟩)] 182) = W := ⟨_, rfl⟩
  rw [e1]
  obtain ⟨W2, e2⟩ : ∃ W, W1.alloc (.cells #[.int .i64 (d : Int)] 3) = W := ⟨_, rfl⟩
  rw [e2]
  obtain ⟨W3, e3⟩ : ∃ W, W2.alloc (.cells #[.int .i64 0, .string ⟨#[]⟩, .string ⟨#[]⟩, .slice none 0 0, .slice none 0 0] 49) = W := ⟨_, rfl⟩
  rw [e3]
  obtain ⟨W, e4⟩ : ∃ W, W3.alloc (.cells #[.int .i64 5, .string ⟨#[]⟩, .string ⟨#[]⟩, .slice none 0 0, .slice none 0 0] 49) = W := ⟨_, rfl⟩
  rw [e4]
  have s1 : W1.heap.size = w.heap.size + 1 := by rw [← e1]; simp
  have s2 : W2.heap.size = w.heap.size + 1 + 1 := by rw [← e2]; simp [s1]
  have s3 : W3.heap.size = w.heap.size + 1 + 1 + 1 := by rw [← e3]; simp [s2]
  have s4 : W.heap.size = w.heap.size + 1 + 1 + 1 + 1 := by rw [← e4]; simp [s3]
  have b1 : Below w.heap.size w W1 := by rw [← e1]; exact below1 _ _
  have b2 : Below W1.heap.size W1 W2 := by rw [← e2]; exact below1 _ _
  have b3 : Below W2.heap.size W2 W3 := by rw [← e3]; exact below1 _ _
  have b4 : Below W3.heap.size W3 W := by rw [← e4]; exact below1 _ _
  have n1 := heap_alloc_new w (.cells #[.pointer (some ⟨I, 0, none⟩)] 182)
  rw [e1] at n1
  have n2 := heap_alloc_new W1 (.cells #[.int .i64 (d : Int)] 3)
  rw [e2, s1] at n2
  have n3 := heap_alloc_new W2 (.cells #[.int .i64 0, .string ⟨#[]⟩, .string ⟨#[]⟩, .slice none 0 0, .slice none 0 0] 49)
  rw [e3, s2] at n3
  have n4 := heap_alloc_new W3 (.cells #[.int .i64 5, .string ⟨#[]⟩, .string ⟨#[]⟩, .slice none 0 0, .slice none 0 0] 49)
  rw [e4, s3] at n4
  have hbw : Below w.heap.size w W := ((b1.trans (b2.mono (by omega))).trans (b3.mono (by omega))).trans (b4.mono (by omega))
  have m1 := (b4.block _ (by omega)).trans ((b3.block _ (by omega)).trans ((b2.block w.heap.size (by omega)).trans n1))
  have m2 := (b4.block _ (by omega)).trans ((b3.block (w.heap.size + 1) (by omega)).trans n2)
  have m3 := (b4.block (w.heap.size + 1 + 1) (by omega)).trans n3
  refine (HRow.out W ⟨⟨0, none, 0, fun _ _ => undef, ⟨rfl, by omega, by omega, n4, World.ownsRow_nil _ _ _ _, fun i hi => absurd hi (Nat.not_lt_zero i)⟩⟩, by rw [cell_of_row _ _ _ _ _ _ m1]; rfl, by rw [cell_of_row _ _ _ _ _ _ m2]; rfl⟩ (HI.out.1.keep hbw) (HI.out.2.keep hbw) (by omega)).mono ?_
  rintro e w' ⟨hbel, hm⟩
  have hbs := hbel.size
  have hbut : But I w w' := ⟨hbel.os.trans hbw.os, hbel.tape.trans hbw.tape, hbel.output.trans hbw.output, by omega, fun k hk hn => (hbel.block k (by omega) hn).trans (hbw.block k hk)⟩
  have hR := HRR.out
  unfold arrL at hR
  cases hr : rowL s.data.toList 4 (aPt vl) [] p with
  | bad er q =>
    rw [hr] at hm hR
    have hm' : e = .panicked (fch er q) := hm
    subst hm'
    refine ⟨rfl, hbut, ?_⟩
    rw [← hR]
  | ok xs q =>
    rw [hr] at hm hR
    have HR2 := Hid.mk hR
    clear hR
    obtain ⟨rfl, hin, ⟨⟨k, io, cap, c, hA⟩, ci', cd'⟩, hfit, hq⟩ := hm
    obtain ⟨t0, t1, t2, t3, t4, f0, f1, f2, f3, f4⟩ := vbox_cells hA.box
    have q2 := (hbel.block (w.heap.size + 1 + 1) (by omega) (by omega)).trans m3
    obtain ⟨r0, r1, r2, r3, r4, g0, g1, g2, g3, g4⟩ := vbox_cells q2
    have HN := Hid.mk (And.intro hbut (And.intro hin (And.intro q2 (And.intro hA (And.intro hfit (And.intro hq hbs))))))
    have HZ := Hid.mk s4
    clear hbut hin q2 hA hfit hq hbs hbel hbw m1 m2 m3 n1 n2 n3 n4 b1 b2 b3 b4 s1 s2 s3 s4 e1 e2 e3 e4 hr ci' cd' HRow
    go_wp2_with fail
    obtain ⟨hbut, hin, q2, hA, hfit, hq, hbs⟩ := HN.out
    have hsz := HZ.out
    have hAl := hA.ll
    have hlen := hA.len
    generalize hz5 : ((((w'.setCell ⟨w.heap.size + 1 + 1, 0, none⟩ (.int .i64 5)).setCell ⟨w.heap.size + 1 + 1, 1, none⟩ (.string ⟨#[]⟩)).setCell ⟨w.heap.size + 1 + 1, 2, none⟩ (.string ⟨#[]⟩)).setCell ⟨w.heap.size + 1 + 1, 3, none⟩ (.slice io k cap)).setCell ⟨w.heap.size + 1 + 1, 4, none⟩ (.slice none 0 0) = wz
    obtain ⟨e5, k5, s5⟩ := rbox_set5 w' _ _ _ _ _ _ _ _ _ _ _ _ q2 wz hz5.symm
    have u5 : But I w wz := by rw [← hz5]; exact (((hbut.set2 _ 0 (by omega) _).set2 _ 1 (by omega) _).set2 _ 2 (by omega) _ |>.set2 _ 3 (by omega) _).set2 _ 4 (by omega) _
    obtain ⟨d0, d1, d2, d3, d4, _⟩ := vbox_cells e5
    refine bodyPost_ret (v := .agg #[.int .i64 5, .string ⟨#[]⟩, .string ⟨#[]⟩, .slice io k cap, .slice none 0 0]) (by simp [results, Tryz.results124, go_sem, d0, d1, d2, d3, d4]) rfl ?_
    rw [← HR2.out]
    exact ⟨u5, ⟨_, rfl, arr_done (w := w) hA (by omega) (by omega) (by omega) (fun b hb hl => k5 b (by omega))⟩, (k5 _ (by omega)).trans hin⟩
end Go.Proofs.YtfjmgccbpiolhaaGreatDoor
