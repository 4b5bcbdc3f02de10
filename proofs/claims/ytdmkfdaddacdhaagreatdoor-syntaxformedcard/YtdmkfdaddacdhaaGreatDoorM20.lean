import Derived.Test.YtdmkfdaddacdhaaGreatDoorM18
import Derived.Test.YtdmkfdaddacdhaaGreatDoorM19
import Derived.WalkMore
import Derived.Deep.LoopGhost
namespace Go.Proofs.YtdmkfdaddacdhaaGreatDoor
open Go.RowKit Go.Shelf
set_option linter.unusedVariables false
set_option linter.unusedSimpArgs false
attribute [local go_sem] Oper.semAt_some

def flT (l : List Tok) : List Value := l.flatMap fun t => [.int .i64 (t.kind : Int), .int .i64 (t.at_ : Int), .int .i64 (t.fin : Int), .string ⟨t.text.toArray⟩]
theorem flT_snoc (l : List Tok) (t : Tok) : flT (l ++ [t]) = flT l ++ [.int .i64 (t.kind : Int), .int .i64 (t.at_ : Int), .int .i64 (t.fin : Int), .string ⟨t.text.toArray⟩] := by simp [flT]
theorem flT_len (l : List Tok) : (flT l).length = l.length * 4 := by
  induction l with
  | nil => rfl
  | cons t l ih => rw [show flT (t :: l) = [.int .i64 (t.kind : Int), .int .i64 (t.at_ : Int), .int .i64 (t.fin : Int), .string ⟨t.text.toArray⟩] ++ flT l from rfl, List.length_append, ih, List.length_cons]; simp; omega

theorem Tryz.infoTok : (Tryz.prog.info? 42).map (fun i => (i.zero, i.size, i.bytes)) = some (some (.agg #[.int .i64 0, .int .i64 0, .int .i64 0, .string ⟨#[]⟩]), 4, 40) := by kernel_rfl

theorem new4 {w : World} {g : Nat} {t : TypeId} {y0 y1 y2 y3 : Value} (h : w.heap[g]? = some (.cells #[y0, y1, y2, y3] t (0, 0))) : ∀ (j : Nat) u, [y0, y1, y2, y3][j]? = some u → w.cell? ((⟨g, 0, none⟩ : Addr).add j) = some u := World.news_of_block (cs := #[y0, y1, y2, y3]) h
theorem box_set1 {W : World} {B : Nat} {t : TypeId} {y : Value} (v : Value) (h : W.heap[B]? = some (.cells #[y] t (0, 0))) : (W.setCell ⟨B, 0, none⟩ v).heap[B]? = some (.cells #[v] t (0, 0)) := by
  show (W.heap.modify B _)[B]? = _
  rw [Array.getElem?_modify, if_pos rfl, h]; rfl

theorem own_shapeT {w : World} {base : Nat} {e : TypeId} {size : Nat} {v : Value} {n : Nat} {xs : List Value} (h : w.ownsRow base e size v n xs) : ∃ so sc, v = .slice so n sc := by
  rcases h.2 with ⟨e, h0⟩ | ⟨g, cap, cur, e, _⟩
  · exact ⟨none, 0, by rw [e, h0]⟩
  · exact ⟨_, _, e⟩
theorem own_blkT {w w' : World} {base : Nat} {e : TypeId} {size : Nat} {v : Value} {n : Nat} {xs : List Value} (h : w.ownsRow base e size v n xs) (hb : ∀ g, base ≤ g → w'.heap[g]? = w.heap[g]?) {base' : Nat} (hle : base' ≤ base) : w'.ownsRow base' e size v n xs := by
  refine ⟨h.1, h.2.imp id ?_⟩
  rintro ⟨g, cap, cur, rfl, e2, e3, rest⟩
  exact ⟨g, cap, cur, rfl, Nat.le_trans hle e2, (hb g e2).trans e3, rest⟩
end Go.Proofs.YtdmkfdaddacdhaaGreatDoor
namespace Go.Proofs.YtdmkfdaddacdhaaGreatDoor
open Go.RowKit Go.Shelf
set_option linter.unusedVariables false
set_option linter.unusedSimpArgs false
attribute [local go_sem] Oper.semAt_some

theorem restY_step {l : List UInt8} {f p q : Nat} {t : Tok} (hp : p < l.length) (ht : nextT l p = t) (he : t.err = 0) (hq : behL l t.fin cBl = q) : restY l (f + 1) p = t :: restY l f q := by
  rw [restY, if_pos hp, ht, if_pos he, hq]
theorem restY_end {l : List UInt8} {f p : Nat} (hp : ¬ p < l.length) : restY l (f + 1) p = [] := by rw [restY, if_neg hp]
theorem restY_bad {l : List UInt8} {f p : Nat} {t : Tok} (hp : p < l.length) (ht : nextT l p = t) (he : ¬ t.err = 0) : restY l (f + 1) p = [t] := by
  rw [restY, if_pos hp, ht, if_neg he]
def kText : List UInt8 := [123, 34, 97, 34, 58, 32, 91, 49, 44, 32, 45, 48, 44, 32, 110, 117, 108, 108, 93, 125]
def kToks : List Tok := [⟨1, 0, 1, [], 0⟩, ⟨11, 1, 4, [97], 0⟩, ⟨5, 4, 5, [], 0⟩, ⟨3, 6, 7, [], 0⟩, ⟨10, 7, 8, [49], 0⟩, ⟨6, 8, 9, [], 0⟩, ⟨10, 10, 12, [48], 0⟩, ⟨6, 12, 13, [], 0⟩, ⟨7, 14, 18, [], 0⟩, ⟨4, 18, 19, [], 0⟩, ⟨2, 19, 20, [], 0⟩]
theorem kQuote : unqL kText 2 [] = ([97], 4, 0) := by
  rw [unqL, dif_pos (by decide), if_neg (by decide), if_neg (by decide), if_neg (by decide), if_neg (by decide), if_pos (by decide)]
  rw [show 2 + (decL (kText.drop 2)).2 = 3 from by decide, unqL_quote _ (by decide) (by decide)]
  rfl
theorem kLit : nextT kText 1 = ⟨11, 1, 4, [97], 0⟩ := by
  have e : litT kText 1 = ⟨11, 1, 4, [97], 0⟩ := by
    unfold litT
    rw [show 1 + 1 = 2 from rfl, kQuote, if_pos rfl]
    rfl
  unfold nextT
  rw [if_neg (by decide), if_pos (by decide), e]
theorem allY_known : allY kText = kToks := by
  unfold allY kToks
  rw [show behL kText 0 cBl = 0 from by decide, show kText.length + 1 = 21 from by decide]
  rw [restY_step (f := 20) (q := 1) (t := ⟨1, 0, 1, [], 0⟩) (by decide) (by kernel_rfl) rfl (by decide)]
  rw [restY_step (f := 19) (q := 4) (t := ⟨11, 1, 4, [97], 0⟩) (by decide) kLit rfl (by decide)]
  rw [restY_step (f := 18) (q := 6) (t := ⟨5, 4, 5, [], 0⟩) (by decide) (by kernel_rfl) rfl (by decide)]
  rw [restY_step (f := 17) (q := 7) (t := ⟨3, 6, 7, [], 0⟩) (by decide) (by kernel_rfl) rfl (by decide)]
  rw [restY_step (f := 16) (q := 8) (t := ⟨10, 7, 8, [49], 0⟩) (by decide) (by kernel_rfl) rfl (by decide)]
  rw [restY_step (f := 15) (q := 10) (t := ⟨6, 8, 9, [], 0⟩) (by decide) (by kernel_rfl) rfl (by decide)]
  rw [restY_step (f := 14) (q := 12) (t := ⟨10, 10, 12, [48], 0⟩) (by decide) (by kernel_rfl) rfl (by decide)]
  rw [restY_step (f := 13) (q := 14) (t := ⟨6, 12, 13, [], 0⟩) (by decide) (by kernel_rfl) rfl (by decide)]
  rw [restY_step (f := 12) (q := 18) (t := ⟨7, 14, 18, [], 0⟩) (by decide) (by kernel_rfl) rfl (by decide)]
  rw [restY_step (f := 11) (q := 19) (t := ⟨4, 18, 19, [], 0⟩) (by decide) (by kernel_rfl) rfl (by decide)]
  rw [restY_step (f := 10) (q := 20) (t := ⟨2, 19, 20, [], 0⟩) (by decide) (by kernel_rfl) rfl (by decide)]
  rw [restY_end (f := 9) (by decide)]
theorem allY_bad0 : allY [116, 114, 117, 101, 102, 97, 108, 115, 101] = [] ++ [⟨0, 0, 0, [], 41⟩] := by
  unfold allY
  rw [show behL [116, 114, 117, 101, 102, 97, 108, 115, 101] 0 cBl = 0 from by decide, show ([116, 114, 117, 101, 102, 97, 108, 115, 101] : List UInt8).length + 1 = 10 from rfl]
  rw [restY_bad (f := 9) (t := ⟨0, 0, 0, [], 41⟩) (by decide) (by kernel_rfl) (by decide)]
  rfl
theorem allY_bad1 : allY [91, 49, 46, 53, 93] = [⟨3, 0, 1, [], 0⟩] ++ [⟨0, 1, 0, [], 42⟩] := by
  unfold allY
  rw [show behL [91, 49, 46, 53, 93] 0 cBl = 0 from by decide, show ([91, 49, 46, 53, 93] : List UInt8).length + 1 = 6 from rfl]
  rw [restY_step (f := 5) (q := 1) (t := ⟨3, 0, 1, [], 0⟩) (by decide) (by kernel_rfl) rfl (by decide)]
  rw [restY_bad (f := 4) (t := ⟨0, 1, 0, [], 42⟩) (by decide) (by kernel_rfl) (by decide)]
  rfl
theorem allY_bad2 : allY [49, 50, 45, 51] = [] ++ [⟨0, 0, 0, [], 42⟩] := by
  unfold allY
  rw [show behL [49, 50, 45, 51] 0 cBl = 0 from by decide, show ([49, 50, 45, 51] : List UInt8).length + 1 = 5 from rfl]
  rw [restY_bad (f := 4) (t := ⟨0, 0, 0, [], 42⟩) (by decide) (by kernel_rfl) (by decide)]
  rfl
theorem allY_bad3 : allY [39, 97, 39] = [] ++ [⟨0, 0, 0, [], 40⟩] := by
  unfold allY
  rw [show behL [39, 97, 39] 0 cBl = 0 from by decide, show ([39, 97, 39] : List UInt8).length + 1 = 4 from rfl]
  rw [restY_bad (f := 3) (t := ⟨0, 0, 0, [], 40⟩) (by decide) (by kernel_rfl) (by decide)]
  rfl
theorem allY_bad4 : allY [43, 49] = [] ++ [⟨0, 0, 0, [], 40⟩] := by
  unfold allY
  rw [show behL [43, 49] 0 cBl = 0 from by decide, show ([43, 49] : List UInt8).length + 1 = 3 from rfl]
  rw [restY_bad (f := 2) (t := ⟨0, 0, 0, [], 40⟩) (by decide) (by kernel_rfl) (by decide)]
  rfl

/-- tokens in a row -/
def TRow (w : World) (so : Option Addr) (l : List Tok) : Prop := ∀ i, (h : i < l.length) → ∃ g off, so = some ⟨g, off, none⟩ ∧ g < w.heap.size ∧ w.cell? ⟨g, off + i * 4, none⟩ = some (.int .i64 (l[i].kind : Int)) ∧ w.cell? ⟨g, off + i * 4 + 1, none⟩ = some (.int .i64 (l[i].at_ : Int)) ∧ w.cell? ⟨g, off + i * 4 + 2, none⟩ = some (.int .i64 (l[i].fin : Int)) ∧ w.cell? ⟨g, off + i * 4 + 3, none⟩ = some (.string ⟨l[i].text.toArray⟩)
theorem TRow.keep {w w' : World} {so : Option Addr} {l : List Tok} (h : TRow w so l) (hb : Below w.heap.size w w') : TRow w' so l := fun i hi => by
  obtain ⟨g, off, e, hg, a0, a1, a2, a3⟩ := h i hi
  exact ⟨g, off, e, Nat.lt_of_lt_of_le hg hb.size, (hb.cell (p := ⟨_, _, _⟩) hg).trans a0, (hb.cell (p := ⟨_, _, _⟩) hg).trans a1, (hb.cell (p := ⟨_, _, _⟩) hg).trans a2, (hb.cell (p := ⟨_, _, _⟩) hg).trans a3⟩
end Go.Proofs.YtdmkfdaddacdhaaGreatDoor
namespace Go.Proofs.YtdmkfdaddacdhaaGreatDoor
open Go.RowKit Go.Shelf
set_option linter.unusedVariables false
set_option linter.unusedSimpArgs false

def tokC (t : Tok) (j : Nat) : Value := if j = 0 then .int .i64 (t.kind : Int) else if j = 1 then .int .i64 (t.at_ : Int) else if j = 2 then .int .i64 (t.fin : Int) else .string ⟨t.text.toArray⟩
theorem flT_get (l : List Tok) : ∀ (i j : Nat) (h : i < l.length), j < 4 → (flT l)[i * 4 + j]? = some (tokC l[i] j) := by
  induction l with
  | nil => intro i j h; exact absurd h (Nat.not_lt_zero _)
  | cons t l ih =>
    intro i j h hj
    have e : flT (t :: l) = [.int .i64 (t.kind : Int), .int .i64 (t.at_ : Int), .int .i64 (t.fin : Int), .string ⟨t.text.toArray⟩] ++ flT l := rfl
    rw [e]
    cases i with
    | zero =>
      rw [List.getElem?_append_left (by simp; omega)]
      have : j = 0 ∨ j = 1 ∨ j = 2 ∨ j = 3 := by omega
      rcases this with rfl | rfl | rfl | rfl <;> rfl
    | succ i =>
      rw [List.getElem?_append_right (by simp; omega)]
      have e2 : (i + 1) * 4 + j - [Value.int .i64 (t.kind : Int), .int .i64 (t.at_ : Int), .int .i64 (t.fin : Int), .string ⟨t.text.toArray⟩].length = i * 4 + j := by simp; omega
      rw [e2, ih i j (by simpa using h) hj]
      rfl
theorem trow_block {w : World} {g : Nat} {cur : Array Value} {t : TypeId} {l : List Tok} (h : w.heap[g]? = some (.cells cur t (0, 0))) (hc : cur.toList.take (l.length * 4) = flT l) : TRow w (some ⟨g, 0, none⟩) l := fun i hi => by
  have hv : ∀ j, j < 4 → w.cell? ⟨g, 0 + i * 4 + j, none⟩ = some (tokC l[i] j) := fun j hj => by
    rw [cell_of_row _ _ _ _ _ _ h, ← Array.getElem?_toList, Nat.zero_add, ← flT_get l i j hi hj, ← hc, List.getElem?_take_of_lt (by omega)]
  exact ⟨g, 0, rfl, (Array.getElem?_eq_some_iff.1 h).1, hv 0 (by decide), hv 1 (by decide), hv 2 (by decide), hv 3 (by decide)⟩
theorem trow_own {w : World} {base : Nat} {so : Option Addr} {sc : Nat} {l : List Tok} (h : w.ownsRow base 42 4 (.slice so l.length sc) l.length (flT l)) : TRow w so l ∧ l.length ≤ sc := by
  rcases h.2 with ⟨e, h0⟩ | ⟨g, cap, cur, e, h1, h2, h3, h4, h5, h6⟩
  · exact ⟨fun i hi => by omega, by omega⟩
  · simp only [Value.slice.injEq] at e
    obtain ⟨rfl, _, rfl⟩ := e
    exact ⟨trow_block h2 h6, h3⟩
end Go.Proofs.YtdmkfdaddacdhaaGreatDoor
