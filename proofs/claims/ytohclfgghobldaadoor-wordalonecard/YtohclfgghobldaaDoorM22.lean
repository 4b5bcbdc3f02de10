import Derived.Test.YtohclfgghobldaaDoorM20
import Derived.Test.YtohclfgghobldaaDoorM21
import Derived.WalkMore
import Derived.Deep.LoopGhost
namespace Go.Proofs.YtohclfgghobldaaDoor
open Go.RowKit Go.Shelf
set_option linter.unusedVariables false
set_option linter.unusedSimpArgs false
attribute [local go_sem] Oper.semAt_some

def flT (l : List Tok) : List Value := l.flatMap fun t => [.int .i64 (t.kind : Int), .int .i64 (t.at_ : Int), .int .i64 (t.fin : Int), .string ⟨t.text.toArray⟩]
theorem flT_snoc (l : List Tok) (t : Tok) : flT (l ++ [t]) = flT l ++ [.int .i64 (t.kind : Int), .int .i64 (t.at_ : Int), .int .i64 (t.fin : Int), .string ⟨t.text.toArray⟩] := by simp [flT]
theorem flT_len (l : List Tok) : (flT l).length = l.length * 4 := by
  induction l with
  | nil => rfl
  | cons t l ih => rw [show flT (t :: l) = [.int .i64 (t.kind : Int), .int .i64 (t.at_ : Int), .int .i64 (t.fin : Int), .string ⟨t.text.toArray⟩] ++ flT l from rfl, List.length_append, ih, List.length_cons]; simp; omega

theorem Tryd.infoTok : (Tryd.prog.info? 23).map (fun i => (i.zero, i.size, i.bytes)) = some (some (.agg #[.int .i64 0, .int .i64 0, .int .i64 0, .string ⟨#[]⟩]), 4, 40) := by kernel_rfl

theorem new4 {w : World} {g : Nat} {t : TypeId} {y0 y1 y2 y3 : Value} (h : w.heap[g]? = some (.cells #[y0, y1, y2, y3] t (0, 0))) : ∀ (j : Nat) u, [y0, y1, y2, y3][j]? = some u → w.cell? ((⟨g, 0, none⟩ : Addr).add j) = some u := World.news_of_block (cs := #[y0, y1, y2, y3]) h
theorem box_set1 {W : World} {B : Nat} {t : TypeId} {y : Value} (v : Value) (h : W.heap[B]? = some (.cells #[y] t (0, 0))) : (W.setCell ⟨B, 0, none⟩ v).heap[B]? = some (.cells #[v] t (0, 0)) := by
  show (W.heap.modify B _)[B]? = _
  rw [Array.getElem?_modify, if_pos rfl, h]; rfl

theorem own_shapeT {w : World} {base : Nat} {e : TypeId} {size : Nat} {v : Value} {n : Nat} {xs : List Value} (h : w.ownsRow base e size v n xs) : ∃ so sc, v = .slice so n sc := by
  rcases h.2 with ⟨e, h0⟩ | ⟨g, cap, cur, e, _⟩
  · exact ⟨none, 0, by rw [e, h0]⟩
  · exact ⟨_, _, e⟩
theorem own_blkT {w w' : World} {base : Nat} {e : TypeId} {size : Nat} {v : Value} {n : Nat} {xs : List Value} (h : w.ownsRow base e size v n xs) (hb : ∀ g, base ≤ g → w'.heap[g]? = w.heap[g]?) {base' : Nat} (hle : base' ≤ base) : w'.ownsRow base' e size v n xs := by
  refine ⟨h.1, h.2.imp id ?_⟩
  rintro ⟨g, cap, cur, rfl, e2, e3, rest⟩
  exact ⟨g, cap, cur, rfl, Nat.le_trans hle e2, (hb g e2).trans e3, rest⟩
end Go.Proofs.YtohclfgghobldaaDoor
namespace Go.Proofs.YtohclfgghobldaaDoor
open Go.RowKit Go.Shelf
set_option linter.unusedVariables false
set_option linter.unusedSimpArgs false
attribute [local go_sem] Oper.semAt_some

theorem restY_step {l : List UInt8} {f p q : Nat} {t : Tok} (hp : p < l.length) (ht : nextT l p = t) (he : t.err = 0) (hq : behL l t.fin cBl = q) : restY l (f + 1) p = t :: restY l f q := by
  rw [restY, if_pos hp, ht, if_pos he, hq]
theorem restY_end {l : List UInt8} {f p : Nat} (hp : ¬ p < l.length) : restY l (f + 1) p = [] := by rw [restY, if_neg hp]
theorem restY_bad {l : List UInt8} {f p : Nat} {t : Tok} (hp : p < l.length) (ht : nextT l p = t) (he : ¬ t.err = 0) : restY l (f + 1) p = [t] := by
  rw [restY, if_pos hp, ht, if_neg he]
def kText : List UInt8 := [123, 34, 97, 34, 58, 32, 91, 49, 44, 32, 45, 48, 44, 32, 110, 117, 108, 108, 93, 125]
def kToks : List Tok := [⟨1, 0, 1, [], 0⟩, ⟨11, 1, 4, [97], 0⟩, ⟨5, 4, 5, [], 0⟩, ⟨3, 6, 7, [], 0⟩, ⟨10, 7, 8, [49], 0⟩, ⟨6, 8, 9, [], 0⟩, ⟨10, 10, 12, [48], 0⟩, ⟨6, 12, 13, [], 0⟩, ⟨7, 14, 18, [], 0⟩, ⟨4, 18, 19, [], 0⟩, ⟨2, 19, 20, [], 0⟩]
theorem kQuote : unqL kText 2 [] = ([97], 4, 0) := by
  rw [unqL, dif_pos (by decide), if_neg (by decide), if_neg (by decide), if_neg (by decide), if_neg (by decide), if_pos (by decide)]
  rw [show 2 + (decL (kText.drop 2)).2 = 3 from by decide, unqL_quote _ (by decide) (by decide)]
  rfl
theorem kLit : nextT kText 1 = ⟨11, 1, 4, [97], 0⟩ := by
  have e : litT kText 1 = ⟨11, 1, 4, [97], 0⟩ := by
    unfold litT
    rw [show 1 + 1 = 2 from rfl, kQuote, if_pos rfl]
    rfl
  unfold nextT
  rw [if_neg (by decide), if_pos (by decide), e]
theorem allY_known : allY kText = kToks := by
  unfold allY kToks
  rw [show behL kText 0 cBl = 0 from by decide, show kText.length + 1 = 21 from by decide]
  rw [restY_step (f := 20) (q := 1) (t := ⟨1, 0, 1, [], 0⟩) (by decide) (by kernel_rfl) rfl (by decide)]
  rw [restY_step (f := 19) (q := 4) (t := ⟨11, 1, 4, [97], 0⟩) (by decide) kLit rfl (by decide)]
  rw [restY_step (f := 18) (q := 6) (t := ⟨5, 4, 5, [], 0⟩) (by decide) (by kernel_rfl) rfl (by decide)]
  rw [restY_step (f := 17) (q := 7) (t := ⟨3, 6, 7, [], 0⟩) (by decide) (by kernel_rfl) rfl (by decide)]
  rw [restY_step (f := 16) (q := 8) (t := ⟨10, 7, 8, [49], 0⟩) (by decide) (by kernel_rfl) rfl (by decide)]
  rw [restY_step (f := 15) (q := 10) (t := ⟨6, 8, 9, [], 0⟩) (by decide) (by kernel_rfl) rfl (by decide)]
  rw [restY_step (f := 14) (q := 12) (t := ⟨10, 10, 12, [48], 0⟩) (by decide) (by kernel_rfl) rfl (by decide)]
  rw [restY_step (f := 13) (q := 14) (t := ⟨6, 12, 13, [], 0⟩) (by decide) (by kernel_rfl) rfl (by decide)]
  rw [restY_step (f := 12) (q := 18) (t := ⟨7, 14, 18, [], 0⟩) (by decide) (by kernel_rfl) rfl (by decide)]
  rw [restY_step (f := 11) (q := 19) (t := ⟨4, 18, 19, [], 0⟩) (by decide) (by kernel_rfl) rfl (by decide)]
  rw [restY_step (f := 10) (q := 20) (t := ⟨2, 19, 20, [], 0⟩) (by decide) (by kernel_rfl) rfl (by decide)]
  rw [restY_end (f := 9) (by decide)]
theorem allY_bad0 : allY [116, 114, 117, 101, 102, 97, 108, 115, 101] = [] ++ [⟨0, 0, 0, [], 41⟩] := by
  unfold allY
  rw [show behL [116, 114, 117, 101, 102, 97, 108, 115, 101] 0 cBl = 0 from by decide, show ([116, 114, 117, 101, 102, 97, 108, 115, 101] : List UInt8).length + 1 = 10 from rfl]
  rw [restY_bad (f := 9) (t := ⟨0, 0, 0, [], 41⟩) (by decide) (by kernel_rfl) (by decide)]
  rfl
theorem allY_bad1 : allY [91, 49, 46, 53, 93] = [⟨3, 0, 1, [], 0⟩] ++ [⟨0, 1, 0, [], 42⟩] := by
  unfold allY
  rw [show behL [91, 49, 46, 53, 93] 0 cBl = 0 from by decide, show ([91, 49, 46, 53, 93] : List UInt8).length + 1 = 6 from rfl]
  rw [restY_step (f := 5) (q := 1) (t := ⟨3, 0, 1, [], 0⟩) (by decide) (by kernel_rfl) rfl (by decide)]
  rw [restY_bad (f := 4) (t := ⟨0, 1, 0, [], 42⟩) (by decide) (by kernel_rfl) (by decide)]
  rfl
theorem allY_bad2 : allY [49, 50, 45, 51] = [] ++ [⟨0, 0, 0, [], 42⟩] := by
  unfold allY
  rw [show behL [49, 50, 45, 51] 0 cBl = 0 from by decide, show ([49, 50, 45, 51] : List UInt8).length + 1 = 5 from rfl]
  rw [restY_bad (f := 4) (t := ⟨0, 0, 0, [], 42⟩) (by decide) (by kernel_rfl) (by decide)]
  rfl
theorem allY_bad3 : allY [39, 97, 39] = [] ++ [⟨0, 0, 0, [], 40⟩] := by
  unfold allY
  rw [show behL [39, 97, 39] 0 cBl = 0 from by decide, show ([39, 97, 39] : List UInt8).length + 1 = 4 from rfl]
  rw [restY_bad (f := 3) (t := ⟨0, 0, 0, [], 40⟩) (by decide) (by kernel_rfl) (by decide)]
  rfl
theorem allY_bad4 : allY [43, 49] = [] ++ [⟨0, 0, 0, [], 40⟩] := by
  unfold allY
  rw [show behL [43, 49] 0 cBl = 0 from by decide, show ([43, 49] : List UInt8).length + 1 = 3 from rfl]
  rw [restY_bad (f := 2) (t := ⟨0, 0, 0, [], 40⟩) (by decide) (by kernel_rfl) (by decide)]
  rfl

set_option maxRecDepth 100000 in
set_option maxHeartbeats 1600000 in
theorem w_SameToken (t : Tok) (w : World) : Calls Tryd.prog 14 #[tokV t, tokV t] w fun e w' => e = .returned (.bool true) ∧ Below w.heap.size w w' := by
  obtain ⟨kd, pa, fi, tx, er⟩ := t
  unfold tokV
  dsimp only
  have h1 : (((kd : Nat) : Int) == (kd : Int)) = true := by simp
  have h2 : (((pa : Nat) : Int) == (pa : Int)) = true := by simp
  have h3 : (((fi : Nat) : Int) == (fi : Int)) = true := by simp
  have h4 : ((⟨tx.toArray⟩ : ByteArray).toList == (⟨tx.toArray⟩ : ByteArray).toList) = true := by simp
  have HB := Hid.mk ((below1 w (.cells #[.int .i64 (kd : Int), .int .i64 (pa : Int), .int .i64 (fi : Int), .string ⟨tx.toArray⟩] 23)).alloc (by simp) (.cells #[.int .i64 (kd : Int), .int .i64 (pa : Int), .int .i64 (fi : Int), .string ⟨tx.toArray⟩] 23))
  generalize (⟨tx.toArray⟩ : ByteArray) = tb at *
  go_enter Tryd.func14, Tryd.ntmps14
  go_wp2_with fail
  go_ret
  exact ⟨rfl, HB.out⟩

/-- tokens in a row -/
def TRow (w : World) (so : Option Addr) (l : List Tok) : Prop := ∀ i, (h : i < l.length) → ∃ g off, so = some ⟨g, off, none⟩ ∧ g < w.heap.size ∧ w.cell? ⟨g, off + i * 4, none⟩ = some (.int .i64 (l[i].kind : Int)) ∧ w.cell? ⟨g, off + i * 4 + 1, none⟩ = some (.int .i64 (l[i].at_ : Int)) ∧ w.cell? ⟨g, off + i * 4 + 2, none⟩ = some (.int .i64 (l[i].fin : Int)) ∧ w.cell? ⟨g, off + i * 4 + 3, none⟩ = some (.string ⟨l[i].text.toArray⟩)
theorem TRow.keep {w w' : World} {so : Option Addr} {l : List Tok} (h : TRow w so l) (hb : Below w.heap.size w w') : TRow w' so l := fun i hi => by
  obtain ⟨g, off, e, hg, a0, a1, a2, a3⟩ := h i hi
  exact ⟨g, off, e, Nat.lt_of_lt_of_le hg hb.size, (hb.cell (p := ⟨_, _, _⟩) hg).trans a0, (hb.cell (p := ⟨_, _, _⟩) hg).trans a1, (hb.cell (p := ⟨_, _, _⟩) hg).trans a2, (hb.cell (p := ⟨_, _, _⟩) hg).trans a3⟩

set_option maxRecDepth 100000 in
set_option maxHeartbeats 3200000 in
theorem w_SameTokens (l : List Tok) (so bo : Option Addr) (sc bc : Nat) (w : World) (hl : l.length ≤ 4294967296) (h1 : TRow w so l) (h2 : TRow w bo l) (hs : l.length ≤ sc) (hb : l.length ≤ bc) :
    Calls Tryd.prog 10 #[.slice so l.length sc, .slice bo l.length bc] w fun e w' => e = .returned (.bool true) ∧ Below w.heap.size w w' := by
  have H1 := Hid.mk h1
  have H2 := Hid.mk h2
  have HST := Hid.mk w_SameToken
  clear h1 h2
  generalize hN : l.length = N at *
  have HN := Hid.mk hN
  clear hN
  have hq : (((N : Nat) : Int) == (N : Int)) = true := by simp
  refine (callsIn_wide (n := 3)).1 ?_
  refine callsIn_of_wp Tryd.func10 rfl trivial ?_ rfl
  simp only [Tryd.ntmps10, List.size_toArray, List.length_cons, List.length_nil, Nat.reduceAdd, Nat.reduceSub, Array.replicate_succ, Array.replicate_zero, List.push_toArray, List.append_toArray, List.nil_append, List.cons_append]
  gi_wp2_with fail
  gi_loopw [5] (fun i wr => ∃ k : Nat, k ≤ N ∧ i = .int .i64 (k : Int) ∧ Hid (Below w.heap.size w wr)) (fun i _ => N - (intOf i).toNat)
  case atStart => exact ⟨0, Nat.zero_le _, rfl, Below.refl _ _⟩
  case round =>
    obtain ⟨k, hk, rfl, HB⟩ := hrel
    have hmx : Tryd.prog.follows .mixedOrders = true := by kernel_rfl
    by_cases hlt : k < N
    · have hl1 : (k : Int) < (N : Int) := by omega
      have hl0 : (0 : Int) ≤ (k : Int) := by omega
      have hk2 : k < l.length := by rw [HN.out]; exact hlt
      obtain ⟨g, off, rfl, hg, a0, a1, a2, a3⟩ := (H1.out.keep HB.out) k hk2
      obtain ⟨g2, off2, rfl, hg2, b0, b1, b2, b3⟩ := (H2.out.keep HB.out) k hk2
      have HT := Hid.mk (w_SameToken l[k])
      unfold tokV at HT
      generalize l[k] = t at *
      obtain ⟨kd, pa, fi, tx, er⟩ := t
      dsimp only at HT a0 a1 a2 a3 b0 b1 b2 b3
      have HD : Hid (Below w.heap.size w wr.drew) := HB.out.drew
      gi_wp2_with fail
      gi_region_with_o (refine ⟨trivial, ?_⟩; gi_at_call 14; refine (callsIn_wide.2 (HT.out _)).mono ?_; rintro e w' ⟨rfl, hw⟩)
      all_goals
        have HW : Hid (Below w.heap.size w w') := HD.out.trans (hw.mono HD.out.size)
        clear hw
        gi_wp2_with fail
        go_roundw
        case rel => exact ⟨k + 1, by omega, by go_num, HW⟩
        case measure => simp [intOf]; omega
    · have hl1 : ¬ (k : Int) < (N : Int) := by omega
      gi_wp2_with fail
      go_ret
      exact ⟨rfl, HB.out⟩
end Go.Proofs.YtohclfgghobldaaDoor
namespace Go.Proofs.YtohclfgghobldaaDoor
open Go.RowKit Go.Shelf
set_option linter.unusedVariables false
set_option linter.unusedSimpArgs false

def tokC (t : Tok) (j : Nat) : Value := if j = 0 then .int .i64 (t.kind : Int) else if j = 1 then .int .i64 (t.at_ : Int) else if j = 2 then .int .i64 (t.fin : Int) else .string ⟨t.text.toArray⟩
theorem flT_get (l : List Tok) : ∀ (i j : Nat) (h : i < l.length), j < 4 → (flT l)[i * 4 + j]? = some (tokC l[i] j) := by
  induction l with
  | nil => intro i j h; exact absurd h (Nat.not_lt_zero _)
  | cons t l ih =>
    intro i j h hj
    have e : flT (t :: l) = [.int .i64 (t.kind : Int), .int .i64 (t.at_ : Int), .int .i64 (t.fin : Int), .string ⟨t.text.toArray⟩] ++ flT l := rfl
    rw [e]
    cases i with
    | zero =>
      rw [List.getElem?_append_left (by simp; omega)]
      have : j = 0 ∨ j = 1 ∨ j = 2 ∨ j = 3 := by omega
      rcases this with rfl | rfl | rfl | rfl <;> rfl
    | succ i =>
      rw [List.getElem?_append_right (by simp; omega)]
      have e2 : (i + 1) * 4 + j - [Value.int .i64 (t.kind : Int), .int .i64 (t.at_ : Int), .int .i64 (t.fin : Int), .string ⟨t.text.toArray⟩].length = i * 4 + j := by simp; omega
      rw [e2, ih i j (by simpa using h) hj]
      rfl
theorem trow_block {w : World} {g : Nat} {cur : Array Value} {t : TypeId} {l : List Tok} (h : w.heap[g]? = some (.cells cur t (0, 0))) (hc : cur.toList.take (l.length * 4) = flT l) : TRow w (some ⟨g, 0, none⟩) l := fun i hi => by
  have hv : ∀ j, j < 4 → w.cell? ⟨g, 0 + i * 4 + j, none⟩ = some (tokC l[i] j) := fun j hj => by
    rw [cell_of_row _ _ _ _ _ _ h, ← Array.getElem?_toList, Nat.zero_add, ← flT_get l i j hi hj, ← hc, List.getElem?_take_of_lt (by omega)]
  exact ⟨g, 0, rfl, (Array.getElem?_eq_some_iff.1 h).1, hv 0 (by decide), hv 1 (by decide), hv 2 (by decide), hv 3 (by decide)⟩
theorem trow_own {w : World} {base : Nat} {so : Option Addr} {sc : Nat} {l : List Tok} (h : w.ownsRow base 23 4 (.slice so l.length sc) l.length (flT l)) : TRow w so l ∧ l.length ≤ sc := by
  rcases h.2 with ⟨e, h0⟩ | ⟨g, cap, cur, e, h1, h2, h3, h4, h5, h6⟩
  · exact ⟨fun i hi => by omega, by omega⟩
  · simp only [Value.slice.injEq] at e
    obtain ⟨rfl, _, rfl⟩ := e
    exact ⟨trow_block h2 h6, h3⟩
end Go.Proofs.YtohclfgghobldaaDoor
namespace Go.Proofs.YtohclfgghobldaaDoor
open Go.RowKit Go.Shelf
set_option linter.unusedVariables false
set_option linter.unusedSimpArgs false
attribute [local go_sem] Oper.semAt_some

theorem below_row {wr w1 : World} {base : Nat} {e : TypeId} {size : Nat} {v : Value} {n : Nat} {xs : List Value} (hb : Below wr.heap.size wr w1) (h : wr.ownsRow base e size v n xs) : w1.ownsRow base e size v n xs := by
  refine ⟨h.1, h.2.imp id ?_⟩
  rintro ⟨g, cap, cur, rfl, e2, e3, rest⟩
  exact ⟨g, cap, cur, rfl, e2, heap_lowT hb (Array.getElem?_eq_some_iff.1 e3).1 e3, rest⟩
theorem heapN (w : World) (n : Nat) : (w.drewN n).heap = w.heap := by
  induction n generalizing w with
  | zero => rfl
  | succ n ih => exact (ih _).trans rfl
theorem sizeN (w : World) (n : Nat) : (w.drewN n).heap.size = w.heap.size := by rw [heapN]
theorem cellN (w : World) (n : Nat) (a : Addr) : (w.drewN n).cell? a = w.cell? a := by
  unfold World.cell?; rw [heapN]
theorem belowN {b : Nat} {w w' : World} (h : Below b w w') (n : Nat) : Below b w (w'.drewN n) := by
  induction n generalizing w' with
  | zero => exact h
  | succ n ih => exact (ih h).drew
theorem ownsN {w : World} {base : Nat} {e : TypeId} {size : Nat} {v : Value} {n : Nat} {xs : List Value} (h : w.ownsRow base e size v n xs) (k : Nat) : (w.drewN k).ownsRow base e size v n xs := by
  refine ⟨h.1, h.2.imp id ?_⟩
  rintro ⟨g, cap, cur, rfl, e2, e3, rest⟩
  exact ⟨g, cap, cur, rfl, e2, by rw [heapN]; exact e3, rest⟩
theorem own_ltT {w : World} {base : Nat} {e : TypeId} {size : Nat} {v : Value} {n : Nat} {xs : List Value} (h : w.ownsRow base e size v n xs) : ∀ b, v.ownBlock = some b → b < w.heap.size := by
  intro b hb
  rcases h.2 with ⟨rfl, _⟩ | ⟨g', cap, cur, rfl, e2, e3, _⟩
  · cases hb
  · simp [Value.ownBlock] at hb
    subst hb
    exact (Array.getElem?_eq_some_iff.1 e3).1
theorem own_setT {w : World} {base : Nat} {e : TypeId} {size : Nat} {v : Value} {n : Nat} {xs : List Value} (h : w.ownsRow base e size v n xs) {a : Addr} {u : Value} (hne : v.ownBlock ≠ some a.block) : (w.setCell a u).ownsRow base e size v n xs := by
  refine ⟨h.1, ?_⟩
  rcases h.2 with h | ⟨g', cap, cur, rfl, e2, e3, rest⟩
  · exact .inl h
  · refine .inr ⟨g', cap, cur, rfl, e2, (Below.heap_setCell _ _ _ _ (fun e => hne ?_)).trans e3, rest⟩
    rw [← e]; rfl
end Go.Proofs.YtohclfgghobldaaDoor
