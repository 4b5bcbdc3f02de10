import Derived.Test.YtcadknhedfnaoaaGreatDoorM11
import Derived.Test.YtcadknhedfnaoaaGreatDoorM15
namespace Go.Proofs.YtcadknhedfnaoaaGreatDoor
open Go.RowKit
set_option linter.unusedVariables false
set_option linter.unusedSimpArgs false

theorem encodeRune_rn (r : Int) : Lib.encodeRune r = enc (rn r) := by
  cases hv : Lib.validRune r with
  | true =>
    have hv' : decide ((0 ≤ r ∧ r < 0xD800) ∨ (0xDFFF < r ∧ r ≤ 0x10FFFF)) = true := hv
    have h := of_decide_eq_true hv'
    have e : rn r = r.toNat := by unfold rn; rw [hv]; rfl
    have := encodeRune_enc (rn r) (rn_isR r)
    rw [show ((rn r : Nat) : Int) = r by rw [e]; omega] at this
    exact this
  | false =>
    have hv' : decide ((0 ≤ r ∧ r < 0xD800) ∨ (0xDFFF < r ∧ r ≤ 0x10FFFF)) = false := hv
    have h := of_decide_eq_false hv'
    have e : rn r = 65533 := by unfold rn; rw [hv]; rfl
    rw [e, enc_err]
    unfold Lib.encodeRune Lib.encodeRuneZ
    rw [if_neg (by omega), if_neg (by omega), if_neg (by omega), if_neg (by omega)]
    rfl

theorem dec_quote {l : List UInt8} (h : l ≠ []) (e : (decL l).1 = 34) : ∃ post, l = 34 :: post := by
  rcases decL_cases l h with ⟨n, post, hn, rfl⟩ | e2
  · rw [dec_enc n hn post] at e
    have e' : n = 34 := e
    subst e'
    exact ⟨post, rfl⟩
  · rw [e2] at e; cases e

/-- while any text is read as a literal -/
structure AnySt (B k0 : Nat) (w wr : World) (v : Value) (n : Nat) (T : ByteArray) (pos : Nat) : Prop where
  iter : wr.heap[k0]? = some (.stringIter T pos)
  below : Below B w wr
  own : ∃ done, (∀ z ∈ done, isR z) ∧ (txt done).length = n ∧ wr.ownsRow B 5 1 v n (Lib.byteCells (txt done))

theorem any_rune {B k0 n q : Nat} {r : Int} {w W : World} {v : Value} {T : ByteArray} {done : List Nat} (hi : W.heap[k0]? = some (.stringIter T q)) (hb : Below B w W) (hB : B ≤ W.heap.size) (hR : ∀ z ∈ done, isR z) (hn : (txt done).length = n) (hown : W.ownsRow B 5 1 v n (Lib.byteCells (txt done))) (hr0 : -2147483648 ≤ r) (hr1 : r ≤ 2147483647) (hlim : n ≤ 4398046511104) :
    Calls Tryz.prog 92 #[v, .int .i32 r] W fun e w' => ∃ ao m cap, e = .returned (.slice ao m cap) ∧ m ≤ n + 4 ∧ Hid (AnySt B k0 w w' (.slice ao m cap) m T q) := by
  have HA := Tryz.utf8_AppendRune_plain B v n (Lib.byteCells (txt done)) r hr0 hr1 W hown (by omega) hB
  have hcells : Lib.runeCells r = Lib.byteCells (enc (rn r)) := by rw [← Lib.byteCells_encodeRune, encodeRune_rn r]
  have hlen : (Lib.byteCells (enc (rn r))).length = (enc (rn r)).length := by simp [Lib.byteCells]
  rw [hcells, hlen] at HA
  refine HA.mono ?_
  rintro e w1 ⟨v1, rfl, hown1, o, hg1⟩
  obtain ⟨so, sc, rfl⟩ := own_shape hown1
  refine ⟨so, _, sc, rfl, by have := (enc_len (rn r)).2; omega, ⟨iter_kept hown hi (grown_after hg1), below_app hown hB hb hg1, done ++ [rn r], ?_, ?_, ?_⟩⟩
  · intro z hz
    rcases List.mem_append.1 hz with h | h
    · exact hR z h
    · have : z = rn r := by simpa using h
      rw [this]; exact rn_isR r
  · rw [txt_snoc, List.length_append, hn]
  · rw [txt_snoc, Lib.byteCells_append]; exact hown1

/-- what Unquote may answer -/
def UnqR (s : ByteArray) (w w' : World) (e : Ending) : Prop := ∃ (t : ByteArray) (p c : Int), e = .returned (.tuple #[.string t, .int .i64 p, .int .i64 c]) ∧ Below w.heap.size w w' ∧ ((c ≠ 0 ∧ t = .empty) ∨ (c = 0 ∧ ∃ zs, (∀ z ∈ zs, isR z) ∧ t = ⟨(txt zs).toArray⟩ ∧ (txt zs).length ≤ 4 * s.size ∧ ∃ (k : Nat) (h : k < s.size), p = (k : Int) + 1 ∧ s[k]'h = 34))
end Go.Proofs.YtcadknhedfnaoaaGreatDoor
namespace Go.Proofs.YtcadknhedfnaoaaGreatDoor
open Go.RowKit
set_option linter.unusedVariables false
set_option linter.unusedSimpArgs false

/-- while a text is read as a literal, exactly -/
structure ExSt (B k0 : Nat) (w wr : World) (v : Value) (n : Nat) (T : ByteArray) (pos : Nat) (done : List Nat) : Prop where
  iter : wr.heap[k0]? = some (.stringIter T pos)
  below : Below B w wr
  isr : ∀ z ∈ done, isR z
  len : (txt done).length = n
  own : wr.ownsRow B 5 1 v n (Lib.byteCells (txt done))

theorem ex_rune {B k0 n q r : Nat} {w W : World} {v : Value} {T : ByteArray} {done : List Nat} (h : ExSt B k0 w W v n T q done) (hB : B ≤ W.heap.size) (hr : isR r) (hlim : n ≤ 4398046511104) :
    Calls Tryz.prog 92 #[v, .int .i32 (r : Int)] W fun e w' => ∃ ao m cap, e = .returned (.slice ao m cap) ∧ m ≤ n + 4 ∧ Hid (ExSt B k0 w w' (.slice ao m cap) m T q (done ++ [r])) := by
  have hr1 : (r : Int) ≤ 2147483647 := by unfold isR at hr; omega
  have HA := Tryz.utf8_AppendRune_plain B v n (Lib.byteCells (txt done)) (r : Int) (by omega) hr1 W h.own (by omega) hB
  have hcells : Lib.runeCells (r : Int) = Lib.byteCells (enc r) := by rw [← Lib.byteCells_encodeRune, encodeRune_rn, rn_nat hr]
  have hlen : (Lib.byteCells (enc r)).length = (enc r).length := by simp [Lib.byteCells]
  rw [hcells, hlen] at HA
  refine HA.mono ?_
  rintro e w1 ⟨v1, rfl, hown1, o, hg1⟩
  obtain ⟨so, sc, rfl⟩ := own_shape hown1
  refine ⟨so, _, sc, rfl, by have := (enc_len r).2; omega, ⟨iter_kept h.own h.iter (grown_after hg1), below_app h.own hB h.below hg1, ?_, ?_, ?_⟩⟩
  · intro z hz
    rcases List.mem_append.1 hz with h2 | h2
    · exact h.isr z h2
    · have : z = r := by simpa using h2
      rw [this]; exact hr
  · rw [txt_snoc, List.length_append, h.len]
  · rw [txt_snoc, Lib.byteCells_append]; exact hown1

theorem ExSt.keep {B k0 n pos : Nat} {w W u : World} {v : Value} {T : ByteArray} {done : List Nat} (h : ExSt B k0 w W v n T pos done) (hB : B ≤ W.heap.size) (hu : Below W.heap.size W u) : ExSt B k0 w u v n T pos done :=
  ⟨by rw [hu.block k0 (Array.getElem?_eq_some_iff.1 h.iter).1]; exact h.iter, h.below.trans (hu.mono hB), h.isr, h.len, own_below h.own hu⟩

/-- where the reading stands: at place a, with what has been taken up to p -/
structure Look (l : List UInt8) (R : List Nat × Nat × Nat) (a : Nat) (nx : Int) (done : List Nat) : Prop where
  at_ : ∃ p, a ≤ p ∧ p ≤ l.length ∧ (nx ≤ (a : Int) → p = a) ∧ ((a : Int) < nx → (p : Int) = nx) ∧ unqL l p done = R ∧ ∀ j, a ≤ j → j < p → (l.getD j 0).toNat < 128

/-- within an escape -/
theorem Look.skip {l : List UInt8} {R : List Nat × Nat × Nat} {a : Nat} {nx : Int} {done : List Nat} (h : Look l R a nx done) (ha : (a : Int) < nx) : Look l R (a + (decL (l.drop a)).2) nx done := by
  obtain ⟨p, h1, h2, h3, h4, h5, h6⟩ := h.at_
  have hp := h4 ha
  have hd := dec_asciiD (l := l) (k := a) (by omega) (h6 a (Nat.le_refl _) (by omega))
  rw [hd]
  exact ⟨p, by show a + 1 ≤ p; omega, h2, fun g => by show p = a + 1; have : nx ≤ ((a + 1 : Nat) : Int) := g; omega, fun _ => hp, h5, fun j hj1 hj2 => h6 j (by have : a + 1 ≤ j := hj1; omega) hj2⟩
theorem Look.here {l : List UInt8} {R : List Nat × Nat × Nat} {a : Nat} {nx : Int} {done : List Nat} (h : Look l R a nx done) (ha : nx ≤ (a : Int)) : unqL l a done = R := by
  obtain ⟨p, h1, h2, h3, h4, h5, h6⟩ := h.at_
  rw [h3 ha] at h5; exact h5
theorem Look.rune {l : List UInt8} {R : List Nat × Nat × Nat} {a : Nat} {nx : Int} {done : List Nat} (h : unqL l a done = R) (ha : nx ≤ (a : Int)) (hlt : a < l.length) (hle : a + (decL (l.drop a)).2 ≤ l.length) (h1 : ¬ (decL (l.drop a)).1 = 34) (h2 : ¬ (decL (l.drop a)).1 < 32) (h3 : strayL (l.drop a) = false) (h4 : ¬ (decL (l.drop a)).1 = 92) : Look l R (a + (decL (l.drop a)).2) nx (done ++ [(decL (l.drop a)).1]) :=
  ⟨a + (decL (l.drop a)).2, Nat.le_refl _, hle, fun _ => rfl, fun g => by omega, by rw [← unqL_rune done hlt h1 h2 h3 h4]; exact h, fun j hj1 hj2 => by omega⟩
theorem Look.esc {l : List UInt8} {R : List Nat × Nat × Nat} {a : Nat} {done : List Nat} (h : unqL l a done = R) (hlt : a < l.length) (h3 : strayL (l.drop a) = false) (h4 : (decL (l.drop a)).1 = 92) (h5 : (escL l a).2.2 = 0) : Look l R (a + (decL (l.drop a)).2) ((escL l a).2.1 : Int) (done ++ [(escL l a).1]) := by
  obtain ⟨g1, g2, g3, g4⟩ := escL_ok h5
  have hd := dec_asciiD (l := l) (k := a) hlt (g4 a (Nat.le_refl _) g1)
  rw [unqL_esc done hlt h3 h4, if_pos h5, if_pos g1] at h
  rw [hd]
  exact ⟨(escL l a).2.1, g1, g2, fun g => by show _ = a + 1; have : ((escL l a).2.1 : Int) ≤ ((a + 1 : Nat) : Int) := g; omega, fun _ => rfl, h, fun j hj1 hj2 => g4 j (by have : a + 1 ≤ j := hj1; omega) hj2⟩
theorem esc_fault {l : List UInt8} {R : List Nat × Nat × Nat} {a : Nat} {done : List Nat} (h : unqL l a done = R) (hlt : a < l.length) (h3 : strayL (l.drop a) = false) (h4 : (decL (l.drop a)).1 = 92) (h5 : ¬ (escL l a).2.2 = 0) : R = ([], (escL l a).2.1, (escL l a).2.2) := by
  rw [unqL_esc done hlt h3 h4, if_neg h5] at h; exact h.symm

/-- what Unquote answers, from behind the quote -/
def UnqX (R : List Nat × Nat × Nat) (w w' : World) (e : Ending) : Prop := e = .returned (.tuple #[.string ⟨(txt R.1).toArray⟩, .int .i64 (R.2.1 : Int), .int .i64 (R.2.2 : Int)]) ∧ Below w.heap.size w w'
theorem unqX_mk {R : List Nat × Nat × Nat} {w w' : World} {A : List Nat} {p c : Nat} {t : ByteArray} {q z : Int} (h : R = (A, p, c)) (ht : t = ⟨(txt A).toArray⟩) (hq : q = (p : Int)) (hz : z = (c : Int)) (hb : Below w.heap.size w w') : UnqX R w w' (.returned (.tuple #[.string t, .int .i64 q, .int .i64 z])) := by
  subst h ht hq hz
  exact ⟨rfl, hb⟩
end Go.Proofs.YtcadknhedfnaoaaGreatDoor
