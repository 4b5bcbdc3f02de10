import Derived.Test.YtcadknhedfnaoaaGreatDoorM12
namespace Go.Proofs.YtcadknhedfnaoaaGreatDoor
open Go.RowKit
set_option linter.unusedVariables false
set_option linter.unusedSimpArgs false

theorem encodeRune_rn (r : Int) : Lib.encodeRune r = enc (rn r) := by
  cases hv : Lib.validRune r with
  | true =>
    have hv' : decide ((0 ≤ r ∧ r < 0xD800) ∨ (0xDFFF < r ∧ r ≤ 0x10FFFF)) = true := hv
    have h := of_decide_eq_true hv'
    have e : rn r = r.toNat := by unfold rn; rw [hv]; rfl
    have := encodeRune_enc (rn r) (rn_isR r)
    rw [show ((rn r : Nat) : Int) = r by rw [e]; omega] at this
    exact this
  | false =>
    have hv' : decide ((0 ≤ r ∧ r < 0xD800) ∨ (0xDFFF < r ∧ r ≤ 0x10FFFF)) = false := hv
    have h := of_decide_eq_false hv'
    have e : rn r = 65533 := by unfold rn; rw [hv]; rfl
    rw [e, enc_err]
    unfold Lib.encodeRune Lib.encodeRuneZ
    rw [if_neg (by omega), if_neg (by omega), if_neg (by omega), if_neg (by omega)]
    rfl

theorem dec_quote {l : List UInt8} (h : l ≠ []) (e : (decL l).1 = 34) : ∃ post, l = 34 :: post := by
  rcases decL_cases l h with ⟨n, post, hn, rfl⟩ | e2
  · rw [dec_enc n hn post] at e
    have e' : n = 34 := e
    subst e'
    exact ⟨post, rfl⟩
  · rw [e2] at e; cases e

/-- while any text is read as a literal -/
structure AnySt (B k0 : Nat) (w wr : World) (v : Value) (n : Nat) (T : ByteArray) (pos : Nat) : Prop where
  iter : wr.heap[k0]? = some (.stringIter T pos)
  below : Below B w wr
  own : ∃ done, (∀ z ∈ done, isR z) ∧ (txt done).length = n ∧ wr.ownsRow B 5 1 v n (Lib.byteCells (txt done))

theorem any_rune {B k0 n q : Nat} {r : Int} {w W : World} {v : Value} {T : ByteArray} {done : List Nat} (hi : W.heap[k0]? = some (.stringIter T q)) (hb : Below B w W) (hB : B ≤ W.heap.size) (hR : ∀ z ∈ done, isR z) (hn : (txt done).length = n) (hown : W.ownsRow B 5 1 v n (Lib.byteCells (txt done))) (hr0 : -2147483648 ≤ r) (hr1 : r ≤ 2147483647) (hlim : n ≤ 4398046511104) :
    Calls Tryz.prog 92 #[v, .int .i32 r] W fun e w' => ∃ ao m cap, e = .returned (.slice ao m cap) ∧ m ≤ n + 4 ∧ Hid (AnySt B k0 w w' (.slice ao m cap) m T q) := by
  have HA := Tryz.utf8_AppendRune_plain B v n (Lib.byteCells (txt done)) r hr0 hr1 W hown (by omega) hB
  have hcells : Lib.runeCells r = Lib.byteCells (enc (rn r)) := by rw [← Lib.byteCells_encodeRune, encodeRune_rn r]
  have hlen : (Lib.byteCells (enc (rn r))).length = (enc (rn r)).length := by simp [Lib.byteCells]
  rw [hcells, hlen] at HA
  refine HA.mono ?_
  rintro e w1 ⟨v1, rfl, hown1, o, hg1⟩
  obtain ⟨so, sc, rfl⟩ := own_shape hown1
  refine ⟨so, _, sc, rfl, by have := (enc_len (rn r)).2; omega, ⟨iter_kept hown hi (grown_after hg1), below_app hown hB hb hg1, done ++ [rn r], ?_, ?_, ?_⟩⟩
  · intro z hz
    rcases List.mem_append.1 hz with h | h
    · exact hR z h
    · have : z = rn r := by simpa using h
      rw [this]; exact rn_isR r
  · rw [txt_snoc, List.length_append, hn]
  · rw [txt_snoc, Lib.byteCells_append]; exact hown1

/-- what Unquote may answer -/
def UnqR (s : ByteArray) (w w' : World) (e : Ending) : Prop := ∃ (t : ByteArray) (p c : Int), e = .returned (.tuple #[.string t, .int .i64 p, .int .i64 c]) ∧ Below w.heap.size w w' ∧ ((c ≠ 0 ∧ t = .empty) ∨ (c = 0 ∧ ∃ zs, (∀ z ∈ zs, isR z) ∧ t = ⟨(txt zs).toArray⟩ ∧ (txt zs).length ≤ 4 * s.size ∧ ∃ (k : Nat) (h : k < s.size), p = (k : Int) + 1 ∧ s[k]'h = 34))
end Go.Proofs.YtcadknhedfnaoaaGreatDoor
