import Derived.Test.YthcohnnikmpjkaaV7
import Derived.Laws.IdiomStrings
namespace Go.Proofs.Ythcohnnikmpjkaa
open Go.RowKit
set_option linter.unusedVariables false
set_option linter.unusedSimpArgs false

theorem decL_pos (l : List UInt8) : 1 ≤ (decL l).2 := by
  simp only [decL]
  repeat' split
  all_goals simp

theorem decL_le (l : List UInt8) (h : l ≠ []) : (decL l).2 ≤ l.length := by
  have hl : 0 < l.length := List.length_pos_iff.2 h
  simp only [decL]
  repeat' split
  all_goals simp_all
  all_goals omega

/-- the pieces of a row of bytes: the rune and the width of each -/
def pcsF : Nat → List UInt8 → List (Nat × Nat)
  | 0, _ => []
  | f + 1, l => if l = [] then [] else decL l :: pcsF f (l.drop (decL l).2)
def pcs (l : List UInt8) : List (Nat × Nat) := pcsF l.length l

theorem pcsF_eq : ∀ (f : Nat) (l : List UInt8), l.length ≤ f → pcsF f l = pcs l := by
  intro f
  induction f using Nat.strongRecOn with
  | _ f ih =>
    intro l hl
    cases f with
    | zero =>
      have e : l = [] := List.eq_nil_of_length_eq_zero (by omega)
      subst e; rfl
    | succ f =>
      by_cases hn : l = []
      · subst hn; rfl
      · have hp := decL_pos l
        have hlen : 0 < l.length := List.length_pos_iff.2 hn
        obtain ⟨m, hm⟩ : ∃ m, l.length = m + 1 := ⟨l.length - 1, by omega⟩
        unfold pcs
        rw [hm]
        simp only [pcsF, if_neg hn]
        rw [ih f (by omega) _ (by simp; omega)]
        rw [ih m (by omega) _ (by simp; omega)]
theorem pcs_nil : pcs [] = [] := rfl
theorem pcs_cons {l : List UInt8} (h : l ≠ []) : pcs l = decL l :: pcs (l.drop (decL l).2) := by
  have hlen : 0 < l.length := List.length_pos_iff.2 h
  obtain ⟨m, hm⟩ : ∃ m, l.length = m + 1 := ⟨l.length - 1, by omega⟩
  have hp := decL_pos l
  unfold pcs
  rw [hm]
  simp only [pcsF, if_neg h]
  rw [pcsF_eq m _ (by simp; omega)]
  rfl

/-- what the pieces stand for -/
def runes (l : List UInt8) : List Nat := (pcs l).map (·.1)
theorem runes_nil : runes [] = [] := rfl
theorem runes_cons {l : List UInt8} (h : l ≠ []) : runes l = (decL l).1 :: runes (l.drop (decL l).2) := by unfold runes; rw [pcs_cons h]; rfl
theorem runes_len_le (l : List UInt8) : (runes l).length ≤ l.length := by
  have : ∀ n, ∀ l : List UInt8, l.length ≤ n → (runes l).length ≤ l.length := by
    intro n
    induction n with
    | zero =>
      intro l hl
      have e : l = [] := List.eq_nil_of_length_eq_zero (by omega)
      subst e; exact Nat.le_refl _
    | succ n ih =>
      intro l hl
      by_cases h : l = []
      · subst h; exact Nat.le_refl _
      · have hp := decL_pos l
        have hlen : 0 < l.length := List.length_pos_iff.2 h
        rw [runes_cons h, List.length_cons]
        have := ih (l.drop (decL l).2) (by simp; omega)
        simp at this
        omega
  exact this l.length l (Nat.le_refl _)

theorem runesFrom_eq (s : ByteArray) : ∀ (b i : Nat) (acc : Array Value), i ≤ s.size → s.size - i ≤ b → Conv.runesFrom s b i acc = acc ++ ((runes (s.data.toList.drop i)).map fun (r : Nat) => Value.int .i32 (r : Int)).toArray := by
  intro b
  induction b with
  | zero =>
    intro i acc hi hb
    have : s.data.toList.drop i = [] := List.drop_eq_nil_of_le (by simp; omega)
    rw [this]
    simp [Conv.runesFrom, runes_nil]
  | succ b ih =>
    intro i acc hi hb
    by_cases h : i < s.size
    · have hne : s.data.toList.drop i ≠ [] := by
        intro e
        have := congrArg List.length e
        simp at this
        omega
      have hd := decode_eq s i hi
      have hp := decL_pos (s.data.toList.drop i)
      have hle := decL_le _ hne
      have hl : (s.data.toList.drop i).length = s.size - i := by simp
      rw [Conv.runesFrom, if_pos h]
      simp only [hd]
      rw [ih _ _ (by omega) (by omega), runes_cons hne, List.drop_drop]
      simp
    · have : s.data.toList.drop i = [] := List.drop_eq_nil_of_le (by simp; omega)
      rw [Conv.runesFrom, if_neg h, this]
      simp [runes_nil]

/-- a slice of runes -/
def RS (w : World) (v : Value) (zs : List Nat) : Prop := ∃ g cap, v = .slice (some ⟨g, 0, none⟩) zs.length cap ∧ zs.length ≤ cap ∧ g < w.heap.size ∧ ∀ i, i < zs.length → w.cell? ⟨g, i, none⟩ = some (.int .i32 ((zs.getD i 0 : Nat) : Int))
theorem RS.keep {w w' : World} {v : Value} {zs : List Nat} (h : RS w v zs) (hb : Below w.heap.size w w') : RS w' v zs := by
  obtain ⟨g, cap, hv, hc, hg, hr⟩ := h
  exact ⟨g, cap, hv, hc, Nat.lt_of_lt_of_le hg hb.size, fun i hi => (hb.cell (p := ⟨g, i, none⟩) hg).trans (hr i hi)⟩

theorem enc_bytes (r : Int) : Utf8.encode r = ⟨(enc (rn r)).toArray⟩ := by
  have := encode_enc r
  apply ByteArray.ext
  apply Array.ext'
  simpa using this

theorem foldl_enc (zs : List Int) : ∀ (l : List UInt8), zs.foldl (fun r n => r ++ Utf8.encode n) (ByteArray.mk l.toArray) = ⟨(l ++ zs.flatMap fun z => enc (rn z)).toArray⟩ := by
  induction zs with
  | nil => intro l; simp
  | cons z r ih =>
    intro l
    rw [List.foldl_cons, enc_bytes, append_bytes, ih, List.flatMap_cons, List.append_assoc]
theorem runesBytes_eq (zs : List Int) : runesBytes zs = ⟨(zs.flatMap fun z => enc (rn z)).toArray⟩ := by
  have := foldl_enc zs []
  rw [List.nil_append] at this
  exact this

theorem runes_enc (n : Nat) (h : isR n) (post : List UInt8) : runes (enc n ++ post) = n :: runes post := by
  have hl := (enc_len n).1
  have hne : enc n ++ post ≠ [] := by intro e; have := congrArg List.length e; rw [List.length_append, List.length_nil] at this; omega
  rw [runes_cons hne, dec_enc n h post]
  simp
theorem runes_one (n : Nat) (h : isR n) : runes (enc n) = [n] := by
  have := runes_enc n h []
  rw [List.append_nil, runes_nil] at this
  exact this
end Go.Proofs.Ythcohnnikmpjkaa
