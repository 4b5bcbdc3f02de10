import Derived.Test.YtbfjpmbninlbbabGreatDoorP1
import Derived.Test.YtbfjpmbninlbbabGreatDoorQA
namespace Go.Proofs.YtbfjpmbninlbbabGreatDoor
open Go.RowKit
set_option linter.unusedVariables false

/-- the pieces, each with the part behind it -/
def jp (p : List UInt8) (ts : List ByteArray) : List UInt8 := ts.flatMap fun t => t.data.toList ++ p
theorem jp_snoc (p : List UInt8) (ts : List ByteArray) (t : ByteArray) : jp p (ts ++ [t]) = jp p ts ++ (t.data.toList ++ p) := by simp [jp]
def jl (p : List UInt8) (ts : List ByteArray) : Nat → List UInt8
  | 0 => []
  | k + 1 => jp p (ts.take k) ++ (ts.getD k .empty).data.toList
theorem jl_part (p : List UInt8) (ts : List ByteArray) (k : Nat) (hk : k < ts.length) : jl p ts (k + 1) ++ p = jp p (ts.take (k + 1)) := by
  rw [List.take_succ_eq_append_getElem hk, jp_snoc]
  simp [jl, List.getD, hk]

def NoIn (p : List UInt8) (t : ByteArray) : Prop := ∀ k, ¬ OccAt p t.data.toList k

theorem ext_list (s : ByteArray) (a b : Nat) : (s.extract a b).data.toList = (s.data.toList.take b).drop a := by
  rw [ByteArray.data_extract, Array.toList_extract, List.extract_eq_take_drop, List.take_drop]
  by_cases h : a ≤ b
  · rw [show a + (b - a) = b by omega]
  · rw [List.drop_eq_nil_of_le (by rw [List.length_take]; omega), List.drop_eq_nil_of_le (by rw [List.length_take]; omega)]

theorem occ_within {p t : List UInt8} {a b k : Nat} (hb : b ≤ t.length) (h : OccAt p ((t.take b).drop a) k) (hab : a ≤ b) : OccAt p t (a + k) ∧ a + k + p.length ≤ b := by
  obtain ⟨h1, h2⟩ := h
  rw [List.length_drop, List.length_take] at h1
  refine ⟨⟨by omega, ?_⟩, by omega⟩
  rw [List.drop_drop, List.drop_take, List.take_take] at h2
  rw [show min p.length (b - (a + k)) = p.length by omega] at h2
  exact h2

structure SplOk (s : ByteArray) (p : List UInt8) (n : Nat) (tb : List ByteArray × Nat) : Prop where
  join : jp p tb.1 = s.data.toList.take tb.2
  ends : tb.2 ≤ s.size
  none : ∀ t ∈ tb.1, NoIn p t
  past : ∀ r, OccAt p s.data.toList r → r + p.length ≤ n → r < tb.2

theorem spl_ok (s : ByteArray) (p : List UInt8) (hp : 0 < p.length) (n : Nat) : SplOk s p n (spl s p.length (occs p s.data.toList n)) := by
  induction n with
  | zero =>
    have e : occs p s.data.toList 0 = [] := by simp [occs]
    rw [e]
    exact ⟨by simp [spl, jp], by simp [spl], by simp [spl], fun r _ h => by omega⟩
  | succ n ih =>
    rw [occs_up]
    split
    · rename_i hc
      obtain ⟨hc1, hc2⟩ := hc
      obtain ⟨q, hq⟩ : ∃ q, q = n + 1 - p.length := ⟨_, rfl⟩
      rw [← hq] at hc2 ⊢
      rw [spl_snoc]
      generalize spl s p.length (occs p s.data.toList n) = tb at ih
      obtain ⟨ts, bg⟩ := tb
      obtain ⟨i1, i2, i3, i4⟩ := ih
      dsimp only at i1 i2 i3 i4
      have hc3 := hc2.1
      rw [size_len] at hc3
      unfold splS
      dsimp only
      split
      · rename_i hle
        refine ⟨?_, hc3, ?_, ?_⟩
        · dsimp only
          rw [jp_snoc, i1, ext_list]
          have e1 : s.data.toList.take bg ++ (s.data.toList.take q).drop bg = s.data.toList.take q := by
            have := List.take_append_drop bg (s.data.toList.take q)
            rw [List.take_take, Nat.min_eq_left hle] at this
            exact this
          rw [← List.append_assoc, e1]
          have e2 := hc2.2
          rw [List.take_add, e2]
        · intro t ht
          rcases List.mem_append.1 ht with h | h
          · exact i3 t h
          · obtain rfl : t = s.extract bg q := by simpa using h
            intro k hk
            rw [ext_list] at hk
            obtain ⟨g1, g2⟩ := occ_within (by rw [size_len]; omega) hk hle
            have := i4 _ g1 (by omega)
            omega
        · intro r hr hn
          dsimp only
          by_cases g : r + p.length ≤ n
          · have := i4 r hr g; omega
          · omega
      · rename_i hle
        refine ⟨i1, i2, i3, fun r hr hn => ?_⟩
        dsimp only
        by_cases g : r + p.length ≤ n
        · exact i4 r hr g
        · omega
    · rename_i hc
      rw [List.append_nil]
      obtain ⟨i1, i2, i3, i4⟩ := ih
      refine ⟨i1, i2, i3, fun r hr hn => ?_⟩
      by_cases g : r + p.length ≤ n
      · exact i4 r hr g
      · exact absurd ⟨by omega, by rw [show n + 1 - p.length = r by omega]; exact hr⟩ hc

/-- the texts of a split -/
def splt (s p : ByteArray) : List ByteArray := (spl s p.size (plcs s p)).1 ++ [s.extract (spl s p.size (plcs s p)).2 s.size]

theorem splt_ok (s p : ByteArray) (hp : 0 < p.size) : (∀ t ∈ splt s p, NoIn p.data.toList t) ∧ jl p.data.toList (splt s p) (splt s p).length = s.data.toList := by
  have h := spl_ok s p.data.toList (by rw [size_len]; exact hp) s.size
  rw [← plcs_occs s p hp, size_len] at h
  unfold splt
  generalize spl s p.size (plcs s p) = tb at h
  obtain ⟨ts, bg⟩ := tb
  obtain ⟨i1, i2, i3, i4⟩ := h
  dsimp only at i1 i2 i3 i4 ⊢
  refine ⟨?_, ?_⟩
  · intro t ht
    rcases List.mem_append.1 ht with h | h
    · exact i3 t h
    · obtain rfl : t = s.extract bg s.size := by simpa using h
      intro k hk
      rw [ext_list] at hk
      obtain ⟨g1, g2⟩ := occ_within (by rw [size_len]; omega) hk i2
      rw [size_len] at g2
      have := i4 _ g1 (by rw [size_len]; omega)
      omega
  · rw [List.length_append, List.length_singleton]
    simp only [jl]
    rw [List.take_left', i1] <;> try rfl
    rw [show (ts ++ [s.extract bg s.size]).getD ts.length .empty = s.extract bg s.size by simp [List.getD]]
    rw [ext_list, List.take_of_length_le (l := s.data.toList) (i := s.size) (by rw [size_len]; omega), List.take_append_drop]
end Go.Proofs.YtbfjpmbninlbbabGreatDoor
