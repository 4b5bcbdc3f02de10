import Derived.Test.YtbfjpmbninlbbabGreatDoorP4
namespace Go.Proofs.YtbfjpmbninlbbabGreatDoor
open Go.RowKit
set_option linter.unusedVariables false
set_option linter.unusedSimpArgs false

theorem jl_up (p : List UInt8) (ts : List ByteArray) (k : Nat) (hk : k ≤ ts.length) : (jl p ts k).length ≤ (jp p (ts.take k)).length ∧ (jp p (ts.take k)).length + (ts.getD k .empty).size ≤ (jl p ts (k + 1)).length := by
  refine ⟨?_, ?_⟩
  · cases k with
    | zero => simp [jl]
    | succ k => rw [← jl_part p ts k (by omega), List.length_append]; omega
  · show _ ≤ (jp p (ts.take k) ++ (ts.getD k .empty).data.toList).length
    rw [List.length_append, size_len]; omega
theorem jl_mono (p : List UInt8) (ts : List ByteArray) {i k : Nat} (h : i ≤ k) (hk : k ≤ ts.length) : (jl p ts i).length ≤ (jl p ts k).length := by
  induction k with
  | zero => obtain rfl : i = 0 := by omega
            exact Nat.le_refl _
  | succ k ih =>
    rcases Nat.lt_or_ge i (k + 1) with g | g
    · have := ih (by omega) (by omega)
      have := jl_up p ts k (by omega)
      omega
    · obtain rfl : i = k + 1 := by omega
      exact Nat.le_refl _

/-- what a split is -/
structure SpR (s p : ByteArray) (L : List ByteArray) : Prop where
  nil : s.size = 0 → L = []
  ne : 0 < s.size → 0 < L.length
  join : 0 < s.size → jl p.data.toList L L.length = s.data.toList
  noin : 0 < p.size → ∀ t ∈ L, NoIn p.data.toList t
  cnt : 0 < s.size → p.size = 0 → L.length = (runes s.data.toList).length
  few : L.length ≤ s.size + 1

theorem w_Split (s p : ByteArray) (ss : s.size ≤ 1048576) (w : World) :
    Calls Tryz.prog 24 #[.string s, .string p] w fun e w' => ∃ so sc n L, e = .returned (.slice so n sc) ∧ n = L.length ∧ Hid (w'.ownsRow w.heap.size 9 1 (.slice so n sc) n (svals L)) ∧ Hid (SpR s p L) ∧ Below w.heap.size w w' := by
  by_cases h0 : s.size = 0
  · refine (w_Split_nil s p h0 w).mono ?_
    rintro e w' ⟨v, rfl, ho, hb⟩
    obtain ⟨so, sc, rfl⟩ := own_shape ho.out
    exact ⟨so, sc, 0, [], rfl, rfl, ho, ⟨fun _ => rfl, fun h => by omega, fun h => by omega, fun _ t ht => by simp at ht, fun h => by omega, by simp⟩, hb⟩
  · by_cases hp : p.size = 0
    · refine (w_Split_pieces s p ss hp (by omega) w).mono ?_
      rintro e w' ⟨v, rfl, ho, hb⟩
      obtain ⟨so, sc, rfl⟩ := own_shape ho.out
      have hN := runes_len_le s.data.toList
      rw [size_len] at hN
      have hpe : p.data.toList = [] := List.length_eq_zero_iff.1 (by rw [size_len]; exact hp)
      have hN0 : 0 < (runes s.data.toList).length := by
        have : s.data.toList ≠ [] := fun e => by have := size_len s; rw [e] at this; simp at this; omega
        rw [runes_cons this]; simp
      refine ⟨so, sc, _, pcl s (runes s.data.toList).length, rfl, (pcl_len _ _).symm, ho, ⟨fun h => absurd h h0, fun _ => ?_, fun _ => ?_, fun h => by omega, fun _ _ => pcl_len _ _, ?_⟩, hb⟩
      · rw [pcl_len]; exact hN0
      · rw [hpe, pcl_len]; exact pcl_join s
      · rw [pcl_len]; omega
    · refine (w_Split_part s p ss (by omega) (by omega) w).mono ?_
      rintro e w' ⟨v, rfl, ho, hb⟩
      obtain ⟨so, sc, rfl⟩ := own_shape ho.out
      have hok := splt_ok s p (by omega)
      have hpl : (plcs s p).length ≤ s.size := by
        unfold plcs
        rw [if_neg hp]
        exact occs_len s.size
      have hfw := spl_few s p.size (plcs s p)
      exact ⟨so, sc, _, splt s p, rfl, by simp [splt], ho, ⟨fun h => absurd h h0, fun _ => by simp [splt], fun _ => hok.2, fun _ => hok.1, fun _ h => absurd h hp, by simp [splt]; omega⟩, hb⟩

theorem own_cell {w : World} {B n sc : Nat} {so : Option Addr} {L : List ByteArray} (h : w.ownsRow B 9 1 (.slice so n sc) n (svals L)) (hn : n = L.length) {i : Nat} (hi : i < n) : ∃ g, so = some ⟨g, 0, none⟩ ∧ ∀ j, j < n → w.cell? ⟨g, j, none⟩ = some (.string (L.getD j .empty)) := by
  rcases h.2 with ⟨e, e2⟩ | ⟨g, cap, cur, e, _⟩
  · simp only [Value.slice.injEq] at e; omega
  · simp only [Value.slice.injEq] at e
    obtain ⟨rfl, _, rfl⟩ := e
    refine ⟨g, rfl, fun j hj => ?_⟩
    have := h.cellAt j (by omega)
    rw [this]
    have hjL : j < L.length := by omega
    simp [svals, List.getD, hjL]

theorem beq_self_str {a b : ByteArray} (h : a.data.toList = b.data.toList) : (a.toList == b.toList) = true := by rw [Lib.toList_data, Lib.toList_data, h]; simp
theorem empty_str {a : ByteArray} (h : a.size = 0) : a.toList.isEmpty = true := by
  rw [Lib.toList_data]
  have e := size_len a
  cases hh : a.data.toList with
  | nil => rfl
  | cons _ _ => rw [hh] at e; simp at e; omega
theorem nonempty_str {a : ByteArray} (h : 0 < a.size) : a.toList.isEmpty = false := by
  rw [Lib.toList_data]
  have e := size_len a
  cases hh : a.data.toList with
  | nil => rw [hh] at e; simp at e; omega
  | cons _ _ => rfl
theorem size_of {a : ByteArray} {l : List UInt8} (h : a.data.toList = l) : a.size = l.length := by rw [← h, size_len]

/-- the part does not stand there -/
theorem not_there {p t : ByteArray} (h : NoIn p.data.toList t) {m : Nat} (hm : m + p.size ≤ t.size) : ((t.extract m (m + p.size)).toList == p.toList) = false := by
  cases hq : ((t.extract m (m + p.size)).toList == p.toList) with
  | false => rfl
  | true =>
    have e := eq_of_beq hq
    rw [Lib.toList_data, Lib.toList_data, ext_list] at e
    refine absurd ⟨by rw [size_len, size_len]; exact hm, ?_⟩ (h m)
    rw [size_len]
    rw [List.drop_take, show m + p.size - m = p.size by omega] at e
    exact e
end Go.Proofs.YtbfjpmbninlbbabGreatDoor
