import Derived.Test.YtdehejadiofomaaDoorZD12
import Derived.Test.YtdehejadiofomaaDoorM27
namespace Go.Proofs.YtdehejadiofomaaDoor
open Go.RowKit Go.Shelf
set_option linter.unusedVariables false
set_option linter.unusedSimpArgs false
attribute [local go_sem] Oper.semAt_some

theorem scan_any {l : List UInt8} {w w' : World} {e : Ending} (h : ScanR l w w' e) : ∃ so n sc, ∃ (f p : Int), e = .returned (.tuple #[.slice so n sc, .int .i64 f, .int .i64 p]) ∧ Below w.heap.size w w' := by
  obtain ⟨⟨_, so, sc, rfl, _⟩ | ⟨_, x, _, _, rfl⟩, hb⟩ := h
  · exact ⟨so, _, sc, 0, 0, rfl, hb⟩
  · exact ⟨none, 0, 0, _, _, rfl, hb⟩
theorem good_mem {l : List UInt8} : ∀ (ts : List Tok) (a : Nat), Good l a ts → ∀ t ∈ ts, t.at_ < t.fin ∧ t.fin ≤ l.length := by
  intro ts
  induction ts with
  | nil => intro a _ t ht; cases ht
  | cons x r ih =>
    intro a h t ht
    rcases List.mem_cons.1 ht with rfl | h2
    · exact ⟨h.2.1, h.2.2.1⟩
    · exact ih _ h.2.2.2 t h2
theorem own_baseT {w : World} {base : Nat} {e : TypeId} {size : Nat} {v : Value} {n : Nat} {xs : List Value} (h : w.ownsRow base e size v n xs) {g : Nat} (hg : v.ownBlock = some g) : base ≤ g := by
  rcases h.2 with ⟨rfl, _⟩ | ⟨g', cap, cur, rfl, e2, e3, _⟩
  · cases hg
  · simp [Value.ownBlock] at hg
    subst hg
    exact e2
/-- of a text whose second part has a fault the whole has one -/
theorem join_bad {a b : List UInt8} {pre : List Tok} {x : Tok} (ha : ∀ t ∈ allY a, t.err = 0) (hb : allY b = pre ++ [x]) (hx : x.err ≠ 0) : ¬ ∀ t ∈ allY (a ++ 10 :: b), t.err = 0 := fun h => by
  have := h (shiftT (a.length + 1) x) (by rw [allY_join ha, hb]; simp)
  rw [shiftT_err] at this
  exact hx this
theorem join_ok {a b : List UInt8} (ha : ∀ t ∈ allY a, t.err = 0) (hb : ∀ t ∈ allY b, t.err = 0) : ∀ t ∈ allY (a ++ 10 :: b), t.err = 0 := fun t ht => by
  rw [allY_join ha] at ht
  rcases List.mem_append.1 ht with h | h
  · exact ha t h
  · obtain ⟨u, hu, rfl⟩ := List.mem_map.1 h
    rw [shiftT_err]; exact hb u hu
end Go.Proofs.YtdehejadiofomaaDoor
