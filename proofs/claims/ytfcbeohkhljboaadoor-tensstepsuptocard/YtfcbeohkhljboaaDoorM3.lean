import Derived.Test.YtfcbeohkhljboaaDoorM2
import Derived.Deep.AppendLies
namespace Go.Proofs.YtfcbeohkhljboaaDoor
open Go.RowKit
set_option linter.unusedVariables false
set_option linter.unusedSimpArgs false

/-- the slice value v reads, in w, as the numbers xs of kind k -/
def Nums (k : IntKind) (w : World) (v : Value) (xs : List Nat) : Prop :=
  ∃ (ao : Option Addr) (cap : Nat), v = .slice ao xs.length cap ∧ xs.length ≤ cap ∧ (∀ a, ao = some a → a.block < w.heap.size) ∧ (0 < xs.length → ∃ b off, ao = some ⟨b, off, none⟩ ∧ b < w.heap.size ∧ ∀ i, i < xs.length → w.cell? ⟨b, off + i, none⟩ = some (.int k ((xs.getD i 0 : Nat) : Int)))

theorem Nums.keep {k : IntKind} {w w' : World} {v : Value} {xs : List Nat} (h : Nums k w v xs) (hb : Below w.heap.size w w') : Nums k w' v xs := by
  obtain ⟨ao, cap, hv, hc, hk, hr⟩ := h
  refine ⟨ao, cap, hv, hc, fun a e => Nat.lt_of_lt_of_le (hk a e) hb.size, fun hn => ?_⟩
  obtain ⟨b, off, ha, hlt, hcell⟩ := hr hn
  refine ⟨b, off, ha, Nat.lt_of_lt_of_le hlt hb.size, fun i hi => ?_⟩
  rw [hb.cell (p := ⟨b, off + i, none⟩) hlt]
  exact hcell i hi

/-- with one address for all cases -/
theorem Nums.open' {k : IntKind} {w : World} {v : Value} {xs : List Nat} (h : Nums k w v xs) :
    (xs = [] ∧ ∃ ao cap, v = .slice ao 0 cap ∧ ∀ a, ao = some a → a.block < w.heap.size) ∨ (0 < xs.length ∧ ∃ b off cap, v = .slice (some ⟨b, off, none⟩) xs.length cap ∧ xs.length ≤ cap ∧ b < w.heap.size ∧ ∀ i, i < xs.length → w.cell? ⟨b, off + i, none⟩ = some (.int k ((xs.getD i 0 : Nat) : Int))) := by
  obtain ⟨ao, cap, hv, hc, hk, hr⟩ := h
  by_cases h0 : xs = []
  · left; exact ⟨h0, ao, cap, by rw [hv, h0]; rfl, hk⟩
  · have hp : 0 < xs.length := by cases xs with | nil => exact absurd rfl h0 | cons _ _ => simp
    obtain ⟨b, off, ha, hlt, hcell⟩ := hr hp
    right; exact ⟨hp, b, off, cap, by rw [hv, ha], hc, hlt, hcell⟩

theorem Nums.nil (k : IntKind) (w : World) (ao : Option Addr) (cap : Nat) (hk : ∀ a, ao = some a → a.block < w.heap.size) : Nums k w (.slice ao 0 cap) [] := ⟨ao, cap, rfl, Nat.zero_le _, hk, fun h => by simp at h⟩

theorem Nums.mk {k : IntKind} {w : World} {b off n cap : Nat} {xs : List Nat} (hn : xs.length = n) (hc : n ≤ cap) (hb : b < w.heap.size) (h : ∀ i, i < n → w.cell? ⟨b, off + i, none⟩ = some (.int k ((xs.getD i 0 : Nat) : Int))) : Nums k w (.slice (some ⟨b, off, none⟩) n cap) xs :=
  ⟨some ⟨b, off, none⟩, cap, by rw [hn], by rw [hn]; exact hc, fun a e => by cases e; exact hb, fun _ => ⟨b, off, rfl, hb, fun i hi => h i (by rw [← hn]; exact hi)⟩⟩

theorem getD_take {xs : List Nat} {m i : Nat} (h : i < m) : (xs.take m).getD i 0 = xs.getD i 0 := by
  simp [List.getElem?_take, h]

/-- the cells of a row of numbers -/
def vals (k : IntKind) (xs : List Nat) : List Value := xs.map fun (x : Nat) => Value.int k (x : Int)
theorem vals_len (k : IntKind) (xs : List Nat) : (vals k xs).length = xs.length := by simp [vals]
theorem vals_append (k : IntKind) (xs ys : List Nat) : vals k (xs ++ ys) = vals k xs ++ vals k ys := by simp [vals]
theorem vals_get (k : IntKind) (xs : List Nat) (i : Nat) (h : i < xs.length) : (vals k xs)[i]? = some (.int k ((xs.getD i 0 : Nat) : Int)) := by
  simp [vals, List.getElem?_eq_getElem h]
theorem vals_one (k : IntKind) (xs : List Nat) : ∀ u ∈ vals k xs, u.oneCell' = true := by
  intro u hu
  simp only [vals, List.mem_map] at hu
  obtain ⟨x, _, rfl⟩ := hu
  rfl

theorem own_base {w : World} {base : Nat} {e : TypeId} {size : Nat} {v : Value} {n : Nat} {xs : List Value} (h : w.ownsRow base e size v n xs) : ∀ k, v.ownBlock = some k → base ≤ k := by
  intro k hk
  obtain ⟨_, ⟨rfl, _⟩ | ⟨g, cap, cur, rfl, hg, _⟩⟩ := h
  · cases hk
  · simp [Value.ownBlock] at hk; omega

theorem after_append {wr W w1 : World} {base : Nat} {e : TypeId} {size : Nat} {v : Value} {n : Nat} {xs : List Value} (hW : Below base wr W) (hbase : base ≤ W.heap.size) (hown : wr.ownsRow base e size v n xs) (hgrow : W.grownBy w1 v.ownBlock) : Below base wr w1 :=
  hW.grown hgrow hbase (own_base hown)

theorem after_one {wr : World} {base : Nat} (hb : base ≤ wr.heap.size) (o : Obj) : Below base wr (wr.alloc o).drew := ((Below.refl _ _).alloc hb _).drew

theorem below_cells {B : Nat} {w w' : World} (h : Below B w w') {b o : Nat} {v : Value} (hb : b < B) (hc : w.cell? ⟨b, o, none⟩ = some v) : w'.cell? ⟨b, o, none⟩ = some v := (h.cell (p := ⟨b, o, none⟩) hb).trans hc
theorem below_frees {B : Nat} {w w' : World} (h : Below B w w') {b o : Nat} {v : Bool} (hb : b < B) (hc : w.frozen? ⟨b, o, none⟩ = v) : w'.frozen? ⟨b, o, none⟩ = v := (h.frozen (p := ⟨b, o, none⟩) hb).trans hc

theorem own_nums {w : World} {base : Nat} {e : TypeId} {k : IntKind} {v : Value} {n : Nat} {xs : List Nat} (h : w.ownsRow base e 1 v n (vals k xs)) : Nums k w v xs := by
  obtain ⟨hl, h⟩ := h
  have hn : xs.length = n := by rw [vals_len] at hl; omega
  rcases h with ⟨rfl, rfl⟩ | ⟨g, cap, cur, rfl, hg, hh, hcap, hm, hcs, ht⟩
  · have : xs = [] := List.eq_nil_of_length_eq_zero hn
    subst this
    exact Nums.nil _ _ _ _ (fun a e => by cases e)
  · refine Nums.mk hn hcap ?_ (fun i hi => ?_)
    · exact (Array.getElem?_eq_some_iff.1 hh).1
    · rw [cell_of_row w g (0 + i) cur e (0, 0) hh, Nat.zero_add]
      have h1 := vals_get k xs i (by omega)
      rw [← ht, List.getElem?_take, if_pos (by omega)] at h1
      simpa using h1

structure trimTake (xs : List Nat) : Prop where
  out : xs.take (Pl.trimN xs).length = Pl.trimN xs

/-- the same slice, so many of its elements -/
def resl (v : Value) (n : Nat) : Value := match v with
  | .slice ao _ cap => .slice ao n cap
  | u => u

theorem trim_is_take (xs : List Nat) : trimTake xs := by
  induction xs with
  | nil => exact ⟨rfl⟩
  | cons x r ih =>
    refine ⟨?_⟩
    have ih := ih.out
    simp only [Pl.trimN]
    cases e : Pl.trimN r with
    | nil => by_cases h : x = 0 <;> simp [h]
    | cons y t => rw [e] at ih; simp only [List.length_cons, List.take_succ_cons]; rw [List.length_cons] at ih; rw [← ih]

theorem Nums.take {k : IntKind} {w : World} {v : Value} {xs : List Nat} (h : Nums k w v xs) (n : Nat) (hn : n ≤ xs.length) : Nums k w (resl v n) (xs.take n) := by
  obtain ⟨ao, cap, rfl, hc, hk, hr⟩ := h
  have hl : (xs.take n).length = n := by simp; omega
  refine ⟨ao, cap, by simp [resl, hl], by omega, hk, fun hp => ?_⟩
  obtain ⟨b, off, ha, hlt, hcell⟩ := hr (by omega)
  refine ⟨b, off, ha, hlt, fun i hi => ?_⟩
  rw [getD_take (by omega)]
  exact hcell i (by omega)

theorem Nums.trim {k : IntKind} {w : World} {v : Value} {xs : List Nat} (h : Nums k w v xs) : Nums k w (resl v (Pl.trimN xs).length) (Pl.trimN xs) := by
  have := h.take (Pl.trimN xs).length (Pl.trim_len xs)
  rw [(trim_is_take xs).out] at this
  exact this

theorem Nums.old {k : IntKind} {w : World} {v : Value} {xs : List Nat} (h : Nums k w v xs) : ∀ b, v.ownBlock = some b → b < w.heap.size := by
  obtain ⟨ao, cap, rfl, _, hk, _⟩ := h
  intro b hb
  cases ao with
  | none => cases hb
  | some a => simp [Value.ownBlock] at hb; subst hb; exact hk a rfl
theorem Nums.older {k : IntKind} {w : World} {v : Value} {xs : List Nat} (h : Nums k w v xs) {g : Nat} (hg : w.heap.size ≤ g) : v.ownBlock ≠ some g := fun e => by have := h.old g e; omega

end Go.Proofs.YtfcbeohkhljboaaDoor
