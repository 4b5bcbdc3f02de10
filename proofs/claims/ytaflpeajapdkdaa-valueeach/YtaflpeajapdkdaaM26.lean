import Derived.Test.YtaflpeajapdkdaaM20
import Derived.Deep.Slices
namespace Go.Proofs.Ytaflpeajapdkdaa
open Go.RowKit Go.Shelf
set_option linter.unusedVariables false
set_option linter.unusedSimpArgs false
attribute [local go_sem] Oper.semAt_some

theorem items_fun {W : World} {h : Nat} {io : Option Addr} {ts : List VT} (hI : IIn W h io ts) : ∃ c : Nat → Fin 5 → Value,
    (∀ i, i < ts.length → ∃ b off, io = some ⟨b, off, none⟩ ∧ b < W.heap.size ∧ W.cell? ⟨b, off + i * 5, none⟩ = some (c i 0) ∧ W.cell? ⟨b, off + i * 5 + 1, none⟩ = some (c i 1) ∧ W.cell? ⟨b, off + i * 5 + 2, none⟩ = some (c i 2) ∧ W.cell? ⟨b, off + i * 5 + 3, none⟩ = some (c i 3) ∧ W.cell? ⟨b, off + i * 5 + 4, none⟩ = some (c i 4)) ∧
    (∀ i, (hi : i < ts.length) → InH W h ts[i] (.agg #[c i 0, c i 1, c i 2, c i 3, c i 4])) ∧ (∀ i, i < ts.length → OneC (c i)) := by
  have key : ∀ i, i < ts.length → ∃ c : Fin 5 → Value, ∃ (hi : i < ts.length), (∃ b off, io = some ⟨b, off, none⟩ ∧ b < W.heap.size ∧ W.cell? ⟨b, off + i * 5, none⟩ = some (c 0) ∧ W.cell? ⟨b, off + i * 5 + 1, none⟩ = some (c 1) ∧ W.cell? ⟨b, off + i * 5 + 2, none⟩ = some (c 2) ∧ W.cell? ⟨b, off + i * 5 + 3, none⟩ = some (c 3) ∧ W.cell? ⟨b, off + i * 5 + 4, none⟩ = some (c 4)) ∧ InH W h ts[i] (.agg #[c 0, c 1, c 2, c 3, c 4]) ∧ OneC c := by
    intro i hi
    obtain ⟨b, off, e, hb, hrow⟩ := hI.row (by omega)
    obtain ⟨v0, v1, v2, v3, v4, ⟨a0, a1, a2, a3, a4⟩, ht⟩ := hrow i hi
    refine ⟨fun j => match j with | 0 => v0 | 1 => v1 | 2 => v2 | 3 => v3 | 4 => v4, hi, ⟨b, off, e, hb, a0, a1, a2, a3, a4⟩, ht, ?_⟩
    obtain ⟨k, n, t, io', N, icap, ko, K, kcap, e0, e1, e2, e3, e4⟩ := ht.shape
    exact ⟨k, n, t, io', N, icap, ko, K, kcap, e0, e1, e2, e3, e4⟩
  haveI : Inhabited (Fin 5 → Value) := ⟨fun _ => undef⟩
  obtain ⟨c, hc⟩ := Go.Deep.choose_lt key
  exact ⟨c, fun i hi => (hc i hi).2.1, fun i hi => (hc i hi).2.2.1, fun i hi => (hc i hi).2.2.2⟩

/-- the depths of what has come -/
def mxP (d : Nat → Nat) {N : Nat} (pre : List { i : Nat // i < N }) : Nat := mxL (pre.map fun x => d x.1)
theorem mxP_snoc (d : Nat → Nat) {N : Nat} (pre : List { i : Nat // i < N }) (x : { i : Nat // i < N }) : mxP d (pre ++ [x]) = max (mxP d pre) (d x.1) := by
  unfold mxP; rw [List.map_append, mxL_append]; simp [mxL]
theorem mxL_le_of {b : Nat} : ∀ {l : List Nat}, (∀ x ∈ l, x ≤ b) → mxL l ≤ b
  | [], _ => Nat.zero_le _
  | x :: r, h => by
    have h1 := h x (List.mem_cons_self ..)
    have h2 := mxL_le_of (l := r) (fun y hy => h y (List.mem_cons_of_mem _ hy))
    simp only [mxL]; omega


theorem range_map_ts {ts : List VT} (f : VT → Nat) (d : Nat → Nat) (hd : ∀ i, (hi : i < ts.length) → d i = f ts[i]) : (List.range ts.length).map d = ts.map f := by
  apply List.ext_getElem
  · simp
  · intro i h1 h2
    simp at h1
    simp [hd i h1]

theorem KpV.setO {n₀ B : Nat} {W : World} {C : Nat} (hn : n₀ ≤ C) (hne : B ≠ C) (v : Value) : KpV n₀ B W (W.setCell ⟨C, 0, none⟩ v) :=
  ⟨(Below.refl _ W).setCell (p := ⟨C, 0, none⟩) hn _, fun j u hu => (World.cell?_setCell_other (w := W) (v := v) (a := ⟨C, 0, none⟩) (b := ⟨B, j, none⟩) (fun e => by cases e; exact hne rfl)).trans hu⟩
theorem keepsFrom_below {m : Nat} {W W' : World} (h : Below W.heap.size W W') : KeepsFrom m W W' := ⟨h.size, fun k o _ hk _ => (h.block k (Array.getElem?_eq_some_iff.1 hk).1).trans hk⟩
theorem boxed_low {W W' : World} {B : Nat} {t : TypeId} {v : Value} (h : Boxed W B t v) (hb : Below W.heap.size W W') : Boxed W' B t v := (hb.block B h.lt).trans h
theorem IBox.low {W W' : World} {B : Nat} {c : Fin 5 → Value} (h : IBox W B c) (hb : Below W.heap.size W W') : IBox W' B c := ⟨(hb.block B (Array.getElem?_eq_some_iff.1 h.row).1).trans h.row⟩
end Go.Proofs.Ytaflpeajapdkdaa
