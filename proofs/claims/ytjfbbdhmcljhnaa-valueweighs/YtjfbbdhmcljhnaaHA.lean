import Derived.Test.YtjfbbdhmcljhnaaH3
namespace Go.Proofs.Ytjfbbdhmcljhnaa
open Go.RowKit Go.Shelf
set_option linter.unusedVariables false
set_option linter.unusedSimpArgs false
attribute [local go_sem] Oper.semAt_some

/-- the digits of a number's text -/
def dgN (b : ByteArray) : Nat := (Pl.body b.data.toList).length
def nmW (T : VT) : Nat := if T.kind = 3 then dgN T.num else T.num.size
def ksz (T : VT) (i : Nat) : Nat := if T.kind = 6 then 1 + (T.keys.getD i .empty).size else 0
/-- a value's weight -/
def wtN : Nat → VT → Nat
  | 0, _ => 0
  | h + 1, T => 1 + nmW T + T.text.size + sumL ((List.range T.items.length).map fun i => (T.items[i]?.map (wtN h)).getD 0 + ksz T i)
theorem dgN_le (b : ByteArray) : dgN b ≤ b.size := by
  unfold dgN Pl.body
  rw [← sizeLn]
  split
  · rw [List.length_tail]; omega
  · exact Nat.le_refl _
theorem nmW_le (T : VT) : nmW T ≤ T.num.size := by unfold nmW; split; exact dgN_le _; omega
theorem sumL_le {α : Type} {f g : α → Nat} : ∀ (l : List α), (∀ t ∈ l, f t ≤ g t) → sumL (l.map f) ≤ sumL (l.map g)
  | [], _ => Nat.le_refl _
  | t :: r, h => by
    have h1 := h t (List.mem_cons_self ..)
    have h2 := sumL_le r (fun x hx => h x (List.mem_cons_of_mem _ hx))
    simp only [List.map_cons, sumL]
    omega
theorem sumL_mul (c : Nat) : ∀ (l : List Nat), sumL (l.map (c * ·)) = c * sumL l
  | [] => rfl
  | x :: r => by simp only [List.map_cons, sumL, sumL_mul c r, Nat.mul_add]
theorem range_map_gen {α : Type} {ts : List α} (f : α → Nat) (d : Nat → Nat) (hd : ∀ i, (hi : i < ts.length) → d i = f ts[i]) : (List.range ts.length).map d = ts.map f := by
  apply List.ext_getElem
  · simp
  · intro i h1 h2
    simp at h1
    simp [hd i h1]

theorem wtN_le {W : World} : ∀ {h : Nat} {T : VT} {v : Value}, InH W h T v → wtN h T + 281474976710656 ≤ 562949953421314 * szN h T
  | 0, _, _, h => h.elim
  | h + 1, T, v, hI => by
    obtain ⟨io, icap, ko, kcap, e, a1, a2, a3, a4, a5, a6, a7, hk, hi⟩ := hI.open
    have h1 : sumL ((List.range T.items.length).map fun i => (T.items[i]?.map (wtN h)).getD 0 + ksz T i) ≤ sumL ((List.range T.items.length).map fun i => (T.items[i]?.map (fun t => 562949953421314 * szN h t)).getD 0) := by
      apply sumL_le
      intro i hil
      have hil' : i < T.items.length := List.mem_range.1 hil
      rw [List.getElem?_eq_getElem hil']
      obtain ⟨b, off, _, _, hr⟩ := hi.row (by omega)
      obtain ⟨v0, v1, v2, v3, v4, _, ht⟩ := hr i hil'
      have hw := wtN_le ht
      have hks : ksz T i ≤ 140737488355329 := by
        unfold ksz
        split
        · by_cases hik : i < T.keys.length
          · have := key_size a7 hik; omega
          · have : (T.keys.getD i .empty).size = 0 := by
              rw [List.getD_eq_getElem?_getD, List.getElem?_eq_none (by omega)]; rfl
            omega
        · omega
      simp only [Option.map_some, Option.getD_some]
      omega
    have h2 : (List.range T.items.length).map (fun i => (T.items[i]?.map (fun t => 562949953421314 * szN h t)).getD 0) = T.items.map (fun t => 562949953421314 * szN h t) := range_map_gen _ _ (fun i hi => by rw [List.getElem?_eq_getElem hi]; rfl)
    rw [h2, ← Function.comp_def (f := (562949953421314 * ·)), ← List.map_map, sumL_mul] at h1
    have h3 := nmW_le T
    show 1 + nmW T + T.text.size + sumL _ + 281474976710656 ≤ 562949953421314 * (1 + T.keys.length + sumL (T.items.map (szN h)))
    simp only [Nat.mul_add]
    omega

def FwOk (h : Nat) : Prop := ∀ (T : VT) (v : Value) (w : World), InH w h T v → szN h T ≤ 10001 → formN h T = true → Calls Try.prog 17 #[v] w fun e w' => e = .returned (.int .i64 ((wtN h T : Nat) : Int)) ∧ Below w.heap.size w w'

theorem sumR_up (g : Nat → Nat) (k : Nat) : sumL ((List.range (k + 1)).map g) = sumL ((List.range k).map g) + g k := by
  rw [List.range_succ, List.map_append, sumL_append]; simp [sumL]
theorem sumR_le (g : Nat → Nat) {k N : Nat} (h : k ≤ N) : sumL ((List.range k).map g) ≤ sumL ((List.range N).map g) := by
  induction N with
  | zero => have : k = 0 := by omega
            subst this; exact Nat.le_refl _
  | succ n ih =>
    by_cases hk : k = n + 1
    · subst hk; exact Nat.le_refl _
    · have := ih (by omega); rw [sumR_up]; omega
end Go.Proofs.Ytjfbbdhmcljhnaa
