import Derived.Test.YtpjcieieafadfaaDoorQ11
import Derived.Test.YtpjcieieafadfaaDoorRO1
namespace Go.Proofs.YtpjcieieafadfaaDoor
open Go.RowKit
set_option linter.unusedVariables false
set_option linter.unusedSimpArgs false

/-- a row: its kind, its value, its length, its cells -/
structure RowA where
  e : TypeId
  v : Value
  n : Nat
  xs : List Value

/-- rows of one's own, apart -/
structure Rws (B : Nat) (w : World) (l : List RowA) : Prop where
  own : ∀ r ∈ l, w.ownsRow B r.e 1 r.v r.n r.xs
  apart : l.Pairwise fun a b => ∀ g, a.v.ownBlock = some g → b.v.ownBlock ≠ some g

theorem Rws.perm {B : Nat} {w : World} {l l' : List RowA} (h : Rws B w l) (hp : l.Perm l') : Rws B w l' :=
  ⟨fun r hr => h.own r (hp.mem_iff.2 hr), (hp.pairwise_iff (fun {a b} hab g e1 e2 => hab g e2 e1)).1 h.apart⟩
theorem Rws.nil (B : Nat) (w : World) : Rws B w [] := ⟨by simp, .nil⟩
theorem Rws.head {B : Nat} {w : World} {r : RowA} {l : List RowA} (h : Rws B w (r :: l)) : w.ownsRow B r.e 1 r.v r.n r.xs := h.own r (List.mem_cons_self ..)
theorem ownE_lt {w : World} {B e n g : Nat} {v : Value} {xs : List Value} (h : w.ownsRow B e 1 v n xs) (hg : v.ownBlock = some g) : g < w.heap.size := by
  rcases h.2 with ⟨rfl, e2⟩ | ⟨g', cap', cur, rfl, hb, hr, _⟩
  · simp [Value.ownBlock] at hg
  · simp only [Value.ownBlock, Option.some.injEq] at hg
    subst hg
    exact (Array.getElem?_eq_some_iff.1 hr).1

/-- the first row changes, and what is new -/
theorem Rws.move {B : Nat} {w w' : World} {r r' : RowA} {l : List RowA} (h : Rws B w (r :: l)) (hown : w'.ownsRow B r'.e 1 r'.v r'.n r'.xs) (hg : w.grownBy w' r.v.ownBlock) (hat : r'.v.ownBlock = r.v.ownBlock ∨ ∃ g, r'.v.ownBlock = some g ∧ w.heap.size ≤ g) : Rws B w' (r' :: l) := by
  have hA := List.pairwise_cons.1 h.apart
  refine ⟨fun a ha => ?_, List.pairwise_cons.2 ⟨fun b hb g e1 e2 => ?_, hA.2⟩⟩
  · rcases List.mem_cons.1 ha with rfl | ha
    · exact hown
    · refine (h.own a (List.mem_cons_of_mem _ ha)).kept hg ?_
      cases hv : a.v.ownBlock with
      | none => exact .inl rfl
      | some gb => exact .inr fun e => hA.1 a ha gb e.symm hv
  · rcases hat with h1 | ⟨g', h1, h2⟩
    · exact hA.1 b hb g (h1.symm.trans e1) e2
    · have := ownE_lt (h.own b (List.mem_cons_of_mem _ hb)) e2
      rw [h1] at e1
      cases e1
      omega
/-- a new row -/
theorem Rws.cons {B : Nat} {w w' : World} {r : RowA} {l : List RowA} (h : Rws B w l) (hb : Below w.heap.size w w') (hB : B ≤ w.heap.size) (hown : w'.ownsRow w.heap.size r.e 1 r.v r.n r.xs) : Rws B w' (r :: l) := by
  refine ⟨fun a ha => ?_, List.pairwise_cons.2 ⟨fun b hb g e1 e2 => ?_, h.apart⟩⟩
  · rcases List.mem_cons.1 ha with rfl | ha
    · exact ⟨hown.1, hown.2.imp id (fun ⟨g, cap, cur, e, hb, rest⟩ => ⟨g, cap, cur, e, Nat.le_trans hB hb, rest⟩)⟩
    · exact own_below' (h.own a ha) hb
  · have h1 := own_base hown g e1
    have h2 := ownE_lt (h.own b hb) e2
    omega
theorem Rws.keep {B : Nat} {w w' : World} {l : List RowA} (h : Rws B w l) (hb : Below w.heap.size w w') : Rws B w' l :=
  ⟨fun a ha => own_below' (h.own a ha) hb, h.apart⟩
theorem grown_set (w : World) (g k : Nat) (x : Value) : w.grownBy (w.setCell ⟨g, k, none⟩ x) (some g) := by
  have h := (Below.refl g w).setCell (p := ⟨g, k, none⟩) (Nat.le_refl _) x
  exact ⟨h.os, h.tape, h.output, h.size, fun j _ hj => Below.heap_setCell _ _ _ _ (fun e => hj (by rw [e]))⟩
theorem ownE_set {w : World} {B e n cap g k : Nat} {xs : List Value} (h : w.ownsRow B e 1 (.slice (some ⟨g, 0, none⟩) n cap) n xs) (hk : k < n) (x : Value) : (w.setCell ⟨g, k, none⟩ x).ownsRow B e 1 (.slice (some ⟨g, 0, none⟩) n cap) n (xs.set k x) := by
  refine ⟨by have := h.1; simp at this ⊢; exact this, ?_⟩
  rcases h.2 with ⟨e, e2⟩ | ⟨g', cap', cur, e, hb, hg, h1, h2, h3, h4⟩
  · omega
  · simp only [Value.slice.injEq] at e
    obtain ⟨e1, _, rfl⟩ := e
    have e1 : g = g' := by simpa using e1
    subst e1
    refine .inr ⟨g, cap, cur.setIfInBounds k x, rfl, hb, heap_setCell_same w g k _ _ _ hg, h1, h2, by simpa using h3, ?_⟩
    rw [Array.toList_setIfInBounds, List.take_set, h4]
theorem ownE_free {w : World} {B e n cap g : Nat} {xs : List Value} (h : w.ownsRow B e 1 (.slice (some ⟨g, 0, none⟩) n cap) n xs) (k : Nat) : w.frozen? ⟨g, k, none⟩ = false := by
  rcases h.2 with ⟨e, e2⟩ | ⟨g', cap', cur, e, hb, hg, _⟩
  · simp at e
  · simp only [Value.slice.injEq] at e
    have e1 : g = g' := by simpa using e.1
    subst e1
    exact frozen_of_row w g k _ _ hg
theorem Rws.set {B : Nat} {w : World} {e n cap g : Nat} {xs : List Value} {l : List RowA} (h : Rws B w (⟨e, .slice (some ⟨g, 0, none⟩) n cap, n, xs⟩ :: l)) {k : Nat} (hk : k < n) (x : Value) : Rws B (w.setCell ⟨g, k, none⟩ x) (⟨e, .slice (some ⟨g, 0, none⟩) n cap, n, xs.set k x⟩ :: l) :=
  h.move (r' := ⟨e, .slice (some ⟨g, 0, none⟩) n cap, n, xs.set k x⟩) (ownE_set h.head hk x) (grown_set w g k x) (.inl rfl)
/-- the first row's cells -/
theorem ownE_cell {w : World} {B e n : Nat} {so : Option Addr} {sc : Nat} {k : IntKind} {X : List Int} (h : w.ownsRow B e 1 (.slice so n sc) n (ivals k X)) (hn : X.length = n) {i : Nat} (hi : i < n) : ∃ g, so = some ⟨g, 0, none⟩ ∧ B ≤ g ∧ w.cell? ⟨g, i, none⟩ = some (.int k (X.getD i 0)) := by
  obtain ⟨g, cap, hv⟩ := own_any h (by omega)
  simp only [Value.slice.injEq] at hv
  obtain ⟨rfl, _, rfl⟩ := hv
  exact ⟨g, rfl, own_base h g rfl, (own_head h).2.2.2 i hi⟩

/-- marks up to k, then what was -/
def mkI (m : Int) (X : List Int) (k : Nat) : List Int := (List.range k).map (fun (i : Nat) => m - 4 * (i : Int)) ++ X.drop k
theorem mkI_up (m : Int) (X : List Int) {k : Nat} (h : k < X.length) : (mkI m X k).set k (m - 4 * (k : Int)) = mkI m X (k + 1) := by
  unfold mkI
  rw [List.set_append_right _ _ (by simp), List.length_map, List.length_range, Nat.sub_self, List.drop_eq_getElem_cons h, List.set_cons_zero, List.range_succ, List.map_append, List.append_assoc]
  rfl
theorem mkI_len (m : Int) (X : List Int) {k : Nat} (h : k ≤ X.length) : (mkI m X k).length = X.length := by unfold mkI; simp; omega
theorem mkI_zero (m : Int) (X : List Int) : mkI m X 0 = X := by simp [mkI]
/-- the marks of n, then so many counted on -/
def mkG (m f : Int) (n k : Nat) : List Int := (List.range n).map (fun (i : Nat) => m - 4 * (i : Int)) ++ (List.range k).map (fun (i : Nat) => f + (i : Int))
theorem mkI_end (m f : Int) (X : List Int) : mkI m X X.length = mkG m f X.length 0 := by simp [mkI, mkG]
theorem mkG_len (m f : Int) (n k : Nat) : (mkG m f n k).length = n + k := by simp [mkG]
theorem mkG_get (m f : Int) (n k i : Nat) (h : i < n + k) : (mkG m f n k).getD i 0 = if i < n then m - 4 * (i : Int) else f + ((i : Int) - (n : Int)) := by
  unfold mkG
  by_cases h1 : i < n
  · simp [List.getD, List.getElem?_append, h1]
  · have h2 : i - n < k := by omega
    simp [List.getD, List.getElem?_append, h1, h2]
    omega
theorem ivals_set (k : IntKind) (X : List Int) (i : Nat) (x : Int) : (ivals k X).set i (.int k x) = ivals k (X.set i x) := by simp [ivals, List.map_set]

set_option maxRecDepth 100000 in
set_option maxHeartbeats 800000 in
theorem w_RunesO (s : ByteArray) (n : Nat) (w : World) (hn : (runes s.data.toList).length = n) (hs : n ≤ 70368744177664) :
    Calls Tryd.prog 9 #[.string s] w fun e w' => ∃ so cap, e = .returned (.slice so n cap) ∧ Hid (w'.ownsRow w.heap.size 21 1 (.slice so n cap) n (ivals .i32 (toI (runes s.data.toList)))) ∧ Below w.heap.size w w' := by
  have hrf := runesFrom_eq s s.size 0 #[] (Nat.zero_le _) (by omega)
  rw [List.drop_zero] at hrf
  have hsz : (Conv.runesFrom s s.size 0 #[]).size = n := by rw [hrf]; simp [hn]
  have hcv := run_runes_of_string (P := Tryd.prog) w 9 27 21 s Tryd.underlying9 Tryd.underlying27 Tryd.underlying21 (by rw [hsz]; omega)
  have hcap := grownCap_ge w n 0 21
  rw [hsz] at hcv
  obtain ⟨cap, hc⟩ : ∃ cap, cap = grownCap w n 0 21 := ⟨_, rfl⟩
  have hcm : cap ≤ maxLen := by rw [hc]; exact grownCap_le_maxLen _ _ _ _ (by unfold maxLen; omega)
  rw [← hc] at hcv hcap
  obtain ⟨W1, hW1⟩ : ∃ W1, W1 = (w.drew.alloc (.cells (Conv.runesFrom s s.size 0 #[] ++ Array.replicate (cap - n) (.int .i32 0)) 21)) := ⟨_, rfl⟩
  rw [← hW1] at hcv
  have HB : Hid (Below w.heap.size w W1) := by show Below _ _ _; rw [hW1]; exact ((Below.refl _ _).drew).alloc (Nat.le_refl _) _
  have HR : Hid (W1.ownsRow w.heap.size 21 1 (.slice (some ⟨w.heap.size, 0, none⟩) n cap) n (ivals .i32 (toI (runes s.data.toList)))) := by
    refine ⟨by simp [ivals, toI, hn], .inr ⟨w.heap.size, cap, _, rfl, Nat.le_refl _, by rw [hW1]; exact heap_alloc_new w.drew _, hcap, hcm, by rw [Array.size_append, hsz]; simp; omega, ?_⟩⟩
    rw [hrf]
    simp [ivals, toI, hn]
  clear hW1 hc hcap hrf hsz hn hcm
  generalize toI (runes s.data.toList) = xs at *
  go_enter Tryd.func9, Tryd.ntmps9
  go_wp2_with fail
  go_ret
  exact ⟨_, _, rfl, HR, HB.out⟩
end Go.Proofs.YtpjcieieafadfaaDoor
