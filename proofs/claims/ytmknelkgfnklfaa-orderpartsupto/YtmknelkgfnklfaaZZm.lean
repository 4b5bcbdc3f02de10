import Derived.Test.YtmknelkgfnklfaaZZl
import Derived.Deep.RegionHeld3
namespace Go.Proofs.Ytmknelkgfnklfaa
open Go.RowKit Go.Shelf Go.Sort
set_option linter.unusedVariables false
set_option linter.unusedSimpArgs false

theorem leaf_sz {T : VT} (h : leafT T) : szN 1 T ≤ 1048577 := by
  have e : szN 1 T = 1 + T.keys.length + sumL (T.items.map (szN 0)) := rfl
  rw [e, h.1, h.2.1]
  decide
theorem IIn.take {w : World} {h : Nat} {io : Option Addr} {ts : List VT} (H : IIn w h io ts) {n : Nat} : IIn w h io (ts.take n) := by
  refine ⟨fun h0 => ?_⟩
  rw [List.length_take] at h0
  obtain ⟨b, off, e, hl, hc⟩ := H.row (by omega)
  refine ⟨b, off, e, hl, fun i hi => ?_⟩
  rw [List.length_take] at hi
  rw [List.getElem_take]
  exact hc i (by omega)

set_option maxRecDepth 100000 in
set_option maxHeartbeats 12800000 in
theorem w_OrderKnown (w : World) : Calls Try.prog 3 #[] w fun e w' => e = .returned (.bool true) ∧ Below w.heap.size w w' := by
  have HBw := Hid.mk (Below.refl w.heap.size w)
  go_enter Try.func3, Try.ntmps3
  go_wp2_with fail
  refine (w_word 120 w).mono ?_
  rintro e w1 ⟨rfl, hb⟩
  have HBw := Hid.mk (HBw.out.trans (hb.mono HBw.out.size))
  clear hb
  go_wp2_with fail
  refine (w_word 121 w1).mono ?_
  rintro e w2 ⟨rfl, hb⟩
  have HBw := Hid.mk (HBw.out.trans (hb.mono HBw.out.size))
  clear hb
  go_wp2_with fail
  refine (w_word 122 w2).mono ?_
  rintro e w3 ⟨rfl, hb⟩
  have HBw := Hid.mk (HBw.out.trans (hb.mono HBw.out.size))
  clear hb
  obtain ⟨wl, hwl⟩ : ∃ wl, w3.alloc (.cells #[.int .i64 4, .string ⟨#[]⟩, .string ⟨#[120]⟩, .slice none 0 0, .slice none 0 0, .int .i64 4, .string ⟨#[]⟩, .string ⟨#[121]⟩, .slice none 0 0, .slice none 0 0, .int .i64 4, .string ⟨#[]⟩, .string ⟨#[122]⟩, .slice none 0 0, .slice none 0 0] 25) = wl := ⟨_, rfl⟩
  have hb : Below w3.heap.size w3 wl := by subst hwl; exact below1 _ _
  have Iwl : Hid (IIn wl 1 (some ⟨w3.heap.size, 0, none⟩) kL) := by subst hwl; exact leaf_row kL_leaf (heap_alloc_new _ _) rfl
  have Rwl : Hid (wl.heap[w3.heap.size]? = some (.cells #[.int .i64 4, .string ⟨#[]⟩, .string ⟨#[120]⟩, .slice none 0 0, .slice none 0 0, .int .i64 4, .string ⟨#[]⟩, .string ⟨#[121]⟩, .slice none 0 0, .slice none 0 0, .int .i64 4, .string ⟨#[]⟩, .string ⟨#[122]⟩, .slice none 0 0, .slice none 0 0] 25 (0, 0))) := by subst hwl; exact heap_alloc_new _ _
  have HBw := Hid.mk (HBw.out.trans (hb.mono HBw.out.size))
  clear hb
  have HBwl := Hid.mk (Below.refl wl.heap.size wl)
  go_wp2_with fail
  (try simp only [hwl])
  clear hwl
  refine (w_whole 50 wl).mono ?_
  rintro e w4 ⟨rfl, hb⟩
  have HBw := Hid.mk (HBw.out.trans (hb.mono HBw.out.size))
  have HBwl := Hid.mk (HBwl.out.trans (hb.mono HBwl.out.size))
  clear hb
  go_wp2_with fail
  refine (w_whole 49 w4).mono ?_
  rintro e w5 ⟨rfl, hb⟩
  have HBw := Hid.mk (HBw.out.trans (hb.mono HBw.out.size))
  have HBwl := Hid.mk (HBwl.out.trans (hb.mono HBwl.out.size))
  clear hb
  go_wp2_with fail
  refine (w_whole 50 w5).mono ?_
  rintro e w6 ⟨rfl, hb⟩
  have HBw := Hid.mk (HBw.out.trans (hb.mono HBw.out.size))
  have HBwl := Hid.mk (HBwl.out.trans (hb.mono HBwl.out.size))
  clear hb
  obtain ⟨wk, hwk⟩ : ∃ wk, w6.alloc (.cells #[.int .i64 3, .string ⟨#[50]⟩, .string ⟨#[]⟩, .slice none 0 0, .slice none 0 0, .int .i64 3, .string ⟨#[49]⟩, .string ⟨#[]⟩, .slice none 0 0, .slice none 0 0, .int .i64 3, .string ⟨#[50]⟩, .string ⟨#[]⟩, .slice none 0 0, .slice none 0 0] 25) = wk := ⟨_, rfl⟩
  have hb : Below w6.heap.size w6 wk := by subst hwk; exact below1 _ _
  have Iwk : Hid (IIn wk 1 (some ⟨w6.heap.size, 0, none⟩) kK) := by subst hwk; exact leaf_row kK_leaf (heap_alloc_new _ _) rfl
  have Rwk : Hid (wk.heap[w6.heap.size]? = some (.cells #[.int .i64 3, .string ⟨#[50]⟩, .string ⟨#[]⟩, .slice none 0 0, .slice none 0 0, .int .i64 3, .string ⟨#[49]⟩, .string ⟨#[]⟩, .slice none 0 0, .slice none 0 0, .int .i64 3, .string ⟨#[50]⟩, .string ⟨#[]⟩, .slice none 0 0, .slice none 0 0] 25 (0, 0))) := by subst hwk; exact heap_alloc_new _ _
  have HBw := Hid.mk (HBw.out.trans (hb.mono HBw.out.size))
  have HBwl := Hid.mk (HBwl.out.trans (hb.mono HBwl.out.size))
  clear hb
  have HBwk := Hid.mk (Below.refl wk.heap.size wk)
  go_wp2_with fail
  (try simp only [hwk])
  clear hwk
  have HC := Hid.mk (w_SortBy 1 (some ⟨w3.heap.size, 0, none⟩) 3 3 (some ⟨w6.heap.size, 0, none⟩) 3 3 kL kK wk (Iwl.out.keep HBwl.out) rfl (by decide) (by decide) (Iwk.out.keep HBwk.out) rfl (by decide) (by decide) (fun T hT => leaf_sz (kL_leaf T hT)))
  rw [k_sort, k_E] at HC
  refine (HC.out).mono ?_
  rintro e w7 ⟨ga, na, rfl, ht, _, hb⟩
  have HBw := Hid.mk (HBw.out.trans (hb.mono HBw.out.size))
  have HBwl := Hid.mk (HBwl.out.trans (hb.mono HBwl.out.size))
  have HBwk := Hid.mk (HBwk.out.trans (hb.mono HBwk.out.size))
  clear hb
  obtain rfl : na = 3 := ht.len.symm
  have HTa := Hid.mk ht
  clear ht HC
  have HBa := Hid.mk (Below.refl w7.heap.size w7)
  go_wp2_with fail
  have HC := Hid.mk (w_Unique 1 (some ⟨w3.heap.size, 0, none⟩) 3 3 (some ⟨w6.heap.size, 0, none⟩) 3 3 kL kK w7 (Iwl.out.keep HBwl.out) rfl (by decide) (by decide) (Iwk.out.keep HBwk.out) rfl (by decide) (by decide) (fun T hT => leaf_sz (kL_leaf T hT)))
  rw [k_uniq, k_E] at HC
  refine (HC.out).mono ?_
  rintro e w8 ⟨gb2, nb, rfl, ht, _, hb⟩
  have HBw := Hid.mk (HBw.out.trans (hb.mono HBw.out.size))
  have HBwl := Hid.mk (HBwl.out.trans (hb.mono HBwl.out.size))
  have HBwk := Hid.mk (HBwk.out.trans (hb.mono HBwk.out.size))
  have HBa := Hid.mk (HBa.out.trans (hb.mono HBa.out.size))
  clear hb
  obtain rfl : nb = 2 := ht.len.symm
  have HTb := Hid.mk ht
  clear ht HC
  have HBb := Hid.mk (Below.refl w8.heap.size w8)
  go_wp2_with fail
  have HC := Hid.mk (w_Group 1 (some ⟨w3.heap.size, 0, none⟩) 3 3 (some ⟨w6.heap.size, 0, none⟩) 3 3 kL kK w8 (Iwl.out.keep HBwl.out) rfl (by decide) (by decide) (Iwk.out.keep HBwk.out) rfl (by decide) (by decide) (fun T hT => leaf_sz (kL_leaf T hT)))
  rw [k_group, k_E] at HC
  refine (HC.out).mono ?_
  rintro e w9 ⟨so, cap, rfl, hg, hb⟩
  have HBw := Hid.mk (HBw.out.trans (hb.mono HBw.out.size))
  have HBwl := Hid.mk (HBwl.out.trans (hb.mono HBwl.out.size))
  have HBwk := Hid.mk (HBwk.out.trans (hb.mono HBwk.out.size))
  have HBa := Hid.mk (HBa.out.trans (hb.mono HBa.out.size))
  have HBb := Hid.mk (HBb.out.trans (hb.mono HBb.out.size))
  clear hb
  obtain ⟨gb, hso, hgl, hgc⟩ := hg.row (by decide)
  subst hso
  obtain ⟨g1, hc1, ht1⟩ := hgc 1 (by decide)
  have hfit : 2 ≤ cap := hg.fit
  have HT1 := Hid.mk ht1
  have HC1 := Hid.mk hc1
  clear hg hgl hgc ht1 hc1 HC
  have HBg := Hid.mk (Below.refl w9.heap.size w9)
  have HCells : Hid (∀ u, Below w9.heap.size w9 u → u.cell? ⟨w3.heap.size, 0, none⟩ = some (.int .i64 4) ∧ u.cell? ⟨w3.heap.size, 1, none⟩ = some (.string ⟨#[]⟩) ∧ u.cell? ⟨w3.heap.size, 2, none⟩ = some (.string ⟨#[120]⟩) ∧ u.cell? ⟨w3.heap.size, 3, none⟩ = some (.slice none 0 0) ∧ u.cell? ⟨w3.heap.size, 4, none⟩ = some (.slice none 0 0) ∧ u.cell? ⟨w3.heap.size, 5, none⟩ = some (.int .i64 4) ∧ u.cell? ⟨w3.heap.size, 6, none⟩ = some (.string ⟨#[]⟩) ∧ u.cell? ⟨w3.heap.size, 7, none⟩ = some (.string ⟨#[121]⟩) ∧ u.cell? ⟨w3.heap.size, 8, none⟩ = some (.slice none 0 0) ∧ u.cell? ⟨w3.heap.size, 9, none⟩ = some (.slice none 0 0) ∧ u.cell? ⟨w3.heap.size, 10, none⟩ = some (.int .i64 4) ∧ u.cell? ⟨w3.heap.size, 11, none⟩ = some (.string ⟨#[]⟩) ∧ u.cell? ⟨w3.heap.size, 12, none⟩ = some (.string ⟨#[122]⟩) ∧ u.cell? ⟨w3.heap.size, 13, none⟩ = some (.slice none 0 0) ∧ u.cell? ⟨w3.heap.size, 14, none⟩ = some (.slice none 0 0) ∧ u.cell? ⟨gb, 1, none⟩ = some (.slice (some ⟨g1, 0, none⟩) 2 2)) := fun u hb =>
    have hbl := HBwl.out.trans (hb.mono HBwl.out.size)
    ⟨cell_keep hbl (cell_of_row _ _ 0 _ _ _ Rwl.out), cell_keep hbl (cell_of_row _ _ 1 _ _ _ Rwl.out), cell_keep hbl (cell_of_row _ _ 2 _ _ _ Rwl.out), cell_keep hbl (cell_of_row _ _ 3 _ _ _ Rwl.out), cell_keep hbl (cell_of_row _ _ 4 _ _ _ Rwl.out), cell_keep hbl (cell_of_row _ _ 5 _ _ _ Rwl.out), cell_keep hbl (cell_of_row _ _ 6 _ _ _ Rwl.out), cell_keep hbl (cell_of_row _ _ 7 _ _ _ Rwl.out), cell_keep hbl (cell_of_row _ _ 8 _ _ _ Rwl.out), cell_keep hbl (cell_of_row _ _ 9 _ _ _ Rwl.out), cell_keep hbl (cell_of_row _ _ 10 _ _ _ Rwl.out), cell_keep hbl (cell_of_row _ _ 11 _ _ _ Rwl.out), cell_keep hbl (cell_of_row _ _ 12 _ _ _ Rwl.out), cell_keep hbl (cell_of_row _ _ 13 _ _ _ Rwl.out), cell_keep hbl (cell_of_row _ _ 14 _ _ _ Rwl.out), cell_keep hb HC1.out⟩
  have HS1 : Hid (∀ v B, Below w9.heap.size w9 v → v.heap[B]? = some (.cells #[.int .i64 4, .string ⟨#[]⟩, .string ⟨#[121]⟩, .slice none 0 0, .slice none 0 0, .int .i64 4, .string ⟨#[]⟩, .string ⟨#[120]⟩, .slice none 0 0, .slice none 0 0, .int .i64 4, .string ⟨#[]⟩, .string ⟨#[122]⟩, .slice none 0 0, .slice none 0 0] 25 (0, 0)) → Calls Try.prog 14 #[.slice (some ⟨ga, 0, none⟩) 3 3, .slice (some ⟨B, 0, none⟩) 3 3] v fun e w' => e = .returned (.bool true) ∧ Below v.heap.size v w') := fun v B hb hB => by
    have h := w_SameValues 1 (some ⟨ga, 0, none⟩) 3 3 [tW 121, tW 120, tW 122] (some ⟨B, 0, none⟩) 3 3 [tW 121, tW 120, tW 122] v ((HTa.out.low (HBa.out.trans (hb.mono HBa.out.size))).toI) (leaf_row (fun T hT => kL_leaf T (by simp [kL] at hT ⊢; first | (rcases hT with h | h | h <;> simp [h]) | (rcases hT with h | h <;> simp [h]))) hB rfl) rfl rfl (by decide) (by decide) (by decide) (by decide)
    rw [sm_yes] at h
    exact h
  have HS2 : Hid (∀ v B, Below w9.heap.size w9 v → v.heap[B]? = some (.cells #[.int .i64 4, .string ⟨#[]⟩, .string ⟨#[121]⟩, .slice none 0 0, .slice none 0 0, .int .i64 4, .string ⟨#[]⟩, .string ⟨#[120]⟩, .slice none 0 0, .slice none 0 0] 25 (0, 0)) → Calls Try.prog 14 #[.slice (some ⟨gb2, 0, none⟩) 2 2, .slice (some ⟨B, 0, none⟩) 2 2] v fun e w' => e = .returned (.bool true) ∧ Below v.heap.size v w') := fun v B hb hB => by
    have h := w_SameValues 1 (some ⟨gb2, 0, none⟩) 2 2 [tW 121, tW 120] (some ⟨B, 0, none⟩) 2 2 [tW 121, tW 120] v ((HTb.out.low (HBb.out.trans (hb.mono HBb.out.size))).toI) (leaf_row (fun T hT => kL_leaf T (by simp [kL] at hT ⊢; first | (rcases hT with h | h | h <;> simp [h]) | (rcases hT with h | h <;> simp [h]))) hB rfl) rfl rfl (by decide) (by decide) (by decide) (by decide)
    rw [sm_yes] at h
    exact h
  have HS3 : Hid (∀ v B, Below w9.heap.size w9 v → v.heap[B]? = some (.cells #[.int .i64 4, .string ⟨#[]⟩, .string ⟨#[120]⟩, .slice none 0 0, .slice none 0 0, .int .i64 4, .string ⟨#[]⟩, .string ⟨#[122]⟩, .slice none 0 0, .slice none 0 0] 25 (0, 0)) → Calls Try.prog 14 #[.slice (some ⟨g1, 0, none⟩) 2 2, .slice (some ⟨B, 0, none⟩) 2 2] v fun e w' => e = .returned (.bool true) ∧ Below v.heap.size v w') := fun v B hb hB => by
    have h := w_SameValues 1 (some ⟨g1, 0, none⟩) 2 2 [tW 120, tW 122] (some ⟨B, 0, none⟩) 2 2 [tW 120, tW 122] v ((HT1.out.low (HBg.out.trans (hb.mono HBg.out.size))).toI) (leaf_row (fun T hT => kL_leaf T (by simp [kL] at hT ⊢; first | (rcases hT with h | h | h <;> simp [h]) | (rcases hT with h | h <;> simp [h]))) hB rfl) rfl rfl (by decide) (by decide) (by decide) (by decide)
    rw [sm_yes] at h
    exact h
  have HW := Hid.mk (Below.refl w9.heap.size w9)
  go_wp2_with fail
  go_region_held3 (fun u => u.cell? ⟨w3.heap.size, 0, none⟩ = some (.int .i64 4) ∧ u.cell? ⟨w3.heap.size, 1, none⟩ = some (.string ⟨#[]⟩) ∧ u.cell? ⟨w3.heap.size, 2, none⟩ = some (.string ⟨#[120]⟩) ∧ u.cell? ⟨w3.heap.size, 3, none⟩ = some (.slice none 0 0) ∧ u.cell? ⟨w3.heap.size, 4, none⟩ = some (.slice none 0 0) ∧ u.cell? ⟨w3.heap.size, 5, none⟩ = some (.int .i64 4) ∧ u.cell? ⟨w3.heap.size, 6, none⟩ = some (.string ⟨#[]⟩) ∧ u.cell? ⟨w3.heap.size, 7, none⟩ = some (.string ⟨#[121]⟩) ∧ u.cell? ⟨w3.heap.size, 8, none⟩ = some (.slice none 0 0) ∧ u.cell? ⟨w3.heap.size, 9, none⟩ = some (.slice none 0 0) ∧ u.cell? ⟨w3.heap.size, 10, none⟩ = some (.int .i64 4) ∧ u.cell? ⟨w3.heap.size, 11, none⟩ = some (.string ⟨#[]⟩) ∧ u.cell? ⟨w3.heap.size, 12, none⟩ = some (.string ⟨#[122]⟩) ∧ u.cell? ⟨w3.heap.size, 13, none⟩ = some (.slice none 0 0) ∧ u.cell? ⟨w3.heap.size, 14, none⟩ = some (.slice none 0 0) ∧ u.cell? ⟨gb, 1, none⟩ = some (.slice (some ⟨g1, 0, none⟩) 2 2)) (exact HCells.out _ (by first | exact HW.out | exact HW.out.drew | exact HW.out.alloc HW.out.size _ | exact (HW.out.alloc HW.out.size _).drew | exact HW.out.drew.alloc HW.out.size _)) (first | (go_at_call_of 14 (Value.slice (some (⟨ga, 0, none⟩ : Addr)) 3 3); refine (HS1.out _ _ (by first | exact HW.out | exact HW.out.drew | exact HW.out.alloc HW.out.size _ | exact (HW.out.alloc HW.out.size _).drew | exact HW.out.drew.alloc HW.out.size _) (by first | exact heap_alloc_new _ _)).mono ?_; rintro e v1 ⟨rfl, hb⟩; have HW : Hid (Below w9.heap.size w9 v1) := (by first | exact (HW.out.alloc HW.out.size _).trans (hb.mono (HW.out.alloc HW.out.size _).size) | exact (HW.out.alloc HW.out.size _).drew.trans (hb.mono (HW.out.alloc HW.out.size _).size) | exact (HW.out.drew.alloc HW.out.size _).trans (hb.mono (HW.out.drew.alloc HW.out.size _).size)); clear hb) | (go_at_call_of 14 (Value.slice (some (⟨gb2, 0, none⟩ : Addr)) 2 2); refine (HS2.out _ _ (by first | exact HW.out | exact HW.out.drew | exact HW.out.alloc HW.out.size _ | exact (HW.out.alloc HW.out.size _).drew | exact HW.out.drew.alloc HW.out.size _) (by first | exact heap_alloc_new _ _)).mono ?_; rintro e v2 ⟨rfl, hb⟩; have HW : Hid (Below w9.heap.size w9 v2) := (by first | exact (HW.out.alloc HW.out.size _).trans (hb.mono (HW.out.alloc HW.out.size _).size) | exact (HW.out.alloc HW.out.size _).drew.trans (hb.mono (HW.out.alloc HW.out.size _).size) | exact (HW.out.drew.alloc HW.out.size _).trans (hb.mono (HW.out.drew.alloc HW.out.size _).size)); clear hb) | (go_at_call_of 14 (Value.slice (some (⟨g1, 0, none⟩ : Addr)) 2 2); refine (HS3.out _ _ (by first | exact HW.out | exact HW.out.drew | exact HW.out.alloc HW.out.size _ | exact (HW.out.alloc HW.out.size _).drew | exact HW.out.drew.alloc HW.out.size _) (by first | exact heap_alloc_new _ _)).mono ?_; rintro e v3 ⟨rfl, hb⟩; have HW : Hid (Below w9.heap.size w9 v3) := (by first | exact (HW.out.alloc HW.out.size _).trans (hb.mono (HW.out.alloc HW.out.size _).size) | exact (HW.out.alloc HW.out.size _).drew.trans (hb.mono (HW.out.alloc HW.out.size _).size) | exact (HW.out.drew.alloc HW.out.size _).trans (hb.mono (HW.out.drew.alloc HW.out.size _).size)); clear hb))
  have hb := HW.out
  have HBw := Hid.mk (HBw.out.trans (hb.mono HBw.out.size))
  have HBwl := Hid.mk (HBwl.out.trans (hb.mono HBwl.out.size))
  have HBwk := Hid.mk (HBwk.out.trans (hb.mono HBwk.out.size))
  have HBa := Hid.mk (HBa.out.trans (hb.mono HBa.out.size))
  have HBb := Hid.mk (HBb.out.trans (hb.mono HBb.out.size))
  have HBg := Hid.mk (HBg.out.trans (hb.mono HBg.out.size))
  clear hb HW HS1 HS2 HS3 HCells HC1
  go_wp2_with fail
  refine (w_whole 49 v3).mono ?_
  rintro e w21 ⟨rfl, hb⟩
  have HBw := Hid.mk (HBw.out.trans (hb.mono HBw.out.size))
  have HBwl := Hid.mk (HBwl.out.trans (hb.mono HBwl.out.size))
  have HBwk := Hid.mk (HBwk.out.trans (hb.mono HBwk.out.size))
  have HBa := Hid.mk (HBa.out.trans (hb.mono HBa.out.size))
  have HBb := Hid.mk (HBb.out.trans (hb.mono HBb.out.size))
  have HBg := Hid.mk (HBg.out.trans (hb.mono HBg.out.size))
  clear hb
  go_wp2_with fail
  refine (w_whole 51 w21).mono ?_
  rintro e w22 ⟨rfl, hb⟩
  have HBw := Hid.mk (HBw.out.trans (hb.mono HBw.out.size))
  have HBwl := Hid.mk (HBwl.out.trans (hb.mono HBwl.out.size))
  have HBwk := Hid.mk (HBwk.out.trans (hb.mono HBwk.out.size))
  have HBa := Hid.mk (HBa.out.trans (hb.mono HBa.out.size))
  have HBb := Hid.mk (HBb.out.trans (hb.mono HBb.out.size))
  have HBg := Hid.mk (HBg.out.trans (hb.mono HBg.out.size))
  clear hb
  obtain ⟨wA, hwA⟩ : ∃ wA, w22.alloc (.cells #[.int .i64 3, .string ⟨#[49]⟩, .string ⟨#[]⟩, .slice none 0 0, .slice none 0 0, .int .i64 3, .string ⟨#[51]⟩, .string ⟨#[]⟩, .slice none 0 0, .slice none 0 0] 25) = wA := ⟨_, rfl⟩
  have hb : Below w22.heap.size w22 wA := by subst hwA; exact below1 _ _
  have IwA : Hid (IIn wA 1 (some ⟨w22.heap.size, 0, none⟩) kA) := by subst hwA; exact leaf_row kA_leaf (heap_alloc_new _ _) rfl
  have RwA : Hid (wA.heap[w22.heap.size]? = some (.cells #[.int .i64 3, .string ⟨#[49]⟩, .string ⟨#[]⟩, .slice none 0 0, .slice none 0 0, .int .i64 3, .string ⟨#[51]⟩, .string ⟨#[]⟩, .slice none 0 0, .slice none 0 0] 25 (0, 0))) := by subst hwA; exact heap_alloc_new _ _
  have HBw := Hid.mk (HBw.out.trans (hb.mono HBw.out.size))
  have HBwl := Hid.mk (HBwl.out.trans (hb.mono HBwl.out.size))
  have HBwk := Hid.mk (HBwk.out.trans (hb.mono HBwk.out.size))
  have HBa := Hid.mk (HBa.out.trans (hb.mono HBa.out.size))
  have HBb := Hid.mk (HBb.out.trans (hb.mono HBb.out.size))
  have HBg := Hid.mk (HBg.out.trans (hb.mono HBg.out.size))
  clear hb
  have HBwA := Hid.mk (Below.refl wA.heap.size wA)
  go_wp2_with fail
  (try simp only [hwA])
  clear hwA
  refine (w_whole 50 wA).mono ?_
  rintro e w23 ⟨rfl, hb⟩
  have HBw := Hid.mk (HBw.out.trans (hb.mono HBw.out.size))
  have HBwl := Hid.mk (HBwl.out.trans (hb.mono HBwl.out.size))
  have HBwk := Hid.mk (HBwk.out.trans (hb.mono HBwk.out.size))
  have HBa := Hid.mk (HBa.out.trans (hb.mono HBa.out.size))
  have HBb := Hid.mk (HBb.out.trans (hb.mono HBb.out.size))
  have HBg := Hid.mk (HBg.out.trans (hb.mono HBg.out.size))
  have HBwA := Hid.mk (HBwA.out.trans (hb.mono HBwA.out.size))
  clear hb
  go_wp2_with fail
  refine (w_whole 51 w23).mono ?_
  rintro e w24 ⟨rfl, hb⟩
  have HBw := Hid.mk (HBw.out.trans (hb.mono HBw.out.size))
  have HBwl := Hid.mk (HBwl.out.trans (hb.mono HBwl.out.size))
  have HBwk := Hid.mk (HBwk.out.trans (hb.mono HBwk.out.size))
  have HBa := Hid.mk (HBa.out.trans (hb.mono HBa.out.size))
  have HBb := Hid.mk (HBb.out.trans (hb.mono HBb.out.size))
  have HBg := Hid.mk (HBg.out.trans (hb.mono HBg.out.size))
  have HBwA := Hid.mk (HBwA.out.trans (hb.mono HBwA.out.size))
  clear hb
  obtain ⟨wB, hwB⟩ : ∃ wB, w24.alloc (.cells #[.int .i64 3, .string ⟨#[50]⟩, .string ⟨#[]⟩, .slice none 0 0, .slice none 0 0, .int .i64 3, .string ⟨#[51]⟩, .string ⟨#[]⟩, .slice none 0 0, .slice none 0 0] 25) = wB := ⟨_, rfl⟩
  have hb : Below w24.heap.size w24 wB := by subst hwB; exact below1 _ _
  have IwB : Hid (IIn wB 1 (some ⟨w24.heap.size, 0, none⟩) kB) := by subst hwB; exact leaf_row kB_leaf (heap_alloc_new _ _) rfl
  have RwB : Hid (wB.heap[w24.heap.size]? = some (.cells #[.int .i64 3, .string ⟨#[50]⟩, .string ⟨#[]⟩, .slice none 0 0, .slice none 0 0, .int .i64 3, .string ⟨#[51]⟩, .string ⟨#[]⟩, .slice none 0 0, .slice none 0 0] 25 (0, 0))) := by subst hwB; exact heap_alloc_new _ _
  have HBw := Hid.mk (HBw.out.trans (hb.mono HBw.out.size))
  have HBwl := Hid.mk (HBwl.out.trans (hb.mono HBwl.out.size))
  have HBwk := Hid.mk (HBwk.out.trans (hb.mono HBwk.out.size))
  have HBa := Hid.mk (HBa.out.trans (hb.mono HBa.out.size))
  have HBb := Hid.mk (HBb.out.trans (hb.mono HBb.out.size))
  have HBg := Hid.mk (HBg.out.trans (hb.mono HBg.out.size))
  have HBwA := Hid.mk (HBwA.out.trans (hb.mono HBwA.out.size))
  clear hb
  have HBwB := Hid.mk (Below.refl wB.heap.size wB)
  go_wp2_with fail
  (try simp only [hwB])
  clear hwB
  have HC := Hid.mk (w_Merge 1 (some ⟨w22.heap.size, 0, none⟩) 2 2 (some ⟨w24.heap.size, 0, none⟩) 2 2 kA kB wB (IwA.out.keep HBwA.out) rfl (by decide) (fun e => by cases e) (by decide) (IwB.out.keep HBwB.out) rfl (by decide) (fun e => by cases e) (by decide) (fun T hT => leaf_sz (kA_leaf T hT)) (fun T hT => leaf_sz (kB_leaf T hT)))
  rw [k_merge, k_mE] at HC
  refine (HC.out).mono ?_
  rintro e w25 ⟨so2, nd, rfl, hlen, hid, hb, hok⟩
  have HBw := Hid.mk (HBw.out.trans (hb.mono HBw.out.size))
  have HBwl := Hid.mk (HBwl.out.trans (hb.mono HBwl.out.size))
  have HBwk := Hid.mk (HBwk.out.trans (hb.mono HBwk.out.size))
  have HBa := Hid.mk (HBa.out.trans (hb.mono HBa.out.size))
  have HBb := Hid.mk (HBb.out.trans (hb.mono HBb.out.size))
  have HBg := Hid.mk (HBg.out.trans (hb.mono HBg.out.size))
  have HBwA := Hid.mk (HBwA.out.trans (hb.mono HBwA.out.size))
  have HBwB := Hid.mk (HBwB.out.trans (hb.mono HBwB.out.size))
  clear hb
  obtain rfl : nd = 4 := hlen.symm
  obtain ⟨gd, hso2, _, _⟩ := hok rfl
  subst hso2
  have HTd := Hid.mk hid
  have HBd := Hid.mk (Below.refl w25.heap.size w25)
  clear hid HC hlen hok
  go_wp2_with fail
  refine (w_whole 49 w25).mono ?_
  rintro e w26 ⟨rfl, hb⟩
  have HBw := Hid.mk (HBw.out.trans (hb.mono HBw.out.size))
  have HBwl := Hid.mk (HBwl.out.trans (hb.mono HBwl.out.size))
  have HBwk := Hid.mk (HBwk.out.trans (hb.mono HBwk.out.size))
  have HBa := Hid.mk (HBa.out.trans (hb.mono HBa.out.size))
  have HBb := Hid.mk (HBb.out.trans (hb.mono HBb.out.size))
  have HBg := Hid.mk (HBg.out.trans (hb.mono HBg.out.size))
  have HBwA := Hid.mk (HBwA.out.trans (hb.mono HBwA.out.size))
  have HBwB := Hid.mk (HBwB.out.trans (hb.mono HBwB.out.size))
  have HBd := Hid.mk (HBd.out.trans (hb.mono HBd.out.size))
  clear hb
  go_wp2_with fail
  refine (w_whole 50 w26).mono ?_
  rintro e w27 ⟨rfl, hb⟩
  have HBw := Hid.mk (HBw.out.trans (hb.mono HBw.out.size))
  have HBwl := Hid.mk (HBwl.out.trans (hb.mono HBwl.out.size))
  have HBwk := Hid.mk (HBwk.out.trans (hb.mono HBwk.out.size))
  have HBa := Hid.mk (HBa.out.trans (hb.mono HBa.out.size))
  have HBb := Hid.mk (HBb.out.trans (hb.mono HBb.out.size))
  have HBg := Hid.mk (HBg.out.trans (hb.mono HBg.out.size))
  have HBwA := Hid.mk (HBwA.out.trans (hb.mono HBwA.out.size))
  have HBwB := Hid.mk (HBwB.out.trans (hb.mono HBwB.out.size))
  have HBd := Hid.mk (HBd.out.trans (hb.mono HBd.out.size))
  clear hb
  go_wp2_with fail
  refine (w_whole 51 w27).mono ?_
  rintro e w28 ⟨rfl, hb⟩
  have HBw := Hid.mk (HBw.out.trans (hb.mono HBw.out.size))
  have HBwl := Hid.mk (HBwl.out.trans (hb.mono HBwl.out.size))
  have HBwk := Hid.mk (HBwk.out.trans (hb.mono HBwk.out.size))
  have HBa := Hid.mk (HBa.out.trans (hb.mono HBa.out.size))
  have HBb := Hid.mk (HBb.out.trans (hb.mono HBb.out.size))
  have HBg := Hid.mk (HBg.out.trans (hb.mono HBg.out.size))
  have HBwA := Hid.mk (HBwA.out.trans (hb.mono HBwA.out.size))
  have HBwB := Hid.mk (HBwB.out.trans (hb.mono HBwB.out.size))
  have HBd := Hid.mk (HBd.out.trans (hb.mono HBd.out.size))
  clear hb
  go_wp2_with fail
  refine (w_whole 51 w28).mono ?_
  rintro e w29 ⟨rfl, hb⟩
  have HBw := Hid.mk (HBw.out.trans (hb.mono HBw.out.size))
  have HBwl := Hid.mk (HBwl.out.trans (hb.mono HBwl.out.size))
  have HBwk := Hid.mk (HBwk.out.trans (hb.mono HBwk.out.size))
  have HBa := Hid.mk (HBa.out.trans (hb.mono HBa.out.size))
  have HBb := Hid.mk (HBb.out.trans (hb.mono HBb.out.size))
  have HBg := Hid.mk (HBg.out.trans (hb.mono HBg.out.size))
  have HBwA := Hid.mk (HBwA.out.trans (hb.mono HBwA.out.size))
  have HBwB := Hid.mk (HBwB.out.trans (hb.mono HBwB.out.size))
  have HBd := Hid.mk (HBd.out.trans (hb.mono HBd.out.size))
  clear hb
  obtain ⟨wD, hwD⟩ : ∃ wD, w29.alloc (.cells #[.int .i64 3, .string ⟨#[49]⟩, .string ⟨#[]⟩, .slice none 0 0, .slice none 0 0, .int .i64 3, .string ⟨#[50]⟩, .string ⟨#[]⟩, .slice none 0 0, .slice none 0 0, .int .i64 3, .string ⟨#[51]⟩, .string ⟨#[]⟩, .slice none 0 0, .slice none 0 0, .int .i64 3, .string ⟨#[51]⟩, .string ⟨#[]⟩, .slice none 0 0, .slice none 0 0] 25) = wD := ⟨_, rfl⟩
  have hb : Below w29.heap.size w29 wD := by subst hwD; exact below1 _ _
  have IwD : Hid (IIn wD 1 (some ⟨w29.heap.size, 0, none⟩) kD) := by subst hwD; exact leaf_row kD_leaf (heap_alloc_new _ _) rfl
  have RwD : Hid (wD.heap[w29.heap.size]? = some (.cells #[.int .i64 3, .string ⟨#[49]⟩, .string ⟨#[]⟩, .slice none 0 0, .slice none 0 0, .int .i64 3, .string ⟨#[50]⟩, .string ⟨#[]⟩, .slice none 0 0, .slice none 0 0, .int .i64 3, .string ⟨#[51]⟩, .string ⟨#[]⟩, .slice none 0 0, .slice none 0 0, .int .i64 3, .string ⟨#[51]⟩, .string ⟨#[]⟩, .slice none 0 0, .slice none 0 0] 25 (0, 0))) := by subst hwD; exact heap_alloc_new _ _
  have HBw := Hid.mk (HBw.out.trans (hb.mono HBw.out.size))
  have HBwl := Hid.mk (HBwl.out.trans (hb.mono HBwl.out.size))
  have HBwk := Hid.mk (HBwk.out.trans (hb.mono HBwk.out.size))
  have HBa := Hid.mk (HBa.out.trans (hb.mono HBa.out.size))
  have HBb := Hid.mk (HBb.out.trans (hb.mono HBb.out.size))
  have HBg := Hid.mk (HBg.out.trans (hb.mono HBg.out.size))
  have HBwA := Hid.mk (HBwA.out.trans (hb.mono HBwA.out.size))
  have HBwB := Hid.mk (HBwB.out.trans (hb.mono HBwB.out.size))
  have HBd := Hid.mk (HBd.out.trans (hb.mono HBd.out.size))
  clear hb
  have HBwD := Hid.mk (Below.refl wD.heap.size wD)
  go_wp2_with fail
  (try simp only [hwD])
  clear hwD
  have HC := Hid.mk (w_SameValues 1 (some ⟨gd, 0, none⟩) 4 4 kD (some ⟨w29.heap.size, 0, none⟩) 4 4 kD wD (HTd.out.keep HBd.out) (IwD.out.keep HBwD.out) rfl rfl (by decide) (by decide) (by decide) (by decide))
  rw [sm_yes] at HC
  refine (HC.out).mono ?_
  rintro e w30 ⟨rfl, hb⟩
  have HBw := Hid.mk (HBw.out.trans (hb.mono HBw.out.size))
  have HBwl := Hid.mk (HBwl.out.trans (hb.mono HBwl.out.size))
  have HBwk := Hid.mk (HBwk.out.trans (hb.mono HBwk.out.size))
  have HBa := Hid.mk (HBa.out.trans (hb.mono HBa.out.size))
  have HBb := Hid.mk (HBb.out.trans (hb.mono HBb.out.size))
  have HBg := Hid.mk (HBg.out.trans (hb.mono HBg.out.size))
  have HBwA := Hid.mk (HBwA.out.trans (hb.mono HBwA.out.size))
  have HBwB := Hid.mk (HBwB.out.trans (hb.mono HBwB.out.size))
  have HBd := Hid.mk (HBd.out.trans (hb.mono HBd.out.size))
  have HBwD := Hid.mk (HBwD.out.trans (hb.mono HBwD.out.size))
  clear hb
  clear HC
  go_wp2_with fail
  refine (w_whole 50 w30).mono ?_
  rintro e w31 ⟨rfl, hb⟩
  have HBw := Hid.mk (HBw.out.trans (hb.mono HBw.out.size))
  have HBwl := Hid.mk (HBwl.out.trans (hb.mono HBwl.out.size))
  have HBwk := Hid.mk (HBwk.out.trans (hb.mono HBwk.out.size))
  have HBa := Hid.mk (HBa.out.trans (hb.mono HBa.out.size))
  have HBb := Hid.mk (HBb.out.trans (hb.mono HBb.out.size))
  have HBg := Hid.mk (HBg.out.trans (hb.mono HBg.out.size))
  have HBwA := Hid.mk (HBwA.out.trans (hb.mono HBwA.out.size))
  have HBwB := Hid.mk (HBwB.out.trans (hb.mono HBwB.out.size))
  have HBd := Hid.mk (HBd.out.trans (hb.mono HBd.out.size))
  have HBwD := Hid.mk (HBwD.out.trans (hb.mono HBwD.out.size))
  clear hb
  go_wp2_with fail
  refine (w_whole 49 w31).mono ?_
  rintro e w32 ⟨rfl, hb⟩
  have HBw := Hid.mk (HBw.out.trans (hb.mono HBw.out.size))
  have HBwl := Hid.mk (HBwl.out.trans (hb.mono HBwl.out.size))
  have HBwk := Hid.mk (HBwk.out.trans (hb.mono HBwk.out.size))
  have HBa := Hid.mk (HBa.out.trans (hb.mono HBa.out.size))
  have HBb := Hid.mk (HBb.out.trans (hb.mono HBb.out.size))
  have HBg := Hid.mk (HBg.out.trans (hb.mono HBg.out.size))
  have HBwA := Hid.mk (HBwA.out.trans (hb.mono HBwA.out.size))
  have HBwB := Hid.mk (HBwB.out.trans (hb.mono HBwB.out.size))
  have HBd := Hid.mk (HBd.out.trans (hb.mono HBd.out.size))
  have HBwD := Hid.mk (HBwD.out.trans (hb.mono HBwD.out.size))
  clear hb
  go_wp2_with fail
  refine (w_whole 49 w32).mono ?_
  rintro e w33 ⟨rfl, hb⟩
  have HBw := Hid.mk (HBw.out.trans (hb.mono HBw.out.size))
  have HBwl := Hid.mk (HBwl.out.trans (hb.mono HBwl.out.size))
  have HBwk := Hid.mk (HBwk.out.trans (hb.mono HBwk.out.size))
  have HBa := Hid.mk (HBa.out.trans (hb.mono HBa.out.size))
  have HBb := Hid.mk (HBb.out.trans (hb.mono HBb.out.size))
  have HBg := Hid.mk (HBg.out.trans (hb.mono HBg.out.size))
  have HBwA := Hid.mk (HBwA.out.trans (hb.mono HBwA.out.size))
  have HBwB := Hid.mk (HBwB.out.trans (hb.mono HBwB.out.size))
  have HBd := Hid.mk (HBd.out.trans (hb.mono HBd.out.size))
  have HBwD := Hid.mk (HBwD.out.trans (hb.mono HBwD.out.size))
  clear hb
  obtain ⟨wP, hwP⟩ : ∃ wP, w33.alloc (.cells #[.int .i64 3, .string ⟨#[50]⟩, .string ⟨#[]⟩, .slice none 0 0, .slice none 0 0, .int .i64 3, .string ⟨#[49]⟩, .string ⟨#[]⟩, .slice none 0 0, .slice none 0 0, .int .i64 3, .string ⟨#[49]⟩, .string ⟨#[]⟩, .slice none 0 0, .slice none 0 0] 25) = wP := ⟨_, rfl⟩
  have hb : Below w33.heap.size w33 wP := by subst hwP; exact below1 _ _
  have IwP : Hid (IIn wP 1 (some ⟨w33.heap.size, 0, none⟩) kP) := by subst hwP; exact leaf_row kP_leaf (heap_alloc_new _ _) rfl
  have RwP : Hid (wP.heap[w33.heap.size]? = some (.cells #[.int .i64 3, .string ⟨#[50]⟩, .string ⟨#[]⟩, .slice none 0 0, .slice none 0 0, .int .i64 3, .string ⟨#[49]⟩, .string ⟨#[]⟩, .slice none 0 0, .slice none 0 0, .int .i64 3, .string ⟨#[49]⟩, .string ⟨#[]⟩, .slice none 0 0, .slice none 0 0] 25 (0, 0))) := by subst hwP; exact heap_alloc_new _ _
  have HBw := Hid.mk (HBw.out.trans (hb.mono HBw.out.size))
  have HBwl := Hid.mk (HBwl.out.trans (hb.mono HBwl.out.size))
  have HBwk := Hid.mk (HBwk.out.trans (hb.mono HBwk.out.size))
  have HBa := Hid.mk (HBa.out.trans (hb.mono HBa.out.size))
  have HBb := Hid.mk (HBb.out.trans (hb.mono HBb.out.size))
  have HBg := Hid.mk (HBg.out.trans (hb.mono HBg.out.size))
  have HBwA := Hid.mk (HBwA.out.trans (hb.mono HBwA.out.size))
  have HBwB := Hid.mk (HBwB.out.trans (hb.mono HBwB.out.size))
  have HBd := Hid.mk (HBd.out.trans (hb.mono HBd.out.size))
  have HBwD := Hid.mk (HBwD.out.trans (hb.mono HBwD.out.size))
  clear hb
  have HBwP := Hid.mk (Below.refl wP.heap.size wP)
  go_wp2_with fail
  (try simp only [hwP])
  clear hwP
  have HC := Hid.mk (w_oLeast 1 (some ⟨w33.heap.size, 0, none⟩) 3 3 kP wP (IwP.out.keep HBwP.out) rfl (by decide) (by decide))
  rw [k_least, k_leastE] at HC
  refine (HC.out).mono ?_
  rintro e w34 ⟨rfl, hb⟩
  have HBw := Hid.mk (HBw.out.trans (hb.mono HBw.out.size))
  have HBwl := Hid.mk (HBwl.out.trans (hb.mono HBwl.out.size))
  have HBwk := Hid.mk (HBwk.out.trans (hb.mono HBwk.out.size))
  have HBa := Hid.mk (HBa.out.trans (hb.mono HBa.out.size))
  have HBb := Hid.mk (HBb.out.trans (hb.mono HBb.out.size))
  have HBg := Hid.mk (HBg.out.trans (hb.mono HBg.out.size))
  have HBwA := Hid.mk (HBwA.out.trans (hb.mono HBwA.out.size))
  have HBwB := Hid.mk (HBwB.out.trans (hb.mono HBwB.out.size))
  have HBd := Hid.mk (HBd.out.trans (hb.mono HBd.out.size))
  have HBwD := Hid.mk (HBwD.out.trans (hb.mono HBwD.out.size))
  have HBwP := Hid.mk (HBwP.out.trans (hb.mono HBwP.out.size))
  clear hb
  clear HC
  go_wp2_with fail
  refine (w_whole 50 w34).mono ?_
  rintro e w35 ⟨rfl, hb⟩
  have HBw := Hid.mk (HBw.out.trans (hb.mono HBw.out.size))
  have HBwl := Hid.mk (HBwl.out.trans (hb.mono HBwl.out.size))
  have HBwk := Hid.mk (HBwk.out.trans (hb.mono HBwk.out.size))
  have HBa := Hid.mk (HBa.out.trans (hb.mono HBa.out.size))
  have HBb := Hid.mk (HBb.out.trans (hb.mono HBb.out.size))
  have HBg := Hid.mk (HBg.out.trans (hb.mono HBg.out.size))
  have HBwA := Hid.mk (HBwA.out.trans (hb.mono HBwA.out.size))
  have HBwB := Hid.mk (HBwB.out.trans (hb.mono HBwB.out.size))
  have HBd := Hid.mk (HBd.out.trans (hb.mono HBd.out.size))
  have HBwD := Hid.mk (HBwD.out.trans (hb.mono HBwD.out.size))
  have HBwP := Hid.mk (HBwP.out.trans (hb.mono HBwP.out.size))
  clear hb
  go_wp2_with fail
  refine (w_whole 51 w35).mono ?_
  rintro e w36 ⟨rfl, hb⟩
  have HBw := Hid.mk (HBw.out.trans (hb.mono HBw.out.size))
  have HBwl := Hid.mk (HBwl.out.trans (hb.mono HBwl.out.size))
  have HBwk := Hid.mk (HBwk.out.trans (hb.mono HBwk.out.size))
  have HBa := Hid.mk (HBa.out.trans (hb.mono HBa.out.size))
  have HBb := Hid.mk (HBb.out.trans (hb.mono HBb.out.size))
  have HBg := Hid.mk (HBg.out.trans (hb.mono HBg.out.size))
  have HBwA := Hid.mk (HBwA.out.trans (hb.mono HBwA.out.size))
  have HBwB := Hid.mk (HBwB.out.trans (hb.mono HBwB.out.size))
  have HBd := Hid.mk (HBd.out.trans (hb.mono HBd.out.size))
  have HBwD := Hid.mk (HBwD.out.trans (hb.mono HBwD.out.size))
  have HBwP := Hid.mk (HBwP.out.trans (hb.mono HBwP.out.size))
  clear hb
  go_wp2_with fail
  refine (w_whole 51 w36).mono ?_
  rintro e w37 ⟨rfl, hb⟩
  have HBw := Hid.mk (HBw.out.trans (hb.mono HBw.out.size))
  have HBwl := Hid.mk (HBwl.out.trans (hb.mono HBwl.out.size))
  have HBwk := Hid.mk (HBwk.out.trans (hb.mono HBwk.out.size))
  have HBa := Hid.mk (HBa.out.trans (hb.mono HBa.out.size))
  have HBb := Hid.mk (HBb.out.trans (hb.mono HBb.out.size))
  have HBg := Hid.mk (HBg.out.trans (hb.mono HBg.out.size))
  have HBwA := Hid.mk (HBwA.out.trans (hb.mono HBwA.out.size))
  have HBwB := Hid.mk (HBwB.out.trans (hb.mono HBwB.out.size))
  have HBd := Hid.mk (HBd.out.trans (hb.mono HBd.out.size))
  have HBwD := Hid.mk (HBwD.out.trans (hb.mono HBwD.out.size))
  have HBwP := Hid.mk (HBwP.out.trans (hb.mono HBwP.out.size))
  clear hb
  obtain ⟨wQ, hwQ⟩ : ∃ wQ, w37.alloc (.cells #[.int .i64 3, .string ⟨#[50]⟩, .string ⟨#[]⟩, .slice none 0 0, .slice none 0 0, .int .i64 3, .string ⟨#[51]⟩, .string ⟨#[]⟩, .slice none 0 0, .slice none 0 0, .int .i64 3, .string ⟨#[51]⟩, .string ⟨#[]⟩, .slice none 0 0, .slice none 0 0] 25) = wQ := ⟨_, rfl⟩
  have hb : Below w37.heap.size w37 wQ := by subst hwQ; exact below1 _ _
  have IwQ : Hid (IIn wQ 1 (some ⟨w37.heap.size, 0, none⟩) kQ) := by subst hwQ; exact leaf_row kQ_leaf (heap_alloc_new _ _) rfl
  have RwQ : Hid (wQ.heap[w37.heap.size]? = some (.cells #[.int .i64 3, .string ⟨#[50]⟩, .string ⟨#[]⟩, .slice none 0 0, .slice none 0 0, .int .i64 3, .string ⟨#[51]⟩, .string ⟨#[]⟩, .slice none 0 0, .slice none 0 0, .int .i64 3, .string ⟨#[51]⟩, .string ⟨#[]⟩, .slice none 0 0, .slice none 0 0] 25 (0, 0))) := by subst hwQ; exact heap_alloc_new _ _
  have HBw := Hid.mk (HBw.out.trans (hb.mono HBw.out.size))
  have HBwl := Hid.mk (HBwl.out.trans (hb.mono HBwl.out.size))
  have HBwk := Hid.mk (HBwk.out.trans (hb.mono HBwk.out.size))
  have HBa := Hid.mk (HBa.out.trans (hb.mono HBa.out.size))
  have HBb := Hid.mk (HBb.out.trans (hb.mono HBb.out.size))
  have HBg := Hid.mk (HBg.out.trans (hb.mono HBg.out.size))
  have HBwA := Hid.mk (HBwA.out.trans (hb.mono HBwA.out.size))
  have HBwB := Hid.mk (HBwB.out.trans (hb.mono HBwB.out.size))
  have HBd := Hid.mk (HBd.out.trans (hb.mono HBd.out.size))
  have HBwD := Hid.mk (HBwD.out.trans (hb.mono HBwD.out.size))
  have HBwP := Hid.mk (HBwP.out.trans (hb.mono HBwP.out.size))
  clear hb
  have HBwQ := Hid.mk (Below.refl wQ.heap.size wQ)
  go_wp2_with fail
  (try simp only [hwQ])
  clear hwQ
  have HC := Hid.mk (w_oGreatest 1 (some ⟨w37.heap.size, 0, none⟩) 3 3 kQ wQ (IwQ.out.keep HBwQ.out) rfl (by decide) (by decide))
  rw [k_great, k_greatE] at HC
  refine (HC.out).mono ?_
  rintro e w38 ⟨rfl, hb⟩
  have HBw := Hid.mk (HBw.out.trans (hb.mono HBw.out.size))
  have HBwl := Hid.mk (HBwl.out.trans (hb.mono HBwl.out.size))
  have HBwk := Hid.mk (HBwk.out.trans (hb.mono HBwk.out.size))
  have HBa := Hid.mk (HBa.out.trans (hb.mono HBa.out.size))
  have HBb := Hid.mk (HBb.out.trans (hb.mono HBb.out.size))
  have HBg := Hid.mk (HBg.out.trans (hb.mono HBg.out.size))
  have HBwA := Hid.mk (HBwA.out.trans (hb.mono HBwA.out.size))
  have HBwB := Hid.mk (HBwB.out.trans (hb.mono HBwB.out.size))
  have HBd := Hid.mk (HBd.out.trans (hb.mono HBd.out.size))
  have HBwD := Hid.mk (HBwD.out.trans (hb.mono HBwD.out.size))
  have HBwP := Hid.mk (HBwP.out.trans (hb.mono HBwP.out.size))
  have HBwQ := Hid.mk (HBwQ.out.trans (hb.mono HBwQ.out.size))
  clear hb
  clear HC
  go_wp2_with fail
  refine (w_whole 51 w38).mono ?_
  rintro e w39 ⟨rfl, hb⟩
  have HBw := Hid.mk (HBw.out.trans (hb.mono HBw.out.size))
  have HBwl := Hid.mk (HBwl.out.trans (hb.mono HBwl.out.size))
  have HBwk := Hid.mk (HBwk.out.trans (hb.mono HBwk.out.size))
  have HBa := Hid.mk (HBa.out.trans (hb.mono HBa.out.size))
  have HBb := Hid.mk (HBb.out.trans (hb.mono HBb.out.size))
  have HBg := Hid.mk (HBg.out.trans (hb.mono HBg.out.size))
  have HBwA := Hid.mk (HBwA.out.trans (hb.mono HBwA.out.size))
  have HBwB := Hid.mk (HBwB.out.trans (hb.mono HBwB.out.size))
  have HBd := Hid.mk (HBd.out.trans (hb.mono HBd.out.size))
  have HBwD := Hid.mk (HBwD.out.trans (hb.mono HBwD.out.size))
  have HBwP := Hid.mk (HBwP.out.trans (hb.mono HBwP.out.size))
  have HBwQ := Hid.mk (HBwQ.out.trans (hb.mono HBwQ.out.size))
  clear hb
  go_wp2_with fail
  have HC := Hid.mk (w_oSearch 1 (some ⟨gd, 0, none⟩) 4 4 kD (nW 51) _ _ _ _ _ w39 (HTd.out.keep HBd.out) rfl (by decide) (by decide) (leaf_in (nW_leaf 51)))
  rw [k_search] at HC
  refine (HC.out).mono ?_
  rintro e w40 ⟨rfl, hb⟩
  have HBw := Hid.mk (HBw.out.trans (hb.mono HBw.out.size))
  have HBwl := Hid.mk (HBwl.out.trans (hb.mono HBwl.out.size))
  have HBwk := Hid.mk (HBwk.out.trans (hb.mono HBwk.out.size))
  have HBa := Hid.mk (HBa.out.trans (hb.mono HBa.out.size))
  have HBb := Hid.mk (HBb.out.trans (hb.mono HBb.out.size))
  have HBg := Hid.mk (HBg.out.trans (hb.mono HBg.out.size))
  have HBwA := Hid.mk (HBwA.out.trans (hb.mono HBwA.out.size))
  have HBwB := Hid.mk (HBwB.out.trans (hb.mono HBwB.out.size))
  have HBd := Hid.mk (HBd.out.trans (hb.mono HBd.out.size))
  have HBwD := Hid.mk (HBwD.out.trans (hb.mono HBwD.out.size))
  have HBwP := Hid.mk (HBwP.out.trans (hb.mono HBwP.out.size))
  have HBwQ := Hid.mk (HBwQ.out.trans (hb.mono HBwQ.out.size))
  clear hb
  clear HC
  go_wp2_with fail
  have HC := Hid.mk (w_SortBy 1 (some ⟨w3.heap.size, 0, none⟩) 3 3 (some ⟨w6.heap.size, 0, none⟩) 2 3 kL (kK.take 2) w40 (Iwl.out.keep HBwl.out) rfl (by decide) (by decide) (Iwk.out.keep HBwk.out).take rfl (by decide) (by decide) (fun T hT => leaf_sz (kL_leaf T hT)))
  rw [k_E2] at HC
  refine (HC.out).mono ?_
  rintro e w41 ⟨_, _, rfl, _, _, hb⟩
  have HBw := Hid.mk (HBw.out.trans (hb.mono HBw.out.size))
  have HBwl := Hid.mk (HBwl.out.trans (hb.mono HBwl.out.size))
  have HBwk := Hid.mk (HBwk.out.trans (hb.mono HBwk.out.size))
  have HBa := Hid.mk (HBa.out.trans (hb.mono HBa.out.size))
  have HBb := Hid.mk (HBb.out.trans (hb.mono HBb.out.size))
  have HBg := Hid.mk (HBg.out.trans (hb.mono HBg.out.size))
  have HBwA := Hid.mk (HBwA.out.trans (hb.mono HBwA.out.size))
  have HBwB := Hid.mk (HBwB.out.trans (hb.mono HBwB.out.size))
  have HBd := Hid.mk (HBd.out.trans (hb.mono HBd.out.size))
  have HBwD := Hid.mk (HBwD.out.trans (hb.mono HBwD.out.size))
  have HBwP := Hid.mk (HBwP.out.trans (hb.mono HBwP.out.size))
  have HBwQ := Hid.mk (HBwQ.out.trans (hb.mono HBwQ.out.size))
  clear hb
  clear HC
  go_wp2_with fail
  refine (w_whole 50 w41).mono ?_
  rintro e w42 ⟨rfl, hb⟩
  have HBw := Hid.mk (HBw.out.trans (hb.mono HBw.out.size))
  have HBwl := Hid.mk (HBwl.out.trans (hb.mono HBwl.out.size))
  have HBwk := Hid.mk (HBwk.out.trans (hb.mono HBwk.out.size))
  have HBa := Hid.mk (HBa.out.trans (hb.mono HBa.out.size))
  have HBb := Hid.mk (HBb.out.trans (hb.mono HBb.out.size))
  have HBg := Hid.mk (HBg.out.trans (hb.mono HBg.out.size))
  have HBwA := Hid.mk (HBwA.out.trans (hb.mono HBwA.out.size))
  have HBwB := Hid.mk (HBwB.out.trans (hb.mono HBwB.out.size))
  have HBd := Hid.mk (HBd.out.trans (hb.mono HBd.out.size))
  have HBwD := Hid.mk (HBwD.out.trans (hb.mono HBwD.out.size))
  have HBwP := Hid.mk (HBwP.out.trans (hb.mono HBwP.out.size))
  have HBwQ := Hid.mk (HBwQ.out.trans (hb.mono HBwQ.out.size))
  clear hb
  go_wp2_with fail
  refine (w_whole 49 w42).mono ?_
  rintro e w43 ⟨rfl, hb⟩
  have HBw := Hid.mk (HBw.out.trans (hb.mono HBw.out.size))
  have HBwl := Hid.mk (HBwl.out.trans (hb.mono HBwl.out.size))
  have HBwk := Hid.mk (HBwk.out.trans (hb.mono HBwk.out.size))
  have HBa := Hid.mk (HBa.out.trans (hb.mono HBa.out.size))
  have HBb := Hid.mk (HBb.out.trans (hb.mono HBb.out.size))
  have HBg := Hid.mk (HBg.out.trans (hb.mono HBg.out.size))
  have HBwA := Hid.mk (HBwA.out.trans (hb.mono HBwA.out.size))
  have HBwB := Hid.mk (HBwB.out.trans (hb.mono HBwB.out.size))
  have HBd := Hid.mk (HBd.out.trans (hb.mono HBd.out.size))
  have HBwD := Hid.mk (HBwD.out.trans (hb.mono HBwD.out.size))
  have HBwP := Hid.mk (HBwP.out.trans (hb.mono HBwP.out.size))
  have HBwQ := Hid.mk (HBwQ.out.trans (hb.mono HBwQ.out.size))
  clear hb
  obtain ⟨wN, hwN⟩ : ∃ wN, w43.alloc (.cells #[.int .i64 3, .string ⟨#[50]⟩, .string ⟨#[]⟩, .slice none 0 0, .slice none 0 0, .int .i64 3, .string ⟨#[49]⟩, .string ⟨#[]⟩, .slice none 0 0, .slice none 0 0] 25) = wN := ⟨_, rfl⟩
  have hb : Below w43.heap.size w43 wN := by subst hwN; exact below1 _ _
  have IwN : Hid (IIn wN 1 (some ⟨w43.heap.size, 0, none⟩) kN) := by subst hwN; exact leaf_row kN_leaf (heap_alloc_new _ _) rfl
  have RwN : Hid (wN.heap[w43.heap.size]? = some (.cells #[.int .i64 3, .string ⟨#[50]⟩, .string ⟨#[]⟩, .slice none 0 0, .slice none 0 0, .int .i64 3, .string ⟨#[49]⟩, .string ⟨#[]⟩, .slice none 0 0, .slice none 0 0] 25 (0, 0))) := by subst hwN; exact heap_alloc_new _ _
  have HBw := Hid.mk (HBw.out.trans (hb.mono HBw.out.size))
  have HBwl := Hid.mk (HBwl.out.trans (hb.mono HBwl.out.size))
  have HBwk := Hid.mk (HBwk.out.trans (hb.mono HBwk.out.size))
  have HBa := Hid.mk (HBa.out.trans (hb.mono HBa.out.size))
  have HBb := Hid.mk (HBb.out.trans (hb.mono HBb.out.size))
  have HBg := Hid.mk (HBg.out.trans (hb.mono HBg.out.size))
  have HBwA := Hid.mk (HBwA.out.trans (hb.mono HBwA.out.size))
  have HBwB := Hid.mk (HBwB.out.trans (hb.mono HBwB.out.size))
  have HBd := Hid.mk (HBd.out.trans (hb.mono HBd.out.size))
  have HBwD := Hid.mk (HBwD.out.trans (hb.mono HBwD.out.size))
  have HBwP := Hid.mk (HBwP.out.trans (hb.mono HBwP.out.size))
  have HBwQ := Hid.mk (HBwQ.out.trans (hb.mono HBwQ.out.size))
  clear hb
  have HBwN := Hid.mk (Below.refl wN.heap.size wN)
  go_wp2_with fail
  (try simp only [hwN])
  clear hwN
  have HC := Hid.mk (w_Merge 1 (some ⟨w43.heap.size, 0, none⟩) 2 2 none 0 0 kN [] wN (IwN.out.keep HBwN.out) rfl (by decide) (fun e => by cases e) (by decide) ⟨fun h => absurd h (Nat.lt_irrefl _)⟩ rfl (by decide) (fun _ => rfl) (by decide) (fun T hT => leaf_sz (kN_leaf T hT)) (fun T hT => by cases hT))
  rw [k_mE2] at HC
  refine (HC.out).mono ?_
  rintro e w44 ⟨_, _, rfl, _, _, hb, _⟩
  have HBw := Hid.mk (HBw.out.trans (hb.mono HBw.out.size))
  have HBwl := Hid.mk (HBwl.out.trans (hb.mono HBwl.out.size))
  have HBwk := Hid.mk (HBwk.out.trans (hb.mono HBwk.out.size))
  have HBa := Hid.mk (HBa.out.trans (hb.mono HBa.out.size))
  have HBb := Hid.mk (HBb.out.trans (hb.mono HBb.out.size))
  have HBg := Hid.mk (HBg.out.trans (hb.mono HBg.out.size))
  have HBwA := Hid.mk (HBwA.out.trans (hb.mono HBwA.out.size))
  have HBwB := Hid.mk (HBwB.out.trans (hb.mono HBwB.out.size))
  have HBd := Hid.mk (HBd.out.trans (hb.mono HBd.out.size))
  have HBwD := Hid.mk (HBwD.out.trans (hb.mono HBwD.out.size))
  have HBwP := Hid.mk (HBwP.out.trans (hb.mono HBwP.out.size))
  have HBwQ := Hid.mk (HBwQ.out.trans (hb.mono HBwQ.out.size))
  have HBwN := Hid.mk (HBwN.out.trans (hb.mono HBwN.out.size))
  clear hb
  clear HC
  obtain ⟨wX, hwX⟩ : ∃ wX, w44.alloc (.cells #[.int .i64 9, .string ⟨#[]⟩, .string ⟨#[]⟩, .slice none 0 0, .slice none 0 0] 25) = wX := ⟨_, rfl⟩
  have hb : Below w44.heap.size w44 wX := by subst hwX; exact below1 _ _
  have IwX : Hid (IIn wX 1 (some ⟨w44.heap.size, 0, none⟩) kX) := by subst hwX; exact leaf_row kX_leaf (heap_alloc_new _ _) rfl
  have RwX : Hid (wX.heap[w44.heap.size]? = some (.cells #[.int .i64 9, .string ⟨#[]⟩, .string ⟨#[]⟩, .slice none 0 0, .slice none 0 0] 25 (0, 0))) := by subst hwX; exact heap_alloc_new _ _
  have HBw := Hid.mk (HBw.out.trans (hb.mono HBw.out.size))
  have HBwl := Hid.mk (HBwl.out.trans (hb.mono HBwl.out.size))
  have HBwk := Hid.mk (HBwk.out.trans (hb.mono HBwk.out.size))
  have HBa := Hid.mk (HBa.out.trans (hb.mono HBa.out.size))
  have HBb := Hid.mk (HBb.out.trans (hb.mono HBb.out.size))
  have HBg := Hid.mk (HBg.out.trans (hb.mono HBg.out.size))
  have HBwA := Hid.mk (HBwA.out.trans (hb.mono HBwA.out.size))
  have HBwB := Hid.mk (HBwB.out.trans (hb.mono HBwB.out.size))
  have HBd := Hid.mk (HBd.out.trans (hb.mono HBd.out.size))
  have HBwD := Hid.mk (HBwD.out.trans (hb.mono HBwD.out.size))
  have HBwP := Hid.mk (HBwP.out.trans (hb.mono HBwP.out.size))
  have HBwQ := Hid.mk (HBwQ.out.trans (hb.mono HBwQ.out.size))
  have HBwN := Hid.mk (HBwN.out.trans (hb.mono HBwN.out.size))
  clear hb
  have HBwX := Hid.mk (Below.refl wX.heap.size wX)
  go_wp2_with fail
  (try simp only [hwX])
  clear hwX
  have HC := Hid.mk (w_oSort 1 (some ⟨w44.heap.size, 0, none⟩) 1 1 kX wX (IwX.out.keep HBwX.out) rfl (by decide) (by decide) (fun T hT => leaf_sz (kX_leaf T hT)))
  rw [k_E3] at HC
  refine (HC.out).mono ?_
  rintro e w45 ⟨_, _, rfl, _, _, hb⟩
  have HBw := Hid.mk (HBw.out.trans (hb.mono HBw.out.size))
  have HBwl := Hid.mk (HBwl.out.trans (hb.mono HBwl.out.size))
  have HBwk := Hid.mk (HBwk.out.trans (hb.mono HBwk.out.size))
  have HBa := Hid.mk (HBa.out.trans (hb.mono HBa.out.size))
  have HBb := Hid.mk (HBb.out.trans (hb.mono HBb.out.size))
  have HBg := Hid.mk (HBg.out.trans (hb.mono HBg.out.size))
  have HBwA := Hid.mk (HBwA.out.trans (hb.mono HBwA.out.size))
  have HBwB := Hid.mk (HBwB.out.trans (hb.mono HBwB.out.size))
  have HBd := Hid.mk (HBd.out.trans (hb.mono HBd.out.size))
  have HBwD := Hid.mk (HBwD.out.trans (hb.mono HBwD.out.size))
  have HBwP := Hid.mk (HBwP.out.trans (hb.mono HBwP.out.size))
  have HBwQ := Hid.mk (HBwQ.out.trans (hb.mono HBwQ.out.size))
  have HBwN := Hid.mk (HBwN.out.trans (hb.mono HBwN.out.size))
  have HBwX := Hid.mk (HBwX.out.trans (hb.mono HBwX.out.size))
  clear hb
  clear HC
  go_wp2_with fail
  go_ret
  exact ⟨rfl, HBw.out⟩
end Go.Proofs.Ytmknelkgfnklfaa
