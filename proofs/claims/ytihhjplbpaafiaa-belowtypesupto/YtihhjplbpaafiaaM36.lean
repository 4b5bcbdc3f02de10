import Derived.Test.YtihhjplbpaafiaaM32
import Derived.Test.YtihhjplbpaafiaaM34
import Derived.Test.YtihhjplbpaafiaaM35
namespace Go.Proofs.Ytihhjplbpaafiaa
open Go.RowKit Go.Shelf Go.Sort
set_option linter.unusedVariables false
set_option linter.unusedSimpArgs false
attribute [local go_sem] Oper.semAt_some

set_option maxRecDepth 100000 in
set_option maxHeartbeats 3200000 in
theorem nums_met_none (ba oa bb ob : Nat) (w : World) (la : ba < w.heap.size) (no : Option Addr) (nc : Nat) (X4 : w.cell? ⟨ba, oa + 4, none⟩ = some (.slice no 0 nc)) : Calls Try.prog 66 #[.agg #[.pointer (some ⟨ba, oa, none⟩), .pointer (some ⟨bb, ob, none⟩)]] w fun e w' => e = .returned (.bool false) ∧ Below w.heap.size w w' := by
  obtain ⟨W0, hW0⟩ : ∃ W0, w.alloc (.cells #[.pointer (some ⟨ba, oa, none⟩), .pointer (some ⟨bb, ob, none⟩)] 63) = W0 := ⟨_, rfl⟩
  have HX : Hid (Bx2c w W0 w.heap.size (.pointer (some ⟨ba, oa, none⟩)) (.pointer (some ⟨bb, ob, none⟩))) := by rw [← hW0]; exact bx2c_new w _ _ _
  have p0 := HX.out.c0
  have p1 := HX.out.c1
  have x4 := (HX.out.below.cell (p := ⟨_, _, _⟩) la).trans X4
  go_enter Try.func66, Try.ntmps66
  go_wp2_with fail
  go_ret
  exact ⟨rfl, HX.out.below⟩
set_option maxRecDepth 100000 in
set_option maxHeartbeats 3200000 in
theorem nums_met_out (ba oa bb ob : Nat) (w : World) (la : ba < w.heap.size) (lb : bb < w.heap.size) (no : Option Addr) (M nc : Nat) (qo : Option Addr) (qc : Nat) (hM : 0 < M) (X4 : w.cell? ⟨ba, oa + 4, none⟩ = some (.slice no M nc)) (Y4 : w.cell? ⟨bb, ob + 4, none⟩ = some (.slice qo 0 qc)) : Calls Try.prog 66 #[.agg #[.pointer (some ⟨ba, oa, none⟩), .pointer (some ⟨bb, ob, none⟩)]] w fun e w' => e = .returned (.bool false) ∧ Below w.heap.size w w' := by
  obtain ⟨W0, hW0⟩ : ∃ W0, w.alloc (.cells #[.pointer (some ⟨ba, oa, none⟩), .pointer (some ⟨bb, ob, none⟩)] 63) = W0 := ⟨_, rfl⟩
  have HX : Hid (Bx2c w W0 w.heap.size (.pointer (some ⟨ba, oa, none⟩)) (.pointer (some ⟨bb, ob, none⟩))) := by rw [← hW0]; exact bx2c_new w _ _ _
  have hm1 : ((M : Int) == 0) = false := by simp; omega
  have p0 := HX.out.c0
  have p1 := HX.out.c1
  have x4 := (HX.out.below.cell (p := ⟨_, _, _⟩) la).trans X4
  have y4 := (HX.out.below.cell (p := ⟨_, _, _⟩) lb).trans Y4
  go_enter Try.func66, Try.ntmps66
  go_wp2_with fail
  go_ret
  exact ⟨by first | rfl | simp, HX.out.below⟩

set_option maxRecDepth 100000 in
set_option maxHeartbeats 6400000 in
theorem nums_met_both (ba oa bb ob : Nat) (w : World) (la : ba < w.heap.size) (lb : bb < w.heap.size) (sb so qb qo M nc N qc : Nat) (hM : 0 < M) (hN : 0 < N) (lsb : sb < w.heap.size) (lqb : qb < w.heap.size) (s1 s2 q1 q2 : ByteArray) (r1 r2 : Bool) (X4 : w.cell? ⟨ba, oa + 4, none⟩ = some (.slice (some ⟨sb, so, none⟩) M nc)) (Y4 : w.cell? ⟨bb, ob + 4, none⟩ = some (.slice (some ⟨qb, qo, none⟩) N qc)) (E1 : w.cell? ⟨sb, so, none⟩ = some (.string s1)) (E2 : w.cell? ⟨sb, so + 1, none⟩ = some (.string s2)) (G1 : w.cell? ⟨qb, qo, none⟩ = some (.string q1)) (G2 : w.cell? ⟨qb, qo + 1, none⟩ = some (.string q2))
    (HC1 : Hid (∀ u, Calls Try.prog 80 #[.string s1, .string q2] u fun e w' => e = .returned (.bool r1) ∧ Below u.heap.size u w')) (HC2 : Hid (∀ u, Calls Try.prog 80 #[.string q1, .string s2] u fun e w' => e = .returned (.bool r2) ∧ Below u.heap.size u w')) :
    Calls Try.prog 66 #[.agg #[.pointer (some ⟨ba, oa, none⟩), .pointer (some ⟨bb, ob, none⟩)]] w fun e w' => e = .returned (.bool (!r1 && !r2)) ∧ Below w.heap.size w w' := by
  have hm1 : ((M : Int) == 0) = false := by simp; omega
  have hn1 : ((N : Int) == 0) = false := by simp; omega
  have hm3 : (0 : Int) < (M : Int) := by omega
  have hn3 : (0 : Int) < (N : Int) := by omega
  obtain ⟨W0, hW0⟩ : ∃ W0, w.alloc (.cells #[.pointer (some ⟨ba, oa, none⟩), .pointer (some ⟨bb, ob, none⟩)] 63) = W0 := ⟨_, rfl⟩
  have HX : Hid (Bx2c w W0 w.heap.size (.pointer (some ⟨ba, oa, none⟩)) (.pointer (some ⟨bb, ob, none⟩))) := by rw [← hW0]; exact bx2c_new w _ _ _
  have p0 := HX.out.c0
  have p1 := HX.out.c1
  have x4 := (HX.out.below.cell (p := ⟨_, _, _⟩) la).trans X4
  have y4 := (HX.out.below.cell (p := ⟨_, _, _⟩) lb).trans Y4
  have e1 := (HX.out.below.cell (p := ⟨_, _, _⟩) lsb).trans E1
  have e2 := (HX.out.below.cell (p := ⟨_, _, _⟩) lsb).trans E2
  have g1 := (HX.out.below.cell (p := ⟨_, _, _⟩) lqb).trans G1
  have g2 := (HX.out.below.cell (p := ⟨_, _, _⟩) lqb).trans G2
  have hR0 : W0.heap[w.heap.size]? = some (.cells #[.pointer (some ⟨ba, oa, none⟩), .pointer (some ⟨bb, ob, none⟩)] 63 (0, 0)) := by rw [← hW0]; exact World.alloc_heap_new w _
  have HSS : Hid (∀ u, (Below w.heap.size w u ∧ u.heap[w.heap.size]? = some (.cells #[.pointer (some ⟨ba, oa, none⟩), .pointer (some ⟨bb, ob, none⟩)] 63 (0, 0))) → u.cell? ⟨w.heap.size, 0, none⟩ = some (.pointer (some ⟨ba, oa, none⟩)) ∧ u.cell? ⟨w.heap.size, 1, none⟩ = some (.pointer (some ⟨bb, ob, none⟩)) ∧ u.cell? ⟨ba, oa + 4, none⟩ = some (.slice (some ⟨sb, so, none⟩) M nc) ∧ u.cell? ⟨bb, ob + 4, none⟩ = some (.slice (some ⟨qb, qo, none⟩) N qc) ∧ u.cell? ⟨sb, so, none⟩ = some (.string s1) ∧ u.cell? ⟨sb, so + 1, none⟩ = some (.string s2) ∧ u.cell? ⟨qb, qo, none⟩ = some (.string q1) ∧ u.cell? ⟨qb, qo + 1, none⟩ = some (.string q2)) := fun u hu => ⟨cell_of_row _ _ 0 _ _ _ hu.2, cell_of_row _ _ 1 _ _ _ hu.2, (hu.1.cell (p := ⟨_, _, _⟩) la).trans X4, (hu.1.cell (p := ⟨_, _, _⟩) lb).trans Y4, (hu.1.cell (p := ⟨_, _, _⟩) lsb).trans E1, (hu.1.cell (p := ⟨_, _, _⟩) lsb).trans E2, (hu.1.cell (p := ⟨_, _, _⟩) lqb).trans G1, (hu.1.cell (p := ⟨_, _, _⟩) lqb).trans G2⟩
  obtain ⟨WD, hWD⟩ : ∃ WD, W0.drew = WD := ⟨_, rfl⟩
  have hD : Below W0.heap.size W0 WD := by rw [← hWD]; exact (Below.refl W0.heap.size W0).drew
  have HD : Hid (Below w.heap.size w WD ∧ WD.heap[w.heap.size]? = some (.cells #[.pointer (some ⟨ba, oa, none⟩), .pointer (some ⟨bb, ob, none⟩)] 63 (0, 0))) := ⟨HX.out.below.trans (hD.mono HX.out.below.size), (hD.block _ (lt_of_row' hR0)).trans hR0⟩
  have HDq := Hid.mk hWD
  clear hWD hD hR0
  go_enter Try.func66, Try.ntmps66
  go_upto_region 3 with fail
  clear p0 p1 x4 y4 e1 e2 g1 g2
  clear hW0
  have KEY : ∀ (X Y : Nat) (W : World), (Below w.heap.size w W ∧ W.heap[X]? = some (.cells #[.string s1, .string s2] 44 (0, 0)) ∧ W.heap[Y]? = some (.cells #[.string q1, .string q2] 44 (0, 0))) → (?PP : Nat → Nat → World → Prop) X Y W := ?key
  refine wp_region_held_drew (S := fun u => u.cell? ⟨w.heap.size, 0, none⟩ = some (.pointer (some ⟨ba, oa, none⟩)) ∧ u.cell? ⟨w.heap.size, 1, none⟩ = some (.pointer (some ⟨bb, ob, none⟩)) ∧ u.cell? ⟨ba, oa + 4, none⟩ = some (.slice (some ⟨sb, so, none⟩) M nc) ∧ u.cell? ⟨bb, ob + 4, none⟩ = some (.slice (some ⟨qb, qo, none⟩) N qc) ∧ u.cell? ⟨sb, so, none⟩ = some (.string s1) ∧ u.cell? ⟨sb, so + 1, none⟩ = some (.string s2) ∧ u.cell? ⟨qb, qo, none⟩ = some (.string q1) ∧ u.cell? ⟨qb, qo + 1, none⟩ = some (.string q2)) (by kernel_rfl) (by rw [HDq.out]; exact HSS.out _ HD.out) (fun hHeld => ?_)
  rw [HDq.out] at hHeld ⊢
  refine wpAnyH_take (i := 0) (oi := _) (v := .pointer (some ⟨w.heap.size, 0, none⟩)) rfl (by kernel_rfl) (by kernel_rfl) (by kernel_rfl) (fun _ _ _ h => h) (Or.inl ⟨by rfl, ?_⟩) (by assumption) ?_
  · intro w hSw
    go_simp
  try simp only [Act.put, List.getElem_toArray, List.getElem_cons_succ, List.getElem_cons_zero, List.setIfInBounds_toArray, List.set_cons_zero, List.set_cons_succ]
  refine wpAnyH_take (i := 1) (oi := _) (v := .pointer (some ⟨ba, oa, none⟩)) rfl (by kernel_rfl) (by kernel_rfl) (by kernel_rfl) (fun _ _ _ h => h) (Or.inl ⟨by rfl, ?_⟩) (by assumption) ?_
  · intro w hSw
    go_simp
  try simp only [Act.put, List.getElem_toArray, List.getElem_cons_succ, List.getElem_cons_zero, List.setIfInBounds_toArray, List.set_cons_zero, List.set_cons_succ]
  refine wpAnyH_take (i := 2) (oi := _) (v := .pointer (some ⟨ba, oa, none⟩)) rfl (by kernel_rfl) (by kernel_rfl) (by kernel_rfl) (fun _ _ _ h => h) (Or.inl ⟨by rfl, ?_⟩) (by assumption) ?_
  · intro w hSw
    go_simp
  try simp only [Act.put, List.getElem_toArray, List.getElem_cons_succ, List.getElem_cons_zero, List.setIfInBounds_toArray, List.set_cons_zero, List.set_cons_succ]
  refine wpAnyH_take (i := 3) (oi := _) (v := .pointer (some ⟨ba, oa + 4, none⟩)) rfl (by kernel_rfl) (by kernel_rfl) (by kernel_rfl) (fun _ _ _ h => h) (Or.inl ⟨by rfl, ?_⟩) (by assumption) ?_
  · intro w hSw
    go_simp
  try simp only [Act.put, List.getElem_toArray, List.getElem_cons_succ, List.getElem_cons_zero, List.setIfInBounds_toArray, List.set_cons_zero, List.set_cons_succ]
  refine wpAnyH_take (i := 4) (oi := _) (v := .slice (some ⟨sb, so, none⟩) M nc) rfl (by kernel_rfl) (by kernel_rfl) (by kernel_rfl) (fun _ _ _ h => h) (Or.inl ⟨by rfl, ?_⟩) (by assumption) ?_
  · intro w hSw
    go_simp
  try simp only [Act.put, List.getElem_toArray, List.getElem_cons_succ, List.getElem_cons_zero, List.setIfInBounds_toArray, List.set_cons_zero, List.set_cons_succ]
  refine wpAnyH_take (i := 5) (oi := _) (v := .pointer (some ⟨sb, so, none⟩)) rfl (by kernel_rfl) (by kernel_rfl) (by kernel_rfl) (fun _ _ _ h => h) (Or.inl ⟨by rfl, ?_⟩) (by assumption) ?_
  · intro w hSw
    go_simp
  try simp only [Act.put, List.getElem_toArray, List.getElem_cons_succ, List.getElem_cons_zero, List.setIfInBounds_toArray, List.set_cons_zero, List.set_cons_succ]
  refine wpAnyH_take (i := 6) (oi := _) (v := .agg #[.string s1, .string s2]) rfl (by kernel_rfl) (by kernel_rfl) (by kernel_rfl) (fun _ _ _ h => h) (Or.inl ⟨by rfl, ?_⟩) (by assumption) ?_
  · intro w hSw
    go_simp
  try simp only [Act.put, List.getElem_toArray, List.getElem_cons_succ, List.getElem_cons_zero, List.setIfInBounds_toArray, List.set_cons_zero, List.set_cons_succ]
  refine wpAnyH_take (i := 7) (oi := _) (v := .pointer (some ⟨w.heap.size, 1, none⟩)) rfl (by kernel_rfl) (by kernel_rfl) (by kernel_rfl) (fun _ _ _ h => h) (Or.inl ⟨by rfl, ?_⟩) (by assumption) ?_
  · intro w hSw
    go_simp
  try simp only [Act.put, List.getElem_toArray, List.getElem_cons_succ, List.getElem_cons_zero, List.setIfInBounds_toArray, List.set_cons_zero, List.set_cons_succ]
  refine wpAnyH_take (i := 8) (oi := _) (v := .pointer (some ⟨bb, ob, none⟩)) rfl (by kernel_rfl) (by kernel_rfl) (by kernel_rfl) (fun _ _ _ h => h) (Or.inl ⟨by rfl, ?_⟩) (by assumption) ?_
  · intro w hSw
    go_simp
  try simp only [Act.put, List.getElem_toArray, List.getElem_cons_succ, List.getElem_cons_zero, List.setIfInBounds_toArray, List.set_cons_zero, List.set_cons_succ]
  refine wpAnyH_take (i := 9) (oi := _) (v := .pointer (some ⟨bb, ob, none⟩)) rfl (by kernel_rfl) (by kernel_rfl) (by kernel_rfl) (fun _ _ _ h => h) (Or.inl ⟨by rfl, ?_⟩) (by assumption) ?_
  · intro w hSw
    go_simp
  try simp only [Act.put, List.getElem_toArray, List.getElem_cons_succ, List.getElem_cons_zero, List.setIfInBounds_toArray, List.set_cons_zero, List.set_cons_succ]
  refine wpAnyH_take (i := 10) (oi := _) (v := .pointer (some ⟨bb, ob + 4, none⟩)) rfl (by kernel_rfl) (by kernel_rfl) (by kernel_rfl) (fun _ _ _ h => h) (Or.inl ⟨by rfl, ?_⟩) (by assumption) ?_
  · intro w hSw
    go_simp
  try simp only [Act.put, List.getElem_toArray, List.getElem_cons_succ, List.getElem_cons_zero, List.setIfInBounds_toArray, List.set_cons_zero, List.set_cons_succ]
  refine wpAnyH_take (i := 11) (oi := _) (v := .slice (some ⟨qb, qo, none⟩) N qc) rfl (by kernel_rfl) (by kernel_rfl) (by kernel_rfl) (fun _ _ _ h => h) (Or.inl ⟨by rfl, ?_⟩) (by assumption) ?_
  · intro w hSw
    go_simp
  try simp only [Act.put, List.getElem_toArray, List.getElem_cons_succ, List.getElem_cons_zero, List.setIfInBounds_toArray, List.set_cons_zero, List.set_cons_succ]
  refine wpAnyH_take (i := 12) (oi := _) (v := .pointer (some ⟨qb, qo, none⟩)) rfl (by kernel_rfl) (by kernel_rfl) (by kernel_rfl) (fun _ _ _ h => h) (Or.inl ⟨by rfl, ?_⟩) (by assumption) ?_
  · intro w hSw
    go_simp
  try simp only [Act.put, List.getElem_toArray, List.getElem_cons_succ, List.getElem_cons_zero, List.setIfInBounds_toArray, List.set_cons_zero, List.set_cons_succ]
  refine wpAnyH_take (i := 13) (oi := _) (v := .agg #[.string q1, .string q2]) rfl (by kernel_rfl) (by kernel_rfl) (by kernel_rfl) (fun _ _ _ h => h) (Or.inl ⟨by rfl, ?_⟩) (by assumption) ?_
  · intro w hSw
    go_simp
  try simp only [Act.put, List.getElem_toArray, List.getElem_cons_succ, List.getElem_cons_zero, List.setIfInBounds_toArray, List.set_cons_zero, List.set_cons_succ]
  refine wpAnyH_ready (rs := [14, 15]) (by kernel_rfl) (by simp) ?_
  refine AllReadyH.cons (o := _) rfl (fun K hK => ?_) ?_
  · obtain ⟨w1, hq1⟩ : ∃ w1, WD.alloc (.cells #[.string ⟨#[]⟩, .string ⟨#[]⟩] 44) = w1 := ⟨_, rfl⟩
    have hb1 : Below WD.heap.size WD w1 := by rw [← hq1]; exact below1 WD _
    have HE1 : Hid (Below w.heap.size w w1 ∧ w1.heap[w.heap.size]? = some (.cells #[.pointer (some ⟨ba, oa, none⟩), .pointer (some ⟨bb, ob, none⟩)] 63 (0, 0))) := ⟨HD.out.1.trans (hb1.mono HD.out.1.size), (hb1.block _ (lt_of_row' HD.out.2)).trans HD.out.2⟩
    obtain ⟨X, hB1⟩ : ∃ X, WD.heap.size = X := ⟨_, rfl⟩
    have hX : w1.heap[X]? = some (.cells #[.string ⟨#[]⟩, .string ⟨#[]⟩] 44 (0, 0)) := by rw [← hq1, ← hB1]; exact World.alloc_heap_new WD _
    have hlX : w.heap.size < X := by rw [← hB1]; exact lt_of_row' HD.out.2

    have HQ1 := Hid.mk hq1
    have HQB1 := Hid.mk hB1
    have HHx := Hid.mk hX
    clear hq1 hB1 hb1 hX
    go_simp
    try rw [HQ1.out]
    try rw [HQB1.out]
    clear HQ1 HQB1
    refine hK.out _ _ (HSS.out _ HE1.out) (fun hHeld => ?_)
    clear hK K
    try simp only [Act.put, List.getElem_toArray, List.getElem_cons_succ, List.getElem_cons_zero, List.setIfInBounds_toArray, List.set_cons_zero, List.set_cons_succ]
    refine wpAnyH_ready (rs := [15]) (by kernel_rfl) (by simp) ?_
    refine AllReadyH.cons (o := _) rfl (fun K hK => ?_) AllReadyH.nil
    obtain ⟨w2, hq2⟩ : ∃ w2, w1.alloc (.cells #[.string ⟨#[]⟩, .string ⟨#[]⟩] 44) = w2 := ⟨_, rfl⟩
    have hb2 : Below w1.heap.size w1 w2 := by rw [← hq2]; exact below1 w1 _
    have HE2 : Hid (Below w.heap.size w w2 ∧ w2.heap[w.heap.size]? = some (.cells #[.pointer (some ⟨ba, oa, none⟩), .pointer (some ⟨bb, ob, none⟩)] 63 (0, 0))) := ⟨HE1.out.1.trans (hb2.mono HE1.out.1.size), (hb2.block _ (lt_of_row' HE1.out.2)).trans HE1.out.2⟩
    obtain ⟨Y, hB2⟩ : ∃ Y, w1.heap.size = Y := ⟨_, rfl⟩
    have hY : w2.heap[Y]? = some (.cells #[.string ⟨#[]⟩, .string ⟨#[]⟩] 44 (0, 0)) := by rw [← hq2, ← hB2]; exact World.alloc_heap_new w1 _
    have hlY : w.heap.size < Y := by rw [← hB2]; exact lt_of_row' HE1.out.2
    have hne : X ≠ Y := by have := lt_of_row' HHx.out; rw [← hB2]; omega
    have HHx2 : Hid (w2.heap[X]? = _) := (hb2.block _ (lt_of_row' HHx.out)).trans HHx.out
    have HQ2 := Hid.mk hq2
    have HQB2 := Hid.mk hB2
    have HHy := Hid.mk hY
    clear hq2 hB2 hb2 hY
    go_simp
    try rw [HQ2.out]
    try rw [HQB2.out]
    clear HQ2 HQB2
    have HHx := HHx2
    refine hK.out _ _ (HSS.out _ HE2.out) (fun hHeld => ?_)
    clear hK K
    try simp only [Act.put, List.getElem_toArray, List.getElem_cons_succ, List.getElem_cons_zero, List.setIfInBounds_toArray, List.set_cons_zero, List.set_cons_succ]
    refine wpAnyH_ready (rs := [16]) (by kernel_rfl) (by simp) ?_
    refine AllReadyH.cons (o := _) rfl (fun K hK => ?_) AllReadyH.nil
    obtain ⟨w3, hs3⟩ : ∃ w3, (w2.setCell ⟨X, 0, none⟩ (.string s1)).setCell ⟨X, 1, none⟩ (.string s2) = w3 := ⟨_, rfl⟩
    have g0 := cell_of_row _ _ 0 _ _ _ HHx.out
    have g1 := cell_of_row _ _ 1 _ _ _ HHx.out
    have f0 := frozen_row9' (j := 0) HHx.out
    have f1 := frozen_row9' (j := 1) HHx.out
    have HHx3 : Hid (w3.heap[X]? = some (.cells #[.string s1, .string s2] 44 (0, 0))) := by show _ = _; rw [← hs3]; exact box2_row HHx.out
    have HHy3 : Hid (w3.heap[Y]? = some (.cells #[.string ⟨#[]⟩, .string ⟨#[]⟩] 44 (0, 0))) := by show _ = _; rw [← hs3]; exact (Below.heap_setCell _ _ _ _ (by show Y ≠ X; omega)).trans ((Below.heap_setCell _ _ _ _ (by show Y ≠ X; omega)).trans HHy.out)
    have HE3 : Hid (Below w.heap.size w w3 ∧ w3.heap[w.heap.size]? = some (.cells #[.pointer (some ⟨ba, oa, none⟩), .pointer (some ⟨bb, ob, none⟩)] 63 (0, 0))) := by
      refine ⟨by rw [← hs3]; exact (HE2.out.1.setCell (p := ⟨X, 0, none⟩) (by show w.heap.size ≤ X; omega) _).setCell (p := ⟨X, 1, none⟩) (by show w.heap.size ≤ X; omega) _, ?_⟩
      rw [← hs3]; exact (Below.heap_setCell _ _ _ _ (by show w.heap.size ≠ X; omega)).trans ((Below.heap_setCell _ _ _ _ (by show w.heap.size ≠ X; omega)).trans HE2.out.2)
    have HQ3 := Hid.mk hs3
    clear hs3
    go_simp
    try rw [HQ3.out]
    clear HQ3 g0 g1 f0 f1
    have HHx := HHx3
    have HHy := HHy3
    refine hK.out _ _ (HSS.out _ HE3.out) (fun hHeld => ?_)
    clear hK K
    try simp only [Act.put, List.getElem_toArray, List.getElem_cons_succ, List.getElem_cons_zero, List.setIfInBounds_toArray, List.set_cons_zero, List.set_cons_succ]
    refine wpAnyH_ready (rs := [17]) (by kernel_rfl) (by simp) ?_
    refine AllReadyH.cons (o := _) rfl (fun K hK => ?_) AllReadyH.nil
    obtain ⟨w4, hs4⟩ : ∃ w4, (w3.setCell ⟨Y, 0, none⟩ (.string q1)).setCell ⟨Y, 1, none⟩ (.string q2) = w4 := ⟨_, rfl⟩
    have g0 := cell_of_row _ _ 0 _ _ _ HHy.out
    have g1 := cell_of_row _ _ 1 _ _ _ HHy.out
    have f0 := frozen_row9' (j := 0) HHy.out
    have f1 := frozen_row9' (j := 1) HHy.out
    have HHy4 : Hid (w4.heap[Y]? = some (.cells #[.string q1, .string q2] 44 (0, 0))) := by show _ = _; rw [← hs4]; exact box2_row HHy.out
    have HHx4 : Hid (w4.heap[X]? = some (.cells #[.string s1, .string s2] 44 (0, 0))) := by show _ = _; rw [← hs4]; exact (Below.heap_setCell _ _ _ _ (by show X ≠ Y; omega)).trans ((Below.heap_setCell _ _ _ _ (by show X ≠ Y; omega)).trans HHx.out)
    have HE4 : Hid (Below w.heap.size w w4 ∧ w4.heap[w.heap.size]? = some (.cells #[.pointer (some ⟨ba, oa, none⟩), .pointer (some ⟨bb, ob, none⟩)] 63 (0, 0))) := by
      refine ⟨by rw [← hs4]; exact (HE3.out.1.setCell (p := ⟨Y, 0, none⟩) (by show w.heap.size ≤ Y; omega) _).setCell (p := ⟨Y, 1, none⟩) (by show w.heap.size ≤ Y; omega) _, ?_⟩
      rw [← hs4]; exact (Below.heap_setCell _ _ _ _ (by show w.heap.size ≠ Y; omega)).trans ((Below.heap_setCell _ _ _ _ (by show w.heap.size ≠ Y; omega)).trans HE3.out.2)
    have HQ4 := Hid.mk hs4
    clear hs4
    go_simp
    try rw [HQ4.out]
    clear HQ4 g0 g1 f0 f1
    refine hK.out _ _ (HSS.out _ HE4.out) (fun hHeld => ?_)
    clear hK K
    try simp only [Act.put, List.getElem_toArray, List.getElem_cons_succ, List.getElem_cons_zero, List.setIfInBounds_toArray, List.set_cons_zero, List.set_cons_succ]
    refine wpAnyH_done (by kernel_rfl) ?_ _
    try simp only [Act.put, List.getElem_toArray, List.getElem_cons_succ, List.getElem_cons_zero, List.setIfInBounds_toArray, List.set_cons_zero, List.set_cons_succ]
    exact KEY _ _ _ ⟨HE4.out.1, HHx4.out, HHy4.out⟩
  refine AllReadyH.cons (o := _) rfl (fun K hK => ?_) AllReadyH.nil
  obtain ⟨w1, hq1⟩ : ∃ w1, WD.alloc (.cells #[.string ⟨#[]⟩, .string ⟨#[]⟩] 44) = w1 := ⟨_, rfl⟩
  have hb1 : Below WD.heap.size WD w1 := by rw [← hq1]; exact below1 WD _
  have HE1 : Hid (Below w.heap.size w w1 ∧ w1.heap[w.heap.size]? = some (.cells #[.pointer (some ⟨ba, oa, none⟩), .pointer (some ⟨bb, ob, none⟩)] 63 (0, 0))) := ⟨HD.out.1.trans (hb1.mono HD.out.1.size), (hb1.block _ (lt_of_row' HD.out.2)).trans HD.out.2⟩
  obtain ⟨Y, hB1⟩ : ∃ Y, WD.heap.size = Y := ⟨_, rfl⟩
  have hY : w1.heap[Y]? = some (.cells #[.string ⟨#[]⟩, .string ⟨#[]⟩] 44 (0, 0)) := by rw [← hq1, ← hB1]; exact World.alloc_heap_new WD _
  have hlY : w.heap.size < Y := by rw [← hB1]; exact lt_of_row' HD.out.2

  have HQ1 := Hid.mk hq1
  have HQB1 := Hid.mk hB1
  have HHy := Hid.mk hY
  clear hq1 hB1 hb1 hY
  go_simp
  try rw [HQ1.out]
  try rw [HQB1.out]
  clear HQ1 HQB1
  refine hK.out _ _ (HSS.out _ HE1.out) (fun hHeld => ?_)
  clear hK K
  try simp only [Act.put, List.getElem_toArray, List.getElem_cons_succ, List.getElem_cons_zero, List.setIfInBounds_toArray, List.set_cons_zero, List.set_cons_succ]
  refine wpAnyH_ready (rs := [14]) (by kernel_rfl) (by simp) ?_
  refine AllReadyH.cons (o := _) rfl (fun K hK => ?_) AllReadyH.nil
  obtain ⟨w2, hq2⟩ : ∃ w2, w1.alloc (.cells #[.string ⟨#[]⟩, .string ⟨#[]⟩] 44) = w2 := ⟨_, rfl⟩
  have hb2 : Below w1.heap.size w1 w2 := by rw [← hq2]; exact below1 w1 _
  have HE2 : Hid (Below w.heap.size w w2 ∧ w2.heap[w.heap.size]? = some (.cells #[.pointer (some ⟨ba, oa, none⟩), .pointer (some ⟨bb, ob, none⟩)] 63 (0, 0))) := ⟨HE1.out.1.trans (hb2.mono HE1.out.1.size), (hb2.block _ (lt_of_row' HE1.out.2)).trans HE1.out.2⟩
  obtain ⟨X, hB2⟩ : ∃ X, w1.heap.size = X := ⟨_, rfl⟩
  have hX : w2.heap[X]? = some (.cells #[.string ⟨#[]⟩, .string ⟨#[]⟩] 44 (0, 0)) := by rw [← hq2, ← hB2]; exact World.alloc_heap_new w1 _
  have hlX : w.heap.size < X := by rw [← hB2]; exact lt_of_row' HE1.out.2
  have hne : Y ≠ X := by have := lt_of_row' HHy.out; rw [← hB2]; omega
  have HHy2 : Hid (w2.heap[Y]? = _) := (hb2.block _ (lt_of_row' HHy.out)).trans HHy.out
  have HQ2 := Hid.mk hq2
  have HQB2 := Hid.mk hB2
  have HHx := Hid.mk hX
  clear hq2 hB2 hb2 hX
  go_simp
  try rw [HQ2.out]
  try rw [HQB2.out]
  clear HQ2 HQB2
  have HHy := HHy2
  refine hK.out _ _ (HSS.out _ HE2.out) (fun hHeld => ?_)
  clear hK K
  try simp only [Act.put, List.getElem_toArray, List.getElem_cons_succ, List.getElem_cons_zero, List.setIfInBounds_toArray, List.set_cons_zero, List.set_cons_succ]
  refine wpAnyH_ready (rs := [16]) (by kernel_rfl) (by simp) ?_
  refine AllReadyH.cons (o := _) rfl (fun K hK => ?_) AllReadyH.nil
  obtain ⟨w3, hs3⟩ : ∃ w3, (w2.setCell ⟨X, 0, none⟩ (.string s1)).setCell ⟨X, 1, none⟩ (.string s2) = w3 := ⟨_, rfl⟩
  have g0 := cell_of_row _ _ 0 _ _ _ HHx.out
  have g1 := cell_of_row _ _ 1 _ _ _ HHx.out
  have f0 := frozen_row9' (j := 0) HHx.out
  have f1 := frozen_row9' (j := 1) HHx.out
  have HHx3 : Hid (w3.heap[X]? = some (.cells #[.string s1, .string s2] 44 (0, 0))) := by show _ = _; rw [← hs3]; exact box2_row HHx.out
  have HHy3 : Hid (w3.heap[Y]? = some (.cells #[.string ⟨#[]⟩, .string ⟨#[]⟩] 44 (0, 0))) := by show _ = _; rw [← hs3]; exact (Below.heap_setCell _ _ _ _ (by show Y ≠ X; omega)).trans ((Below.heap_setCell _ _ _ _ (by show Y ≠ X; omega)).trans HHy.out)
  have HE3 : Hid (Below w.heap.size w w3 ∧ w3.heap[w.heap.size]? = some (.cells #[.pointer (some ⟨ba, oa, none⟩), .pointer (some ⟨bb, ob, none⟩)] 63 (0, 0))) := by
    refine ⟨by rw [← hs3]; exact (HE2.out.1.setCell (p := ⟨X, 0, none⟩) (by show w.heap.size ≤ X; omega) _).setCell (p := ⟨X, 1, none⟩) (by show w.heap.size ≤ X; omega) _, ?_⟩
    rw [← hs3]; exact (Below.heap_setCell _ _ _ _ (by show w.heap.size ≠ X; omega)).trans ((Below.heap_setCell _ _ _ _ (by show w.heap.size ≠ X; omega)).trans HE2.out.2)
  have HQ3 := Hid.mk hs3
  clear hs3
  go_simp
  try rw [HQ3.out]
  clear HQ3 g0 g1 f0 f1
  have HHx := HHx3
  have HHy := HHy3
  refine hK.out _ _ (HSS.out _ HE3.out) (fun hHeld => ?_)
  clear hK K
  try simp only [Act.put, List.getElem_toArray, List.getElem_cons_succ, List.getElem_cons_zero, List.setIfInBounds_toArray, List.set_cons_zero, List.set_cons_succ]
  refine wpAnyH_ready (rs := [17]) (by kernel_rfl) (by simp) ?_
  refine AllReadyH.cons (o := _) rfl (fun K hK => ?_) AllReadyH.nil
  obtain ⟨w4, hs4⟩ : ∃ w4, (w3.setCell ⟨Y, 0, none⟩ (.string q1)).setCell ⟨Y, 1, none⟩ (.string q2) = w4 := ⟨_, rfl⟩
  have g0 := cell_of_row _ _ 0 _ _ _ HHy.out
  have g1 := cell_of_row _ _ 1 _ _ _ HHy.out
  have f0 := frozen_row9' (j := 0) HHy.out
  have f1 := frozen_row9' (j := 1) HHy.out
  have HHy4 : Hid (w4.heap[Y]? = some (.cells #[.string q1, .string q2] 44 (0, 0))) := by show _ = _; rw [← hs4]; exact box2_row HHy.out
  have HHx4 : Hid (w4.heap[X]? = some (.cells #[.string s1, .string s2] 44 (0, 0))) := by show _ = _; rw [← hs4]; exact (Below.heap_setCell _ _ _ _ (by show X ≠ Y; omega)).trans ((Below.heap_setCell _ _ _ _ (by show X ≠ Y; omega)).trans HHx.out)
  have HE4 : Hid (Below w.heap.size w w4 ∧ w4.heap[w.heap.size]? = some (.cells #[.pointer (some ⟨ba, oa, none⟩), .pointer (some ⟨bb, ob, none⟩)] 63 (0, 0))) := by
    refine ⟨by rw [← hs4]; exact (HE3.out.1.setCell (p := ⟨Y, 0, none⟩) (by show w.heap.size ≤ Y; omega) _).setCell (p := ⟨Y, 1, none⟩) (by show w.heap.size ≤ Y; omega) _, ?_⟩
    rw [← hs4]; exact (Below.heap_setCell _ _ _ _ (by show w.heap.size ≠ Y; omega)).trans ((Below.heap_setCell _ _ _ _ (by show w.heap.size ≠ Y; omega)).trans HE3.out.2)
  have HQ4 := Hid.mk hs4
  clear hs4
  go_simp
  try rw [HQ4.out]
  clear HQ4 g0 g1 f0 f1
  refine hK.out _ _ (HSS.out _ HE4.out) (fun hHeld => ?_)
  clear hK K
  try simp only [Act.put, List.getElem_toArray, List.getElem_cons_succ, List.getElem_cons_zero, List.setIfInBounds_toArray, List.set_cons_zero, List.set_cons_succ]
  refine wpAnyH_done (by kernel_rfl) ?_ _
  try simp only [Act.put, List.getElem_toArray, List.getElem_cons_succ, List.getElem_cons_zero, List.setIfInBounds_toArray, List.set_cons_zero, List.set_cons_succ]
  exact KEY _ _ _ ⟨HE4.out.1, HHx4.out, HHy4.out⟩
  case key =>
    intro X Y W ⟨hB, hX, hY⟩
    have HB := Hid.mk hB
    have HXr := Hid.mk hX
    have HYr := Hid.mk hY
    have c0 := cell_of_row _ _ 0 _ _ _ hX
    have c1 := cell_of_row _ _ 1 _ _ _ hX
    have d0 := cell_of_row _ _ 0 _ _ _ hY
    have d1 := cell_of_row _ _ 1 _ _ _ hY
    clear hB hX hY
    cases r1 with
    | true =>
      go_wp2_with fail
      refine (HC1.out _).mono ?_
      rintro e w5 ⟨rfl, hq⟩
      have HB5 := Hid.mk (HB.out.trans (hq.mono HB.out.size))
      clear hq
      go_wp2_with fail
      go_ret
      exact ⟨by first | rfl | simp, HB5.out⟩
    | false =>
      go_wp2_with fail
      refine (HC1.out _).mono ?_
      rintro e w5 ⟨rfl, hq⟩
      have HB5 := Hid.mk (HB.out.trans (hq.mono HB.out.size))
      have hX5 := (hq.block _ (lt_of_row' HXr.out)).trans HXr.out
      have hY5 := (hq.block _ (lt_of_row' HYr.out)).trans HYr.out
      clear hq c0 c1 d0 d1
      have c0 := cell_of_row _ _ 0 _ _ _ hX5
      have c1 := cell_of_row _ _ 1 _ _ _ hX5
      have d0 := cell_of_row _ _ 0 _ _ _ hY5
      have d1 := cell_of_row _ _ 1 _ _ _ hY5
      go_wp2_with fail
      refine (HC2.out _).mono ?_
      rintro e w6 ⟨rfl, hq⟩
      have HB6 := Hid.mk (HB5.out.trans (hq.mono HB5.out.size))
      clear hq
      go_wp2_with fail
      go_ret
      exact ⟨by first | rfl | simp, HB6.out⟩
end Go.Proofs.Ytihhjplbpaafiaa
namespace Go.Proofs.Ytihhjplbpaafiaa
open Go.RowKit Go.Shelf Go.Sort
set_option linter.unusedVariables false
set_option linter.unusedSimpArgs false
attribute [local go_sem] Oper.semAt_some

set_option maxHeartbeats 1600000 in
theorem w_tooLong (n m : Int) (w : World) : Calls Try.prog 82 #[.int .i64 n, .int .i64 m] w fun e w' => e = .returned (.bool (longI n m)) ∧ w' = w := by
  unfold longI
  by_cases h1 : 0 ≤ m
  · rw [decide_eq_true h1]
    by_cases h2 : m < n
    · rw [decide_eq_true h2]
      go_enter Try.func82, Try.ntmps82
      go_wp2_with fail
      go_ret
      exact ⟨rfl, rfl⟩
    · rw [decide_eq_false h2]
      go_enter Try.func82, Try.ntmps82
      go_wp2_with fail
      go_ret
      exact ⟨rfl, rfl⟩
  · rw [decide_eq_false h1]
    go_enter Try.func82, Try.ntmps82
    go_wp2_with fail
    go_ret
    exact ⟨by first | rfl | simp, rfl⟩

set_option maxRecDepth 100000 in
set_option maxHeartbeats 6400000 in
theorem arrs_met_both (ba oa bb ob : Nat) (w : World) (la : ba < w.heap.size) (lb : bb < w.heap.size) (sb so qb qo M ac N bc : Nat) (hM : 0 < M) (hN : 0 < N) (lsb : sb < w.heap.size) (lqb : qb < w.heap.size) (m1 n1 m2 n2 : Int) (r : Bool) (X7 : w.cell? ⟨ba, oa + 7, none⟩ = some (.slice (some ⟨sb, so, none⟩) M ac)) (Y7 : w.cell? ⟨bb, ob + 7, none⟩ = some (.slice (some ⟨qb, qo, none⟩) N bc)) (X9 : w.cell? ⟨sb, so + 9, none⟩ = some (.int .i64 m1)) (XA : w.cell? ⟨sb, so + 10, none⟩ = some (.int .i64 n1)) (Y9 : w.cell? ⟨qb, qo + 9, none⟩ = some (.int .i64 m2)) (YA : w.cell? ⟨qb, qo + 10, none⟩ = some (.int .i64 n2))
    (HC : Hid (∀ u, Below w.heap.size w u → Calls Try.prog 32 #[.pointer (some ⟨sb, so, none⟩), .pointer (some ⟨qb, qo, none⟩)] u fun e w' => e = .returned (.bool r) ∧ Below u.heap.size u w')) :
    Calls Try.prog 68 #[.agg #[.pointer (some ⟨ba, oa, none⟩), .pointer (some ⟨bb, ob, none⟩)]] w fun e w' => e = .returned (.bool (!(longI (max m1 m2) n1 || longI (max m1 m2) n2) && (decide (max m1 m2 = 0) || r))) ∧ Below w.heap.size w w' := by
  have hm1 : ((M : Int) == 0) = false := by simp; omega
  have hn1 : ((N : Int) == 0) = false := by simp; omega
  have hm3 : (0 : Int) < (M : Int) := by omega
  have hn3 : (0 : Int) < (N : Int) := by omega
  obtain ⟨L, hL⟩ : ∃ L, max m1 m2 = L := ⟨_, rfl⟩
  have HMX := Hid.mk hL
  rw [hL]
  clear hL
  obtain ⟨W0, hW0⟩ : ∃ W0, w.alloc (.cells #[.pointer (some ⟨ba, oa, none⟩), .pointer (some ⟨bb, ob, none⟩)] 63) = W0 := ⟨_, rfl⟩
  have HX : Hid (Bx2c w W0 w.heap.size (.pointer (some ⟨ba, oa, none⟩)) (.pointer (some ⟨bb, ob, none⟩))) := by rw [← hW0]; exact bx2c_new w _ _ _
  have H1 := Hid.mk (w_tooLong L n1)
  have H2 := Hid.mk (w_tooLong L n2)
  generalize longI L n1 = l1 at H1 ⊢
  generalize longI L n2 = l2 at H2 ⊢
  cases l1 with
  | true =>
    have p0 := HX.out.c0
    have p1 := HX.out.c1
    have x7 := (HX.out.below.cell (p := ⟨_, _, _⟩) la).trans X7
    have y7 := (HX.out.below.cell (p := ⟨_, _, _⟩) lb).trans Y7
    have x9 := (HX.out.below.cell (p := ⟨_, _, _⟩) lsb).trans X9
    have xa := (HX.out.below.cell (p := ⟨_, _, _⟩) lsb).trans XA
    have y9 := (HX.out.below.cell (p := ⟨_, _, _⟩) lqb).trans Y9
    have ya := (HX.out.below.cell (p := ⟨_, _, _⟩) lqb).trans YA
    go_enter Try.func68, Try.ntmps68
    go_upto_region 3 with fail
    have Ap0 := fun d os => cell_regrown p0 d os
    have Ap1 := fun d os => cell_regrown p1 d os
    have Ax7 := fun d os => cell_regrown x7 d os
    have Ay7 := fun d os => cell_regrown y7 d os
    have Ax9 := fun d os => cell_regrown x9 d os
    have Axa := fun d os => cell_regrown xa d os
    have Ay9 := fun d os => cell_regrown y9 d os
    have Aya := fun d os => cell_regrown ya d os
    refine wp_region_quiet_below (by kernel_rfl) (by kernel_rfl) ?_
    repeat (go_big_quiet_step (fail))
    refine wpQuiet_nil ?_
    intro w1 hw'
    have hbw9 : Below W0.heap.size W0 w1 := by
      obtain ⟨⟨dq, osq⟩, rfl⟩ := hw'
      exact below_regrown W0 dq osq
    clear hw'
    have HX1 := Hid.mk (HX.out.keep hbw9)
    clear hbw9 Ap0 Ap1 Ax7 Ay7 Ax9 Axa Ay9 Aya
    clear p0 p1 x7 y7 x9 xa y9 ya
    have p0 := HX1.out.c0
    have p1 := HX1.out.c1
    have x7 := (HX1.out.below.cell (p := ⟨_, _, _⟩) la).trans X7
    have y7 := (HX1.out.below.cell (p := ⟨_, _, _⟩) lb).trans Y7
    have x9 := (HX1.out.below.cell (p := ⟨_, _, _⟩) lsb).trans X9
    have xa := (HX1.out.below.cell (p := ⟨_, _, _⟩) lsb).trans XA
    have y9 := (HX1.out.below.cell (p := ⟨_, _, _⟩) lqb).trans Y9
    have ya := (HX1.out.below.cell (p := ⟨_, _, _⟩) lqb).trans YA
    go_upto_region 4 with fail
    have Ap0 := fun d os => cell_regrown p0 d os
    have Ap1 := fun d os => cell_regrown p1 d os
    have Ax7 := fun d os => cell_regrown x7 d os
    have Ay7 := fun d os => cell_regrown y7 d os
    have Ax9 := fun d os => cell_regrown x9 d os
    have Axa := fun d os => cell_regrown xa d os
    have Ay9 := fun d os => cell_regrown y9 d os
    have Aya := fun d os => cell_regrown ya d os
    refine wp_region_quiet_below (by kernel_rfl) (by kernel_rfl) ?_
    repeat (go_big_quiet_step (fail))
    refine wpQuiet_nil ?_
    intro w2 hw'
    have hbw9 : Below w1.heap.size w1 w2 := by
      obtain ⟨⟨dq, osq⟩, rfl⟩ := hw'
      exact below_regrown w1 dq osq
    clear hw'
    have HX2 := Hid.mk (HX1.out.keep hbw9)
    clear hbw9 Ap0 Ap1 Ax7 Ay7 Ax9 Axa Ay9 Aya
    clear p0 p1 x7 y7 x9 xa y9 ya
    have p0 := HX2.out.c0
    have p1 := HX2.out.c1
    have x7 := (HX2.out.below.cell (p := ⟨_, _, _⟩) la).trans X7
    have y7 := (HX2.out.below.cell (p := ⟨_, _, _⟩) lb).trans Y7
    have x9 := (HX2.out.below.cell (p := ⟨_, _, _⟩) lsb).trans X9
    have xa := (HX2.out.below.cell (p := ⟨_, _, _⟩) lsb).trans XA
    have y9 := (HX2.out.below.cell (p := ⟨_, _, _⟩) lqb).trans Y9
    have ya := (HX2.out.below.cell (p := ⟨_, _, _⟩) lqb).trans YA
    try rw [HMX.out]
    go_wp2_with fail
    refine (H1.out _).mono ?_
    rintro e w3 ⟨rfl, hw⟩
    rw [hw]
    clear hw
    go_wp2_with fail
    go_ret
    exact ⟨by first | rfl | simp, HX2.out.below⟩
  | false =>
    cases l2 with
    | true =>
      have p0 := HX.out.c0
      have p1 := HX.out.c1
      have x7 := (HX.out.below.cell (p := ⟨_, _, _⟩) la).trans X7
      have y7 := (HX.out.below.cell (p := ⟨_, _, _⟩) lb).trans Y7
      have x9 := (HX.out.below.cell (p := ⟨_, _, _⟩) lsb).trans X9
      have xa := (HX.out.below.cell (p := ⟨_, _, _⟩) lsb).trans XA
      have y9 := (HX.out.below.cell (p := ⟨_, _, _⟩) lqb).trans Y9
      have ya := (HX.out.below.cell (p := ⟨_, _, _⟩) lqb).trans YA
      go_enter Try.func68, Try.ntmps68
      go_upto_region 3 with fail
      have Ap0 := fun d os => cell_regrown p0 d os
      have Ap1 := fun d os => cell_regrown p1 d os
      have Ax7 := fun d os => cell_regrown x7 d os
      have Ay7 := fun d os => cell_regrown y7 d os
      have Ax9 := fun d os => cell_regrown x9 d os
      have Axa := fun d os => cell_regrown xa d os
      have Ay9 := fun d os => cell_regrown y9 d os
      have Aya := fun d os => cell_regrown ya d os
      refine wp_region_quiet_below (by kernel_rfl) (by kernel_rfl) ?_
      repeat (go_big_quiet_step (fail))
      refine wpQuiet_nil ?_
      intro w1 hw'
      have hbw9 : Below W0.heap.size W0 w1 := by
        obtain ⟨⟨dq, osq⟩, rfl⟩ := hw'
        exact below_regrown W0 dq osq
      clear hw'
      have HX1 := Hid.mk (HX.out.keep hbw9)
      clear hbw9 Ap0 Ap1 Ax7 Ay7 Ax9 Axa Ay9 Aya
      clear p0 p1 x7 y7 x9 xa y9 ya
      have p0 := HX1.out.c0
      have p1 := HX1.out.c1
      have x7 := (HX1.out.below.cell (p := ⟨_, _, _⟩) la).trans X7
      have y7 := (HX1.out.below.cell (p := ⟨_, _, _⟩) lb).trans Y7
      have x9 := (HX1.out.below.cell (p := ⟨_, _, _⟩) lsb).trans X9
      have xa := (HX1.out.below.cell (p := ⟨_, _, _⟩) lsb).trans XA
      have y9 := (HX1.out.below.cell (p := ⟨_, _, _⟩) lqb).trans Y9
      have ya := (HX1.out.below.cell (p := ⟨_, _, _⟩) lqb).trans YA
      go_upto_region 4 with fail
      have Ap0 := fun d os => cell_regrown p0 d os
      have Ap1 := fun d os => cell_regrown p1 d os
      have Ax7 := fun d os => cell_regrown x7 d os
      have Ay7 := fun d os => cell_regrown y7 d os
      have Ax9 := fun d os => cell_regrown x9 d os
      have Axa := fun d os => cell_regrown xa d os
      have Ay9 := fun d os => cell_regrown y9 d os
      have Aya := fun d os => cell_regrown ya d os
      refine wp_region_quiet_below (by kernel_rfl) (by kernel_rfl) ?_
      repeat (go_big_quiet_step (fail))
      refine wpQuiet_nil ?_
      intro w2 hw'
      have hbw9 : Below w1.heap.size w1 w2 := by
        obtain ⟨⟨dq, osq⟩, rfl⟩ := hw'
        exact below_regrown w1 dq osq
      clear hw'
      have HX2 := Hid.mk (HX1.out.keep hbw9)
      clear hbw9 Ap0 Ap1 Ax7 Ay7 Ax9 Axa Ay9 Aya
      clear p0 p1 x7 y7 x9 xa y9 ya
      have p0 := HX2.out.c0
      have p1 := HX2.out.c1
      have x7 := (HX2.out.below.cell (p := ⟨_, _, _⟩) la).trans X7
      have y7 := (HX2.out.below.cell (p := ⟨_, _, _⟩) lb).trans Y7
      have x9 := (HX2.out.below.cell (p := ⟨_, _, _⟩) lsb).trans X9
      have xa := (HX2.out.below.cell (p := ⟨_, _, _⟩) lsb).trans XA
      have y9 := (HX2.out.below.cell (p := ⟨_, _, _⟩) lqb).trans Y9
      have ya := (HX2.out.below.cell (p := ⟨_, _, _⟩) lqb).trans YA
      try rw [HMX.out]
      go_wp2_with fail
      refine (H1.out _).mono ?_
      rintro e w3 ⟨rfl, hw⟩
      rw [hw]
      clear hw
      go_wp2_with fail
      refine (H2.out _).mono ?_
      rintro e w4 ⟨rfl, hw⟩
      rw [hw]
      clear hw
      go_wp2_with fail
      go_ret
      exact ⟨by first | rfl | simp, HX2.out.below⟩
    | false =>
      by_cases he : L = 0
      · have e : decide (L = 0) = true := decide_eq_true he
        have e' : (L == 0) = true := by simpa using he
        rw [e]
        clear he e
        have p0 := HX.out.c0
        have p1 := HX.out.c1
        have x7 := (HX.out.below.cell (p := ⟨_, _, _⟩) la).trans X7
        have y7 := (HX.out.below.cell (p := ⟨_, _, _⟩) lb).trans Y7
        have x9 := (HX.out.below.cell (p := ⟨_, _, _⟩) lsb).trans X9
        have xa := (HX.out.below.cell (p := ⟨_, _, _⟩) lsb).trans XA
        have y9 := (HX.out.below.cell (p := ⟨_, _, _⟩) lqb).trans Y9
        have ya := (HX.out.below.cell (p := ⟨_, _, _⟩) lqb).trans YA
        go_enter Try.func68, Try.ntmps68
        go_upto_region 3 with fail
        have Ap0 := fun d os => cell_regrown p0 d os
        have Ap1 := fun d os => cell_regrown p1 d os
        have Ax7 := fun d os => cell_regrown x7 d os
        have Ay7 := fun d os => cell_regrown y7 d os
        have Ax9 := fun d os => cell_regrown x9 d os
        have Axa := fun d os => cell_regrown xa d os
        have Ay9 := fun d os => cell_regrown y9 d os
        have Aya := fun d os => cell_regrown ya d os
        refine wp_region_quiet_below (by kernel_rfl) (by kernel_rfl) ?_
        repeat (go_big_quiet_step (fail))
        refine wpQuiet_nil ?_
        intro w1 hw'
        have hbw9 : Below W0.heap.size W0 w1 := by
          obtain ⟨⟨dq, osq⟩, rfl⟩ := hw'
          exact below_regrown W0 dq osq
        clear hw'
        have HX1 := Hid.mk (HX.out.keep hbw9)
        clear hbw9 Ap0 Ap1 Ax7 Ay7 Ax9 Axa Ay9 Aya
        clear p0 p1 x7 y7 x9 xa y9 ya
        have p0 := HX1.out.c0
        have p1 := HX1.out.c1
        have x7 := (HX1.out.below.cell (p := ⟨_, _, _⟩) la).trans X7
        have y7 := (HX1.out.below.cell (p := ⟨_, _, _⟩) lb).trans Y7
        have x9 := (HX1.out.below.cell (p := ⟨_, _, _⟩) lsb).trans X9
        have xa := (HX1.out.below.cell (p := ⟨_, _, _⟩) lsb).trans XA
        have y9 := (HX1.out.below.cell (p := ⟨_, _, _⟩) lqb).trans Y9
        have ya := (HX1.out.below.cell (p := ⟨_, _, _⟩) lqb).trans YA
        go_upto_region 4 with fail
        have Ap0 := fun d os => cell_regrown p0 d os
        have Ap1 := fun d os => cell_regrown p1 d os
        have Ax7 := fun d os => cell_regrown x7 d os
        have Ay7 := fun d os => cell_regrown y7 d os
        have Ax9 := fun d os => cell_regrown x9 d os
        have Axa := fun d os => cell_regrown xa d os
        have Ay9 := fun d os => cell_regrown y9 d os
        have Aya := fun d os => cell_regrown ya d os
        refine wp_region_quiet_below (by kernel_rfl) (by kernel_rfl) ?_
        repeat (go_big_quiet_step (fail))
        refine wpQuiet_nil ?_
        intro w2 hw'
        have hbw9 : Below w1.heap.size w1 w2 := by
          obtain ⟨⟨dq, osq⟩, rfl⟩ := hw'
          exact below_regrown w1 dq osq
        clear hw'
        have HX2 := Hid.mk (HX1.out.keep hbw9)
        clear hbw9 Ap0 Ap1 Ax7 Ay7 Ax9 Axa Ay9 Aya
        clear p0 p1 x7 y7 x9 xa y9 ya
        have p0 := HX2.out.c0
        have p1 := HX2.out.c1
        have x7 := (HX2.out.below.cell (p := ⟨_, _, _⟩) la).trans X7
        have y7 := (HX2.out.below.cell (p := ⟨_, _, _⟩) lb).trans Y7
        have x9 := (HX2.out.below.cell (p := ⟨_, _, _⟩) lsb).trans X9
        have xa := (HX2.out.below.cell (p := ⟨_, _, _⟩) lsb).trans XA
        have y9 := (HX2.out.below.cell (p := ⟨_, _, _⟩) lqb).trans Y9
        have ya := (HX2.out.below.cell (p := ⟨_, _, _⟩) lqb).trans YA
        try rw [HMX.out]
        go_wp2_with fail
        refine (H1.out _).mono ?_
        rintro e w3 ⟨rfl, hw⟩
        rw [hw]
        clear hw
        go_wp2_with fail
        refine (H2.out _).mono ?_
        rintro e w4 ⟨rfl, hw⟩
        rw [hw]
        clear hw
        go_upto_region 7 with fail
        have Ap0 := fun d os => cell_regrown p0 d os
        have Ap1 := fun d os => cell_regrown p1 d os
        have Ax7 := fun d os => cell_regrown x7 d os
        have Ay7 := fun d os => cell_regrown y7 d os
        have Ax9 := fun d os => cell_regrown x9 d os
        have Axa := fun d os => cell_regrown xa d os
        have Ay9 := fun d os => cell_regrown y9 d os
        have Aya := fun d os => cell_regrown ya d os
        refine wp_region_quiet_below (by kernel_rfl) (by kernel_rfl) ?_
        repeat (go_big_quiet_step (fail))
        refine wpQuiet_nil ?_
        intro w5 hw'
        have hbw9 : Below w2.heap.size w2 w5 := by
          obtain ⟨⟨dq, osq⟩, rfl⟩ := hw'
          exact below_regrown w2 dq osq
        clear hw'
        have HX5 := Hid.mk (HX2.out.keep hbw9)
        clear hbw9 Ap0 Ap1 Ax7 Ay7 Ax9 Axa Ay9 Aya
        clear p0 p1 x7 y7 x9 xa y9 ya
        go_wp2_with fail
        go_ret
        exact ⟨by first | rfl | simp, HX5.out.below⟩
      · have e : decide (L = 0) = false := decide_eq_false he
        have e' : (L == 0) = false := by simpa using he
        rw [e]
        clear he e
        have p0 := HX.out.c0
        have p1 := HX.out.c1
        have x7 := (HX.out.below.cell (p := ⟨_, _, _⟩) la).trans X7
        have y7 := (HX.out.below.cell (p := ⟨_, _, _⟩) lb).trans Y7
        have x9 := (HX.out.below.cell (p := ⟨_, _, _⟩) lsb).trans X9
        have xa := (HX.out.below.cell (p := ⟨_, _, _⟩) lsb).trans XA
        have y9 := (HX.out.below.cell (p := ⟨_, _, _⟩) lqb).trans Y9
        have ya := (HX.out.below.cell (p := ⟨_, _, _⟩) lqb).trans YA
        go_enter Try.func68, Try.ntmps68
        go_upto_region 3 with fail
        have Ap0 := fun d os => cell_regrown p0 d os
        have Ap1 := fun d os => cell_regrown p1 d os
        have Ax7 := fun d os => cell_regrown x7 d os
        have Ay7 := fun d os => cell_regrown y7 d os
        have Ax9 := fun d os => cell_regrown x9 d os
        have Axa := fun d os => cell_regrown xa d os
        have Ay9 := fun d os => cell_regrown y9 d os
        have Aya := fun d os => cell_regrown ya d os
        refine wp_region_quiet_below (by kernel_rfl) (by kernel_rfl) ?_
        repeat (go_big_quiet_step (fail))
        refine wpQuiet_nil ?_
        intro w1 hw'
        have hbw9 : Below W0.heap.size W0 w1 := by
          obtain ⟨⟨dq, osq⟩, rfl⟩ := hw'
          exact below_regrown W0 dq osq
        clear hw'
        have HX1 := Hid.mk (HX.out.keep hbw9)
        clear hbw9 Ap0 Ap1 Ax7 Ay7 Ax9 Axa Ay9 Aya
        clear p0 p1 x7 y7 x9 xa y9 ya
        have p0 := HX1.out.c0
        have p1 := HX1.out.c1
        have x7 := (HX1.out.below.cell (p := ⟨_, _, _⟩) la).trans X7
        have y7 := (HX1.out.below.cell (p := ⟨_, _, _⟩) lb).trans Y7
        have x9 := (HX1.out.below.cell (p := ⟨_, _, _⟩) lsb).trans X9
        have xa := (HX1.out.below.cell (p := ⟨_, _, _⟩) lsb).trans XA
        have y9 := (HX1.out.below.cell (p := ⟨_, _, _⟩) lqb).trans Y9
        have ya := (HX1.out.below.cell (p := ⟨_, _, _⟩) lqb).trans YA
        go_upto_region 4 with fail
        have Ap0 := fun d os => cell_regrown p0 d os
        have Ap1 := fun d os => cell_regrown p1 d os
        have Ax7 := fun d os => cell_regrown x7 d os
        have Ay7 := fun d os => cell_regrown y7 d os
        have Ax9 := fun d os => cell_regrown x9 d os
        have Axa := fun d os => cell_regrown xa d os
        have Ay9 := fun d os => cell_regrown y9 d os
        have Aya := fun d os => cell_regrown ya d os
        refine wp_region_quiet_below (by kernel_rfl) (by kernel_rfl) ?_
        repeat (go_big_quiet_step (fail))
        refine wpQuiet_nil ?_
        intro w2 hw'
        have hbw9 : Below w1.heap.size w1 w2 := by
          obtain ⟨⟨dq, osq⟩, rfl⟩ := hw'
          exact below_regrown w1 dq osq
        clear hw'
        have HX2 := Hid.mk (HX1.out.keep hbw9)
        clear hbw9 Ap0 Ap1 Ax7 Ay7 Ax9 Axa Ay9 Aya
        clear p0 p1 x7 y7 x9 xa y9 ya
        have p0 := HX2.out.c0
        have p1 := HX2.out.c1
        have x7 := (HX2.out.below.cell (p := ⟨_, _, _⟩) la).trans X7
        have y7 := (HX2.out.below.cell (p := ⟨_, _, _⟩) lb).trans Y7
        have x9 := (HX2.out.below.cell (p := ⟨_, _, _⟩) lsb).trans X9
        have xa := (HX2.out.below.cell (p := ⟨_, _, _⟩) lsb).trans XA
        have y9 := (HX2.out.below.cell (p := ⟨_, _, _⟩) lqb).trans Y9
        have ya := (HX2.out.below.cell (p := ⟨_, _, _⟩) lqb).trans YA
        try rw [HMX.out]
        go_wp2_with fail
        refine (H1.out _).mono ?_
        rintro e w3 ⟨rfl, hw⟩
        rw [hw]
        clear hw
        go_wp2_with fail
        refine (H2.out _).mono ?_
        rintro e w4 ⟨rfl, hw⟩
        rw [hw]
        clear hw
        have HCC := Hid.mk (fun (d : Nat) (os : Array Obj) => HC.out (grow (redrawn w2 d) os) (HX2.out.below.trans ((below_regrown w2 d os).mono HX2.out.below.size)))
        go_upto_region 7 with fail
        have Ap0 := fun d os => cell_regrown p0 d os
        have Ap1 := fun d os => cell_regrown p1 d os
        have Ax7 := fun d os => cell_regrown x7 d os
        have Ay7 := fun d os => cell_regrown y7 d os
        have Ax9 := fun d os => cell_regrown x9 d os
        have Axa := fun d os => cell_regrown xa d os
        have Ay9 := fun d os => cell_regrown y9 d os
        have Aya := fun d os => cell_regrown ya d os
        refine wp_region_quiet_below (by kernel_rfl) (by kernel_rfl) ?_
        repeat (go_big_quiet_step (exact Calls.regrown_of (HCC.out _ _)))
        refine wpQuiet_nil ?_
        intro w5 hw'
        have hbw9 : Below w2.heap.size w2 w5 := by
          obtain ⟨⟨dq, osq⟩, rfl⟩ := hw'
          exact below_regrown w2 dq osq
        clear hw'
        have HX5 := Hid.mk (HX2.out.keep hbw9)
        clear hbw9 Ap0 Ap1 Ax7 Ay7 Ax9 Axa Ay9 Aya
        clear p0 p1 x7 y7 x9 xa y9 ya
        go_wp2_with fail
        go_ret
        exact ⟨by first | rfl | simp, HX5.out.below⟩
end Go.Proofs.Ytihhjplbpaafiaa
